/-
  Walk of the exact law on QuarantineValid.
-/
import Derived.Test.YtblknnifccmpkaaEqQ
import Derived.Test.YtblknnifccmpkaaQuarI
namespace Go.Proofs.Ytblknnifccmpkaa
open Go.RowKit Wo Pu Qu

/-- What comes in from outside: lengths that Go bears. -/
def WideQ (q : Qr) : Prop := Fit q.m ∧ q.m.length ≤ maxLen ∧ FitA q.rs ∧ q.rs.length ≤ maxLen
theorem WideQ.fit {q : Qr} (h : WideQ q) (hs : allSzQ q ≤ 1048576) : FitQ q := by
  obtain ⟨h1, h2, h3, h4⟩ := h
  obtain ⟨s1, s2, s3, s4⟩ := allSzQ_small hs
  exact ⟨h1, s2, s3, fun a ha => ⟨(h3 a ha).1, (s4 a ha).2⟩⟩
set_option linter.unusedSimpArgs false in
set_option maxRecDepth 100000 in
set_option maxHeartbeats 8000000 in
theorem exactQuarantineValid_any (v : Value) (q : Qr) (w : World) (h : Quar w w.heap.size v q) (hq : WideQ q) :
    Calls Try.prog 13 #[v] w (Ret (.bool true) w) := by
  obtain ⟨A, c, A2, c2, rfl, -, -, -, -⟩ := id h
  have HW := hid hq
  clear hq
  unfold qv at *
  have x0 := BlkQ.new_ w 58 (.slice A q.m.length c) (.slice A2 q.rs.length c2)
  have b0 := (Below.refl w.heap.size w).alloc (Nat.le_refl _) (.cells #[.slice A q.m.length c, .slice A2 q.rs.length c2] 58)
  obtain ⟨w0, hw0⟩ : ∃ x, w.alloc (.cells #[.slice A q.m.length c, .slice A2 q.rs.length c2] 58) = x := ⟨_, rfl⟩
  obtain ⟨g0, hg0⟩ : ∃ g, w.heap.size = g := ⟨_, rfl⟩
  rw [hw0] at x0 b0
  rw [hg0] at x0
  have q0 := h.on b0 b0.size
  obtain ⟨y0, y1, -⟩ := id x0.reads
  go_enter Try.func13, Try.ntmps13
  go_wp2_with fail
  refine (szQuarantine_any _ q 1048576 w0 q0 HW.out.1 HW.out.2.1 HW.out.2.2.1 HW.out.2.2.2 (by omega) (by omega)).mono ?_
  rintro e w1 ⟨r, rfl, hr, d⟩
  have b1 := b0.trans (d.mono b0.size)
  have q1 := q0.on d d.size
  have x1 := x0.later d
  clear y0 y1 x0 q0 hw0 hg0
  rcases hr with rfl | ⟨r0, hr⟩
  · go_wp2
    go_ret
    exact .mk_ b1
  · have hsz : allSzQ q ≤ 1048576 := by omega
    have HR := hid hr
    have HSM := hid (allSzQ_small hsz)
    have HF := hid (HW.out.fit hsz)
    clear hr hsz
    obtain ⟨bq, hbq⟩ := bool_of' (QV q)
    have HB := hid hbq
    clear hbq
    obtain ⟨y0, y1, -⟩ := id x1.reads
    go_wp2_with fail
    refine (toQuarantine_any _ q w1 q1 HSM.out).mono ?_
    rintro e w2 ⟨v2, rfl, o2, d⟩
    have p2 := o2.quar
    obtain ⟨g21, g22, -, rfl, -⟩ := id o2
    unfold qv at *
    have zz := (d).size
    replace q1 := q1.on d zz
    replace x1 := x1.later d
    replace b1 := b1.trans ((d).mono b1.size)
    clear zz y0 y1
    obtain ⟨y0, y1, -⟩ := id x1.reads
    clear o2
    go_wp2_with fail
    refine (specQuarantineValid_is bq _ q w2 p2 HF.out HB.out).mono ?_
    rintro e w3 ⟨rfl, d⟩
    have zz := (d).size
    replace q1 := q1.on d zz
    replace x1 := x1.later d
    replace b1 := b1.trans ((d).mono b1.size)
    clear zz y0 y1
    obtain ⟨y0, y1, -⟩ := id x1.reads
    clear p2
    go_wp2_with fail
    refine (toQuarantine_any _ q w3 q1 HSM.out).mono ?_
    rintro e w4 ⟨v4, rfl, o4, d⟩
    have p4 := o4.quar
    obtain ⟨g41, g42, -, rfl, -⟩ := id o4
    unfold qv at *
    have zz := (d).size
    replace q1 := q1.on d zz
    replace x1 := x1.later d
    replace b1 := b1.trans ((d).mono b1.size)
    clear zz y0 y1
    obtain ⟨y0, y1, -⟩ := id x1.reads
    clear o4
    obtain ⟨g5, hg⟩ : ∃ g, (w4).heap.size = g := ⟨_, rfl⟩
    have al := (Below.refl (w4).heap.size w4).alloc (Nat.le_refl _) (.cells #[.slice (some ⟨g41, 0, none⟩) q.m.length q.m.length, .slice (some ⟨g42, 0, none⟩) q.rs.length q.rs.length] 26)
    have xn := BlkQ.new_ w4 26 (.slice (some ⟨g41, 0, none⟩) q.m.length q.m.length) (.slice (some ⟨g42, 0, none⟩) q.rs.length q.rs.length)
    obtain ⟨w4', hw'⟩ : ∃ x, (w4).alloc (.cells #[.slice (some ⟨g41, 0, none⟩) q.m.length q.m.length, .slice (some ⟨g42, 0, none⟩) q.rs.length q.rs.length] 26) = x := ⟨_, rfl⟩
    rw [hw'] at al xn
    rw [hg] at xn
    have x5 := xn
    clear xn
    have zz := (al).size
    replace q1 := q1.on al zz
    replace x1 := x1.later al
    replace b1 := b1.trans ((al).mono b1.size)
    clear zz y0 y1
    obtain ⟨y0, y1, -⟩ := id x1.reads
    replace p4 := p4.on al al.size
    clear al
    obtain ⟨y50, y51, -⟩ := id x5.reads
    go_wp2_with fail
    refine (implQuarantineValid_is bq _ q w4' p4 HF.out HB.out).mono ?_
    rintro e w6 ⟨rfl, d⟩
    have zz := (d).size
    replace q1 := q1.on d zz
    replace x1 := x1.later d
    replace b1 := b1.trans ((d).mono b1.size)
    clear zz y0 y1
    obtain ⟨y0, y1, -⟩ := id x1.reads
    replace p4 := p4.on d d.size
    replace x5 := x5.later d
    clear d y50 y51
    go_wp2_with fail
    have b0 := (Below.refl w6.heap.size w6).drew
    have HX : Hid (∀ y, Below w6.heap.size w6 y → y.cell? ⟨g0, 0, none⟩ = some (.slice A q.m.length c) ∧ y.cell? ⟨g0, 1, none⟩ = some (.slice A2 q.rs.length c2) ∧ y.cell? ⟨g5, 0, none⟩ = some (.slice (some ⟨g41, 0, none⟩) q.m.length q.m.length) ∧ y.cell? ⟨g5, 1, none⟩ = some (.slice (some ⟨g42, 0, none⟩) q.rs.length q.rs.length)) := fun y hy => ⟨(x1.later hy).reads.1, (x1.later hy).reads.2.1, (x5.later hy).reads.1, (x5.later hy).reads.2.1⟩
    clear y0 y1
    refine wp_region_held_drew (S := fun y => y.cell? ⟨g0, 0, none⟩ = some (.slice A q.m.length c) ∧ y.cell? ⟨g0, 1, none⟩ = some (.slice A2 q.rs.length c2) ∧ y.cell? ⟨g5, 0, none⟩ = some (.slice (some ⟨g41, 0, none⟩) q.m.length q.m.length) ∧ y.cell? ⟨g5, 1, none⟩ = some (.slice (some ⟨g42, 0, none⟩) q.rs.length q.rs.length)) (by kernel_rfl) (HX.out _ b0) (fun hHeld => ?_)
    refine wpAnyH_take (i := 0) (oi := _) (v := ?_) rfl (by kernel_rfl) (by kernel_rfl) (by kernel_rfl) (fun _ _ _ h => h) (Or.inl ⟨by rfl, ?_⟩) hHeld ?_
    rotate_left
    · (intro w' hSw; (try dsimp only at hSw); go_simp <;> with_reducible rfl)
    try simp only [Act.put, List.getElem_toArray, List.getElem_cons_succ, List.getElem_cons_zero, List.setIfInBounds_toArray, List.set_cons_zero, List.set_cons_succ]
    refine wpAnyH_take (i := 1) (oi := _) (v := ?_) rfl (by kernel_rfl) (by kernel_rfl) (by kernel_rfl) (fun _ _ _ h => h) (Or.inl ⟨by rfl, ?_⟩) hHeld ?_
    rotate_left
    · (intro w' hSw; (try dsimp only at hSw); go_simp <;> with_reducible rfl)
    try simp only [Act.put, List.getElem_toArray, List.getElem_cons_succ, List.getElem_cons_zero, List.setIfInBounds_toArray, List.set_cons_zero, List.set_cons_succ]
    refine wpAnyH_ready (rs := [2]) (by kernel_rfl) (by simp) (AllReadyH.cons (o := _) rfl (fun K hK => ?_) AllReadyH.nil)
    try simp only [Act.put, List.getElem_toArray, List.getElem_cons_succ, List.getElem_cons_zero, List.setIfInBounds_toArray, List.set_cons_zero, List.set_cons_succ]
    go_simp
    go_at_call 44
    refine (toQuarantine_any _ q _ (q1.on b0 b0.size) HSM.out).mono ?_
    rintro e w7 ⟨v7, rfl, o7, d⟩
    have p7 := o7.quar
    have b7 := b0.trans (d.mono b0.size)
    refine hK.out _ _ (HX.out _ b7) (fun hHeld => ?_)
    clear hK K
    try simp only [Act.put, List.getElem_toArray, List.getElem_cons_succ, List.getElem_cons_zero, List.setIfInBounds_toArray, List.set_cons_zero, List.set_cons_succ]
    refine wpAnyH_ready (rs := [3]) (by kernel_rfl) (by simp) (AllReadyH.cons (o := _) rfl (fun K hK => ?_) AllReadyH.nil)
    try simp only [Act.put, List.getElem_toArray, List.getElem_cons_succ, List.getElem_cons_zero, List.setIfInBounds_toArray, List.set_cons_zero, List.set_cons_succ]
    go_simp
    go_at_call 45
    refine (eqQuarantine_same _ _ q _ (p4.on b7 b7.size) p7 HSM.out).mono ?_
    rintro e w8 ⟨rfl, d8⟩
    have b8 := b7.trans (d8.mono b7.size)
    refine hK.out _ _ (HX.out _ b8) (fun hHeld => ?_)
    clear hK K
    try simp only [Act.put, List.getElem_toArray, List.getElem_cons_succ, List.getElem_cons_zero, List.setIfInBounds_toArray, List.set_cons_zero, List.set_cons_succ]
    refine wpAnyH_take (i := 4) (oi := _) (v := ?_) rfl (by kernel_rfl) (by kernel_rfl) (by kernel_rfl) (fun _ _ _ h => h) (Or.inl ⟨by rfl, ?_⟩) hHeld ?_
    rotate_left
    · (intro w' hSw; (try dsimp only at hSw); go_simp <;> with_reducible rfl)
    try simp only [Act.put, List.getElem_toArray, List.getElem_cons_succ, List.getElem_cons_zero, List.setIfInBounds_toArray, List.set_cons_zero, List.set_cons_succ]
    refine wpAnyH_done (by kernel_rfl) ?_ _
    replace b1 := b1.trans (b8.mono b1.size)
    go_wp2
    go_ret
    exact .mk_ b1
end Go.Proofs.Ytblknnifccmpkaa
