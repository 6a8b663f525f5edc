/-
  Walks of the exact laws on QuarantinePromote and QuarantineDiscard.
-/
import Derived.Test.YtblknnifccmpkaaLawEQu1
import Derived.Test.YtblknnifccmpkaaLawQu1
import Derived.Test.YtblknnifccmpkaaG7E
import Derived.Test.YtblknnifccmpkaaQuarJ
namespace Go.Proofs.Ytblknnifccmpkaa
open Go.RowKit Wo Pu Qu

theorem nil_few : FewQ ⟨[], []⟩ := ⟨⟨Nat.zero_le _, fun o ho => by cases ho⟩, Nat.zero_le _, fun a ha => by cases ha⟩
theorem pro_few {q : Qr} {t : Int} {y : QWay} (h : IsPro q t y) : FewQ (y.q q) := by
  cases y with
  | bad => exact nil_few
  | no => exact QV.few h.1.1
  | yes q' => obtain ⟨⟨h1, _⟩, z, _, h4, rfl⟩ := h; exact QV.few (del_valid h1 h4.1).1
theorem dis_few {q : Qr} {t : Int} {y : QWay} (h : IsDis q t y) : FewQ (y.q q) := by
  cases y with
  | bad => exact nil_few
  | no => exact QV.few h.1.1
  | yes q' => obtain ⟨⟨h1, _⟩, _, rfl⟩ := h; exact QV.few (del_valid h1 h1.1).1
theorem put_few {q : Qr} {t : Int} {l : List Ob} {y : QWay} (h : IsPut q t l y) : FewQ (y.q q) := by
  cases y with
  | bad => exact nil_few
  | no => exact QV.few h.1.1
  | yes q' => obtain ⟨⟨h1, h2, _, h3⟩, x, z, h4, rfl⟩ := h; exact QV.few (put_valid h1 h2 h3 h4).1
theorem Apart.only {B C : Nat} {w w' : World} (h : Apart B C w w') : Only (fun k => B ≤ k ∧ k < C) w w' :=
  ⟨h.1.os, h.1.tape, h.1.output, h.1.size, fun k hk hc => by
    rcases Nat.lt_or_ge k B with e | e
    · exact h.1.block k e
    · exact h.2 k (by have : ¬ (B ≤ k ∧ k < C) := hc; omega) hk⟩
set_option linter.unusedSimpArgs false in
set_option maxRecDepth 100000 in
set_option maxHeartbeats 16000000 in
theorem exactQuarantinePromote_any (v : Value) (q : Qr) (t : Int) (w : World) (h : Quar w w.heap.size v q) (hq : WideQ q) (_wt : (Lit.int .i64 t).wf = true) :
    Calls Try.prog 15 #[v, .int .i64 t] w (Ret (.bool true) w) := by
  obtain ⟨A0, c0, A1, c1, rfl, -, -, -, -⟩ := id h
  have HW := hid hq
  clear hq
  unfold qv at *
  have x0 := BlkQ.new_ w 58 (.slice A0 q.m.length c0) (.slice A1 q.rs.length c1)
  have b1 := (Below.refl w.heap.size w).alloc (Nat.le_refl _) (.cells #[.slice A0 q.m.length c0, .slice A1 q.rs.length c1] 58)
  obtain ⟨w0, hw0⟩ : ∃ x, w.alloc (.cells #[.slice A0 q.m.length c0, .slice A1 q.rs.length c1] 58) = x := ⟨_, rfl⟩
  obtain ⟨g0, hg0⟩ : ∃ g, w.heap.size = g := ⟨_, rfl⟩
  rw [hw0] at x0 b1
  rw [hg0] at x0
  have HA : Hid (∀ y, Below w.heap.size w y → Quar y y.heap.size (.agg #[.slice A0 q.m.length c0, .slice A1 q.rs.length c1]) q) := fun y hy => h.on hy hy.size
  obtain ⟨y00, y01, -⟩ := id x0.reads
  go_enter Try.func15, Try.ntmps15
  go_wp2_with fail
  refine (szQuarantine_any _ q 1048576 w0 (HA.out _ b1) HW.out.1 HW.out.2.1 HW.out.2.2.1 HW.out.2.2.2 (by omega) (by omega)).mono ?_
  rintro e w1 ⟨r, rfl, hr, d⟩
  replace b1 := b1.trans (d.mono b1.size)
  replace x0 := x0.later d
  clear y00 y01 d
  obtain ⟨y00, y01, -⟩ := id x0.reads
  rcases hr with rfl | ⟨r0, hr⟩
  · go_wp2
    go_ret
    exact .mk_ b1
  · have hsz : allSzQ q ≤ 1048576 := by omega
    have HSM := hid (allSzQ_small hsz)
    have HF := hid (HW.out.fit hsz)
    have HSZ := hid hsz
    clear hr hsz
    obtain ⟨y, hy⟩ := pro_way q t
    have hsf := pro_sf hy
    have hfw := pro_few hy
    obtain ⟨q', hq'⟩ : ∃ q', y.q q = q' := ⟨_, rfl⟩
    obtain ⟨bk, hbk⟩ : ∃ bk, y.ok = bk := ⟨_, rfl⟩
    rw [hq'] at hsf hfw
    have HS' := hid hsf.1
    have HFW := hid hfw
    have HY : Hid (IsPro q t y) := hy
    have HQ' := hid hq'
    have HBK := hid hbk
    clear hsf hfw hy hq' hbk
    go_wp2_with fail
    refine (toQuarantine_any _ q w1 (HA.out _ b1) HSM.out).mono ?_
    rintro e w2 ⟨v2, rfl, o2, d⟩
    have p2 := o2.quar
    obtain ⟨g21, g22, -, rfl, -⟩ := id o2
    unfold qv at *
    replace b1 := b1.trans (d.mono b1.size)
    replace x0 := x0.later d
    clear o2 y00 y01 d
    go_wp2_with fail
    refine (specQuarantinePromote_is y _ q t w2 p2 HF.out HY.out).mono ?_
    rintro e w3 o3
    unfold Changed at o3
    rw [HQ'.out, HBK.out] at o3
    obtain ⟨v3, rfl, o3, d⟩ := o3
    have p3 := o3.quar
    obtain ⟨A3, c3, A4, c4, rfl, -, -, -, -⟩ := id o3
    unfold qv at *
    replace b1 := b1.trans (d.mono b1.size)
    replace x0 := x0.later d
    clear o3 p2 d
    obtain ⟨g3, hg⟩ : ∃ g, (w3).heap.size = g := ⟨_, rfl⟩
    have al := (Below.refl (w3).heap.size w3).alloc (Nat.le_refl _) (.cells #[.slice A3 q'.m.length c3, .slice A4 q'.rs.length c4] 26)
    have x3 := BlkQ.new_ (w3) 26 (.slice A3 q'.m.length c3) (.slice A4 q'.rs.length c4)
    obtain ⟨wS, hw'⟩ : ∃ x, (w3).alloc (.cells #[.slice A3 q'.m.length c3, .slice A4 q'.rs.length c4] 26) = x := ⟨_, rfl⟩
    rw [hw'] at al x3
    rw [hg] at x3
    replace b1 := b1.trans (al.mono b1.size)
    replace x0 := x0.later al
    replace p3 := p3.on al al.size
    have HS : Hid (∀ y, Below wS.heap.size wS y → Quar y y.heap.size (.agg #[.slice A3 q'.m.length c3, .slice A4 q'.rs.length c4]) q') := fun y hy => p3.on hy hy.size
    have sS := b1.size
    have bS := Below.refl wS.heap.size wS
    have hx3 := x3.lt
    have hx0 := x0.lt
    clear p3 al
    obtain ⟨y00, y01, -⟩ := id x0.reads
    go_wp2_with fail
    refine (toQuarantine_any _ q wS (HA.out _ b1) HSM.out).mono ?_
    rintro e w5 ⟨v5, rfl, o5, d⟩
    obtain ⟨g51, g52, -, rfl, -⟩ := id o5
    unfold qv at *
    have hX0 := d.size
    replace b1 := b1.trans (d.mono b1.size)
    replace bS := bS.trans (d.mono bS.size)
    replace x0 := x0.later d
    replace x3 := x3.later d
    clear y00 y01 d
    obtain ⟨g5, hg⟩ : ∃ g, (w5).heap.size = g := ⟨_, rfl⟩
    have al := (Below.refl (w5).heap.size w5).alloc (Nat.le_refl _) (.cells #[.slice (some ⟨g51, 0, none⟩) q.m.length q.m.length, .slice (some ⟨g52, 0, none⟩) q.rs.length q.rs.length] 26)
    have x5 := BlkQ.new_ (w5) 26 (.slice (some ⟨g51, 0, none⟩) q.m.length q.m.length) (.slice (some ⟨g52, 0, none⟩) q.rs.length q.rs.length)
    obtain ⟨wX, hw'⟩ : ∃ x, (w5).alloc (.cells #[.slice (some ⟨g51, 0, none⟩) q.m.length q.m.length, .slice (some ⟨g52, 0, none⟩) q.rs.length q.rs.length] 26) = x := ⟨_, rfl⟩
    rw [hw'] at al x5
    rw [hg] at x5
    replace b1 := b1.trans (al.mono b1.size)
    replace bS := bS.trans (al.mono bS.size)
    replace x0 := x0.later al
    replace x3 := x3.later al
    have fX := FilQ.below o5 al (Nat.le_refl _)
    obtain ⟨DX, hDX⟩ : ∃ D, w5.heap.size = D := ⟨_, rfl⟩
    have hX1 := al.size
    rw [hDX] at fX hX0 hX1
    have pX := (FilledQ.quar o5).on al al.size
    have HX : Hid (∀ y, Below wX.heap.size wX y → FilQ y wS.heap.size (.agg #[.slice (some ⟨g51, 0, none⟩) q.m.length q.m.length, .slice (some ⟨g52, 0, none⟩) q.rs.length q.rs.length]) q DX ∧ Quar y y.heap.size (.agg #[.slice (some ⟨g51, 0, none⟩) q.m.length q.m.length, .slice (some ⟨g52, 0, none⟩) q.rs.length q.rs.length]) q) := fun y hy => ⟨fX.below hy hX1, pX.on hy hy.size⟩
    have bX := Below.refl wX.heap.size wX
    clear o5 al
    obtain ⟨y50, y51, -⟩ := id x5.reads
    go_wp2_with fail
    refine (implQuarantinePromote_C y _ q t wX pX HF.out HY.out).mono ?_
    rintro e w7 o7
    unfold ChangedC at o7
    rw [HQ'.out, HBK.out] at o7
    obtain ⟨v7, col0, rfl, o7, d⟩ := o7
    have p7 := o7.own.quar
    have h7 := d.size
    obtain ⟨A5, c5, A6, c6, rfl, -, -, -, -⟩ := id o7
    unfold qv at *
    replace b1 := b1.trans (d.mono b1.size)
    replace bS := bS.trans (d.mono bS.size)
    replace bX := bX.trans (d.mono bX.size)
    replace x0 := x0.later d
    replace x3 := x3.later d
    replace x5 := x5.later d
    clear y50 y51 d pX fX
    obtain ⟨g7, hg⟩ : ∃ g, (w7).heap.size = g := ⟨_, rfl⟩
    have al := (Below.refl (w7).heap.size w7).alloc (Nat.le_refl _) (.cells #[.slice A5 q'.m.length c5, .slice A6 q'.rs.length c6] 26)
    have x7 := BlkQ.new_ (w7) 26 (.slice A5 q'.m.length c5) (.slice A6 q'.rs.length c6)
    obtain ⟨wG, hw'⟩ : ∃ x, (w7).alloc (.cells #[.slice A5 q'.m.length c5, .slice A6 q'.rs.length c6] 26) = x := ⟨_, rfl⟩
    rw [hw'] at al x7
    rw [hg] at x7
    replace b1 := b1.trans (al.mono b1.size)
    replace bS := bS.trans (al.mono bS.size)
    replace bX := bX.trans (al.mono bX.size)
    replace x0 := x0.later al
    replace x3 := x3.later al
    replace x5 := x5.later al
    obtain ⟨col, hcol⟩ : ∃ col : Nat → Nat, ∀ g, col g = if g < w7.heap.size then col0 g else 100 := ⟨_, fun _ => rfl⟩
    have oG := (o7.recol (col' := col) fun g hg => by rw [hcol, if_pos hg]).below al
    have hc7 : col g7 = 100 := by rw [hcol, if_neg (by omega)]
    have pG := p7.on al al.size
    have zG := al.size
    have HG : Hid (∀ y, Below wG.heap.size wG y → OwnQC col y wX.heap.size (.agg #[.slice A5 q'.m.length c5, .slice A6 q'.rs.length c6]) q' ∧ Quar y y.heap.size (.agg #[.slice A5 q'.m.length c5, .slice A6 q'.rs.length c6]) q') := fun y hy => ⟨oG.below hy, pG.on hy hy.size⟩
    have bG := Below.refl wG.heap.size wG
    clear o7 al oG pG p7 hcol
    obtain ⟨y00, y01, -⟩ := id x0.reads
    obtain ⟨y30, y31, -⟩ := id x3.reads
    obtain ⟨y50, y51, -⟩ := id x5.reads
    obtain ⟨y70, y71, -⟩ := id x7.reads
    go_wp2_with fail
    refine (eqQuarantine_same _ _ q' _ (HG.out _ bG).2 (HS.out _ bS) HS'.out).mono ?_
    rintro e w8 ⟨rfl, d⟩
    replace b1 := b1.trans ((d).mono b1.size)
    replace bS := bS.trans ((d).mono bS.size)
    replace bX := bX.trans ((d).mono bX.size)
    replace bG := bG.trans ((d).mono bG.size)
    replace x0 := x0.later d
    replace x3 := x3.later d
    replace x5 := x5.later d
    replace x7 := x7.later d
    clear y00 y01 y30 y31 y50 y51 y70 y71 d
    obtain ⟨y00, y01, -⟩ := id x0.reads
    obtain ⟨y30, y31, -⟩ := id x3.reads
    obtain ⟨y50, y51, -⟩ := id x5.reads
    obtain ⟨y70, y71, -⟩ := id x7.reads
    go_wp2_with fail
    have b0 := (Below.refl w8.heap.size w8).drew
    have HE : Hid (∀ y, Below w8.heap.size w8 y → y.cell? ⟨g0, 0, none⟩ = some (.slice A0 q.m.length c0) ∧ y.cell? ⟨g0, 1, none⟩ = some (.slice A1 q.rs.length c1) ∧ y.cell? ⟨g5, 0, none⟩ = some (.slice (some ⟨g51, 0, none⟩) q.m.length q.m.length) ∧ y.cell? ⟨g5, 1, none⟩ = some (.slice (some ⟨g52, 0, none⟩) q.rs.length q.rs.length)) := fun y hy => ⟨(x0.later hy).reads.1, (x0.later hy).reads.2.1, (x5.later hy).reads.1, (x5.later hy).reads.2.1⟩
    clear y00 y01 y30 y31 y50 y51 y70 y71
    refine wp_region_held_drew (S := fun y => y.cell? ⟨g0, 0, none⟩ = some (.slice A0 q.m.length c0) ∧ y.cell? ⟨g0, 1, none⟩ = some (.slice A1 q.rs.length c1) ∧ y.cell? ⟨g5, 0, none⟩ = some (.slice (some ⟨g51, 0, none⟩) q.m.length q.m.length) ∧ y.cell? ⟨g5, 1, none⟩ = some (.slice (some ⟨g52, 0, none⟩) q.rs.length q.rs.length)) (by kernel_rfl) (HE.out _ b0) (fun hHeld => ?_)
    refine wpAnyH_take (i := 0) (oi := _) (v := ?_) rfl (by kernel_rfl) (by kernel_rfl) (by kernel_rfl) (fun _ _ _ h => h) (Or.inl ⟨by rfl, ?_⟩) hHeld ?_
    rotate_left
    · (intro w' hSw; (try dsimp only at hSw); go_simp <;> with_reducible rfl)
    try simp only [Act.put, List.getElem_toArray, List.getElem_cons_succ, List.getElem_cons_zero, List.setIfInBounds_toArray, List.set_cons_zero, List.set_cons_succ]
    refine wpAnyH_take (i := 1) (oi := _) (v := ?_) rfl (by kernel_rfl) (by kernel_rfl) (by kernel_rfl) (fun _ _ _ h => h) (Or.inl ⟨by rfl, ?_⟩) hHeld ?_
    rotate_left
    · (intro w' hSw; (try dsimp only at hSw); go_simp <;> with_reducible rfl)
    try simp only [Act.put, List.getElem_toArray, List.getElem_cons_succ, List.getElem_cons_zero, List.setIfInBounds_toArray, List.set_cons_zero, List.set_cons_succ]
    refine wpAnyH_ready (rs := [2]) (by kernel_rfl) (by simp) (AllReadyH.cons (o := _) rfl (fun K hK => ?_) AllReadyH.nil)
    try simp only [Act.put, List.getElem_toArray, List.getElem_cons_succ, List.getElem_cons_zero, List.setIfInBounds_toArray, List.set_cons_zero, List.set_cons_succ]
    go_simp
    go_at_call 44
    refine (toQuarantine_any _ q _ (HA.out _ (b1.trans (b0.mono b1.size))) HSM.out).mono ?_
    rintro e w9 ⟨v9, rfl, o9, d⟩
    have p9 := (FilledQ.quar o9)
    have b9 := b0.trans (d.mono b0.size)
    refine hK.out _ _ (HE.out _ b9) (fun hHeld => ?_)
    clear hK K
    try simp only [Act.put, List.getElem_toArray, List.getElem_cons_succ, List.getElem_cons_zero, List.setIfInBounds_toArray, List.set_cons_zero, List.set_cons_succ]
    refine wpAnyH_ready (rs := [3]) (by kernel_rfl) (by simp) (AllReadyH.cons (o := _) rfl (fun K hK => ?_) AllReadyH.nil)
    try simp only [Act.put, List.getElem_toArray, List.getElem_cons_succ, List.getElem_cons_zero, List.setIfInBounds_toArray, List.set_cons_zero, List.set_cons_succ]
    go_simp
    go_at_call 45
    refine (eqQuarantine_same _ _ q _ (HX.out _ (bX.trans (b9.mono bX.size))).2 p9 HSM.out).mono ?_
    rintro e w10 ⟨rfl, d10⟩
    have b10 := b9.trans (d10.mono b9.size)
    refine hK.out _ _ (HE.out _ b10) (fun hHeld => ?_)
    clear hK K
    try simp only [Act.put, List.getElem_toArray, List.getElem_cons_succ, List.getElem_cons_zero, List.setIfInBounds_toArray, List.set_cons_zero, List.set_cons_succ]
    refine wpAnyH_take (i := 4) (oi := _) (v := ?_) rfl (by kernel_rfl) (by kernel_rfl) (by kernel_rfl) (fun _ _ _ h => h) (Or.inl ⟨by rfl, ?_⟩) hHeld ?_
    rotate_left
    · (intro w' hSw; (try dsimp only at hSw); go_simp <;> with_reducible rfl)
    try simp only [Act.put, List.getElem_toArray, List.getElem_cons_succ, List.getElem_cons_zero, List.setIfInBounds_toArray, List.set_cons_zero, List.set_cons_succ]
    refine wpAnyH_done (by kernel_rfl) ?_ _
    clear hHeld HE o9 p9 b9 d10 b0 d
    obtain ⟨y00, y01, -⟩ := id x0.reads
    obtain ⟨y30, y31, -⟩ := id x3.reads
    obtain ⟨y50, y51, -⟩ := id x5.reads
    obtain ⟨y70, y71, -⟩ := id x7.reads
    replace b1 := b1.trans ((b10).mono b1.size)
    replace bS := bS.trans ((b10).mono bS.size)
    replace bX := bX.trans ((b10).mono bX.size)
    replace bG := bG.trans ((b10).mono bG.size)
    replace x0 := x0.later b10
    replace x3 := x3.later b10
    replace x5 := x5.later b10
    replace x7 := x7.later b10
    clear y00 y01 y30 y31 y50 y51 y70 y71 b10
    obtain ⟨y00, y01, -⟩ := id x0.reads
    obtain ⟨y30, y31, -⟩ := id x3.reads
    obtain ⟨y50, y51, -⟩ := id x5.reads
    obtain ⟨y70, y71, -⟩ := id x7.reads
    have zX := bX.size
    have fX := (HX.out _ bX).1
    go_wp2_with fail
    refine (markQuarantine_from wS.heap.size DX _ q w10 fX (by omega) HSZ.out).mono ?_
    rintro e w11 ⟨k, rfl, hk, ha⟩
    replace b1 := b1.trans (ha.1.mono sS)
    replace bS := bS.trans ha.1
    replace x0 := x0.below ha.1 hx0
    replace x3 := x3.below ha.1 hx3
    replace x7 : BlkQ w11 g7 26 (.slice A5 q'.m.length c5) (.slice A6 q'.rs.length c6) := (ha.2 g7 (by omega) x7.lt).trans x7
    have oG := (HG.out _ bG).1.other ha.only fun i hi _ e => by have : wS.heap.size ≤ i ∧ i < DX := e; omega
    have kk : 0 ≤ k := by omega
    clear y00 y01 y30 y31 y50 y51 y70 y71 fX HX x5 bX HG bG hk ha
    obtain ⟨y00, y01, -⟩ := id x0.reads
    obtain ⟨y30, y31, -⟩ := id x3.reads
    obtain ⟨y70, y71, -⟩ := id x7.reads
    go_wp2_with fail
    refine (eqQuarantine_same _ _ q' _ oG.own.quar (HS.out _ bS) HS'.out).mono ?_
    rintro e w12 ⟨rfl, d⟩
    replace b1 := b1.trans ((d).mono b1.size)
    replace bS := bS.trans ((d).mono bS.size)
    replace x0 := x0.later d
    replace x3 := x3.later d
    replace x7 := x7.later d
    clear y00 y01 y30 y31 y70 y71
    obtain ⟨y00, y01, -⟩ := id x0.reads
    obtain ⟨y30, y31, -⟩ := id x3.reads
    obtain ⟨y70, y71, -⟩ := id x7.reads
    replace oG := oG.below d
    clear d
    have zW := x7.lt
    have z12 : wX.heap.size ≤ w12.heap.size := by omega
    go_wp2_with fail
    refine (markQuarantine_C col wX.heap.size _ q' w12 oG z12 HFW.out).mono ?_
    rintro e w13 ⟨rfl, oH, dH, nH⟩
    replace b1 := b1.trans (dH.mono (by omega))
    replace bS := bS.trans (dH.mono (by omega))
    replace x0 := x0.below dH (by omega)
    replace x3 := x3.below dH (by omega)
    replace x7 : BlkQ w13 g7 26 (.slice A5 q'.m.length c5) (.slice A6 q'.rs.length c6) := (nH.block g7 x7.lt (fun e => by have : col g7 ≤ 50 := e; omega)).trans x7
    have pH := oH.quar
    clear y00 y01 y30 y31 y70 y71 oG oH dH nH zW
    obtain ⟨y00, y01, -⟩ := id x0.reads
    obtain ⟨y30, y31, -⟩ := id x3.reads
    obtain ⟨y70, y71, -⟩ := id x7.reads
    have CH : Hid (∀ z, Quar z z.heap.size (.agg #[.slice A5 q'.m.length c5, .slice A6 q'.rs.length c6]) (mkQ 1 q') → Calls Try.prog 51 #[.agg #[.slice A5 q'.m.length c5, .slice A6 q'.rs.length c6], .int .i64 1] z (Ret (.int .i64 (kQ 1 q' : Nat)) z)) := fun z hz => heldQuarantine_C _ q' z hz HFW.out
    obtain ⟨K, hK⟩ : ∃ K, kQ 1 q' = K := ⟨_, rfl⟩
    rw [hK] at CH ⊢
    clear hK
    have kk0 : (0 : Int) ≤ (K : Int) := by omega
    go_wp2_with fail
    refine (CH.out _ pH).mono ?_
    rintro e w14 ⟨rfl, d⟩
    replace b1 := b1.trans ((d).mono b1.size)
    replace bS := bS.trans ((d).mono bS.size)
    replace x0 := x0.later d
    replace x3 := x3.later d
    replace x7 := x7.later d
    clear y00 y01 y30 y31 y70 y71
    obtain ⟨y00, y01, -⟩ := id x0.reads
    obtain ⟨y30, y31, -⟩ := id x3.reads
    obtain ⟨y70, y71, -⟩ := id x7.reads
    replace pH := pH.on d d.size
    clear d
    go_wp2_with fail
    refine (toQuarantine_any _ q w14 (HA.out _ b1) HSM.out).mono ?_
    rintro e w15 ⟨v15, rfl, o15, d⟩
    have p15 := o15.quar
    obtain ⟨g151, g152, -, rfl, -⟩ := id o15
    unfold qv at *
    replace b1 := b1.trans ((d).mono b1.size)
    replace bS := bS.trans ((d).mono bS.size)
    replace x0 := x0.later d
    replace x3 := x3.later d
    replace x7 := x7.later d
    clear y00 y01 y30 y31 y70 y71
    obtain ⟨y00, y01, -⟩ := id x0.reads
    obtain ⟨y30, y31, -⟩ := id x3.reads
    obtain ⟨y70, y71, -⟩ := id x7.reads
    replace pH := pH.on d d.size
    clear o15 d
    go_wp2_with fail
    refine (implQuarantinePromote_C y _ q t w15 p15 HF.out HY.out).mono ?_
    rintro e w16 o16
    unfold ChangedC at o16
    rw [HQ'.out, HBK.out] at o16
    obtain ⟨v16, col2, rfl, o16, d⟩ := o16
    have p16 := o16.own.quar
    obtain ⟨A7, c7, A8, c8, rfl, -, -, -, -⟩ := id o16
    unfold qv at *
    replace b1 := b1.trans ((d).mono b1.size)
    replace bS := bS.trans ((d).mono bS.size)
    replace x0 := x0.later d
    replace x3 := x3.later d
    replace x7 := x7.later d
    clear y00 y01 y30 y31 y70 y71
    obtain ⟨y00, y01, -⟩ := id x0.reads
    obtain ⟨y30, y31, -⟩ := id x3.reads
    obtain ⟨y70, y71, -⟩ := id x7.reads
    replace pH := pH.on d d.size
    clear o16 d p15
    obtain ⟨g9, hg⟩ : ∃ g, (w16).heap.size = g := ⟨_, rfl⟩
    have al := (Below.refl (w16).heap.size w16).alloc (Nat.le_refl _) (.cells #[.slice A7 q'.m.length c7, .slice A8 q'.rs.length c8] 26)
    have x9 := BlkQ.new_ (w16) 26 (.slice A7 q'.m.length c7) (.slice A8 q'.rs.length c8)
    obtain ⟨w17, hw'⟩ : ∃ x, (w16).alloc (.cells #[.slice A7 q'.m.length c7, .slice A8 q'.rs.length c8] 26) = x := ⟨_, rfl⟩
    rw [hw'] at al x9
    rw [hg] at x9
    replace b1 := b1.trans ((al).mono b1.size)
    replace bS := bS.trans ((al).mono bS.size)
    replace x0 := x0.later al
    replace x3 := x3.later al
    replace x7 := x7.later al
    clear y00 y01 y30 y31 y70 y71
    obtain ⟨y00, y01, -⟩ := id x0.reads
    obtain ⟨y30, y31, -⟩ := id x3.reads
    obtain ⟨y70, y71, -⟩ := id x7.reads
    replace pH := pH.on al al.size
    replace p16 := p16.on al al.size
    clear al
    obtain ⟨y90, y91, -⟩ := id x9.reads
    go_wp2_with fail
    refine (eqQuarantine_same _ _ q' _ p16 (HS.out _ bS) HS'.out).mono ?_
    rintro e w18 ⟨rfl, d⟩
    replace b1 := b1.trans ((d).mono b1.size)
    replace bS := bS.trans ((d).mono bS.size)
    replace x0 := x0.later d
    replace x3 := x3.later d
    replace x7 := x7.later d
    clear y00 y01 y30 y31 y70 y71
    obtain ⟨y00, y01, -⟩ := id x0.reads
    obtain ⟨y30, y31, -⟩ := id x3.reads
    obtain ⟨y70, y71, -⟩ := id x7.reads
    replace pH := pH.on d d.size
    clear d y90 y91 x9 p16
    go_wp2_with fail
    refine (CH.out _ pH).mono ?_
    rintro e w19 ⟨rfl, d⟩
    replace b1 := b1.trans ((d).mono b1.size)
    replace bS := bS.trans ((d).mono bS.size)
    replace x0 := x0.later d
    replace x3 := x3.later d
    replace x7 := x7.later d
    clear y00 y01 y30 y31 y70 y71
    obtain ⟨y00, y01, -⟩ := id x0.reads
    obtain ⟨y30, y31, -⟩ := id x3.reads
    obtain ⟨y70, y71, -⟩ := id x7.reads
    go_wp2
    go_ret
    exact .mk_ b1
set_option linter.unusedSimpArgs false in
set_option maxRecDepth 100000 in
set_option maxHeartbeats 16000000 in
theorem exactQuarantineDiscard_any (v : Value) (q : Qr) (t : Int) (w : World) (h : Quar w w.heap.size v q) (hq : WideQ q) (_wt : (Lit.int .i64 t).wf = true) :
    Calls Try.prog 16 #[v, .int .i64 t] w (Ret (.bool true) w) := by
  obtain ⟨A0, c0, A1, c1, rfl, -, -, -, -⟩ := id h
  have HW := hid hq
  clear hq
  unfold qv at *
  have x0 := BlkQ.new_ w 58 (.slice A0 q.m.length c0) (.slice A1 q.rs.length c1)
  have b1 := (Below.refl w.heap.size w).alloc (Nat.le_refl _) (.cells #[.slice A0 q.m.length c0, .slice A1 q.rs.length c1] 58)
  obtain ⟨w0, hw0⟩ : ∃ x, w.alloc (.cells #[.slice A0 q.m.length c0, .slice A1 q.rs.length c1] 58) = x := ⟨_, rfl⟩
  obtain ⟨g0, hg0⟩ : ∃ g, w.heap.size = g := ⟨_, rfl⟩
  rw [hw0] at x0 b1
  rw [hg0] at x0
  have HA : Hid (∀ y, Below w.heap.size w y → Quar y y.heap.size (.agg #[.slice A0 q.m.length c0, .slice A1 q.rs.length c1]) q) := fun y hy => h.on hy hy.size
  obtain ⟨y00, y01, -⟩ := id x0.reads
  go_enter Try.func16, Try.ntmps16
  go_wp2_with fail
  refine (szQuarantine_any _ q 1048576 w0 (HA.out _ b1) HW.out.1 HW.out.2.1 HW.out.2.2.1 HW.out.2.2.2 (by omega) (by omega)).mono ?_
  rintro e w1 ⟨r, rfl, hr, d⟩
  replace b1 := b1.trans (d.mono b1.size)
  replace x0 := x0.later d
  clear y00 y01 d
  obtain ⟨y00, y01, -⟩ := id x0.reads
  rcases hr with rfl | ⟨r0, hr⟩
  · go_wp2
    go_ret
    exact .mk_ b1
  · have hsz : allSzQ q ≤ 1048576 := by omega
    have HSM := hid (allSzQ_small hsz)
    have HF := hid (HW.out.fit hsz)
    have HSZ := hid hsz
    clear hr hsz
    obtain ⟨y, hy⟩ := dis_way q t
    have hsf := dis_sf hy
    have hfw := dis_few hy
    obtain ⟨q', hq'⟩ : ∃ q', y.q q = q' := ⟨_, rfl⟩
    obtain ⟨bk, hbk⟩ : ∃ bk, y.ok = bk := ⟨_, rfl⟩
    rw [hq'] at hsf hfw
    have HS' := hid hsf.1
    have HFW := hid hfw
    have HY : Hid (IsDis q t y) := hy
    have HQ' := hid hq'
    have HBK := hid hbk
    clear hsf hfw hy hq' hbk
    go_wp2_with fail
    refine (toQuarantine_any _ q w1 (HA.out _ b1) HSM.out).mono ?_
    rintro e w2 ⟨v2, rfl, o2, d⟩
    have p2 := o2.quar
    obtain ⟨g21, g22, -, rfl, -⟩ := id o2
    unfold qv at *
    replace b1 := b1.trans (d.mono b1.size)
    replace x0 := x0.later d
    clear o2 y00 y01 d
    go_wp2_with fail
    refine (specQuarantineDiscard_is y _ q t w2 p2 HF.out HY.out).mono ?_
    rintro e w3 o3
    unfold Changed at o3
    rw [HQ'.out, HBK.out] at o3
    obtain ⟨v3, rfl, o3, d⟩ := o3
    have p3 := o3.quar
    obtain ⟨A3, c3, A4, c4, rfl, -, -, -, -⟩ := id o3
    unfold qv at *
    replace b1 := b1.trans (d.mono b1.size)
    replace x0 := x0.later d
    clear o3 p2 d
    obtain ⟨g3, hg⟩ : ∃ g, (w3).heap.size = g := ⟨_, rfl⟩
    have al := (Below.refl (w3).heap.size w3).alloc (Nat.le_refl _) (.cells #[.slice A3 q'.m.length c3, .slice A4 q'.rs.length c4] 26)
    have x3 := BlkQ.new_ (w3) 26 (.slice A3 q'.m.length c3) (.slice A4 q'.rs.length c4)
    obtain ⟨wS, hw'⟩ : ∃ x, (w3).alloc (.cells #[.slice A3 q'.m.length c3, .slice A4 q'.rs.length c4] 26) = x := ⟨_, rfl⟩
    rw [hw'] at al x3
    rw [hg] at x3
    replace b1 := b1.trans (al.mono b1.size)
    replace x0 := x0.later al
    replace p3 := p3.on al al.size
    have HS : Hid (∀ y, Below wS.heap.size wS y → Quar y y.heap.size (.agg #[.slice A3 q'.m.length c3, .slice A4 q'.rs.length c4]) q') := fun y hy => p3.on hy hy.size
    have sS := b1.size
    have bS := Below.refl wS.heap.size wS
    have hx3 := x3.lt
    have hx0 := x0.lt
    clear p3 al
    obtain ⟨y00, y01, -⟩ := id x0.reads
    go_wp2_with fail
    refine (toQuarantine_any _ q wS (HA.out _ b1) HSM.out).mono ?_
    rintro e w5 ⟨v5, rfl, o5, d⟩
    obtain ⟨g51, g52, -, rfl, -⟩ := id o5
    unfold qv at *
    have hX0 := d.size
    replace b1 := b1.trans (d.mono b1.size)
    replace bS := bS.trans (d.mono bS.size)
    replace x0 := x0.later d
    replace x3 := x3.later d
    clear y00 y01 d
    obtain ⟨g5, hg⟩ : ∃ g, (w5).heap.size = g := ⟨_, rfl⟩
    have al := (Below.refl (w5).heap.size w5).alloc (Nat.le_refl _) (.cells #[.slice (some ⟨g51, 0, none⟩) q.m.length q.m.length, .slice (some ⟨g52, 0, none⟩) q.rs.length q.rs.length] 26)
    have x5 := BlkQ.new_ (w5) 26 (.slice (some ⟨g51, 0, none⟩) q.m.length q.m.length) (.slice (some ⟨g52, 0, none⟩) q.rs.length q.rs.length)
    obtain ⟨wX, hw'⟩ : ∃ x, (w5).alloc (.cells #[.slice (some ⟨g51, 0, none⟩) q.m.length q.m.length, .slice (some ⟨g52, 0, none⟩) q.rs.length q.rs.length] 26) = x := ⟨_, rfl⟩
    rw [hw'] at al x5
    rw [hg] at x5
    replace b1 := b1.trans (al.mono b1.size)
    replace bS := bS.trans (al.mono bS.size)
    replace x0 := x0.later al
    replace x3 := x3.later al
    have fX := FilQ.below o5 al (Nat.le_refl _)
    obtain ⟨DX, hDX⟩ : ∃ D, w5.heap.size = D := ⟨_, rfl⟩
    have hX1 := al.size
    rw [hDX] at fX hX0 hX1
    have pX := (FilledQ.quar o5).on al al.size
    have HX : Hid (∀ y, Below wX.heap.size wX y → FilQ y wS.heap.size (.agg #[.slice (some ⟨g51, 0, none⟩) q.m.length q.m.length, .slice (some ⟨g52, 0, none⟩) q.rs.length q.rs.length]) q DX ∧ Quar y y.heap.size (.agg #[.slice (some ⟨g51, 0, none⟩) q.m.length q.m.length, .slice (some ⟨g52, 0, none⟩) q.rs.length q.rs.length]) q) := fun y hy => ⟨fX.below hy hX1, pX.on hy hy.size⟩
    have bX := Below.refl wX.heap.size wX
    clear o5 al
    obtain ⟨y50, y51, -⟩ := id x5.reads
    go_wp2_with fail
    refine (implQuarantineDiscard_C y _ q t wX pX HF.out HY.out).mono ?_
    rintro e w7 o7
    unfold ChangedC at o7
    rw [HQ'.out, HBK.out] at o7
    obtain ⟨v7, col0, rfl, o7, d⟩ := o7
    have p7 := o7.own.quar
    have h7 := d.size
    obtain ⟨A5, c5, A6, c6, rfl, -, -, -, -⟩ := id o7
    unfold qv at *
    replace b1 := b1.trans (d.mono b1.size)
    replace bS := bS.trans (d.mono bS.size)
    replace bX := bX.trans (d.mono bX.size)
    replace x0 := x0.later d
    replace x3 := x3.later d
    replace x5 := x5.later d
    clear y50 y51 d pX fX
    obtain ⟨g7, hg⟩ : ∃ g, (w7).heap.size = g := ⟨_, rfl⟩
    have al := (Below.refl (w7).heap.size w7).alloc (Nat.le_refl _) (.cells #[.slice A5 q'.m.length c5, .slice A6 q'.rs.length c6] 26)
    have x7 := BlkQ.new_ (w7) 26 (.slice A5 q'.m.length c5) (.slice A6 q'.rs.length c6)
    obtain ⟨wG, hw'⟩ : ∃ x, (w7).alloc (.cells #[.slice A5 q'.m.length c5, .slice A6 q'.rs.length c6] 26) = x := ⟨_, rfl⟩
    rw [hw'] at al x7
    rw [hg] at x7
    replace b1 := b1.trans (al.mono b1.size)
    replace bS := bS.trans (al.mono bS.size)
    replace bX := bX.trans (al.mono bX.size)
    replace x0 := x0.later al
    replace x3 := x3.later al
    replace x5 := x5.later al
    obtain ⟨col, hcol⟩ : ∃ col : Nat → Nat, ∀ g, col g = if g < w7.heap.size then col0 g else 100 := ⟨_, fun _ => rfl⟩
    have oG := (o7.recol (col' := col) fun g hg => by rw [hcol, if_pos hg]).below al
    have hc7 : col g7 = 100 := by rw [hcol, if_neg (by omega)]
    have pG := p7.on al al.size
    have zG := al.size
    have HG : Hid (∀ y, Below wG.heap.size wG y → OwnQC col y wX.heap.size (.agg #[.slice A5 q'.m.length c5, .slice A6 q'.rs.length c6]) q' ∧ Quar y y.heap.size (.agg #[.slice A5 q'.m.length c5, .slice A6 q'.rs.length c6]) q') := fun y hy => ⟨oG.below hy, pG.on hy hy.size⟩
    have bG := Below.refl wG.heap.size wG
    clear o7 al oG pG p7 hcol
    obtain ⟨y00, y01, -⟩ := id x0.reads
    obtain ⟨y30, y31, -⟩ := id x3.reads
    obtain ⟨y50, y51, -⟩ := id x5.reads
    obtain ⟨y70, y71, -⟩ := id x7.reads
    go_wp2_with fail
    refine (eqQuarantine_same _ _ q' _ (HG.out _ bG).2 (HS.out _ bS) HS'.out).mono ?_
    rintro e w8 ⟨rfl, d⟩
    replace b1 := b1.trans ((d).mono b1.size)
    replace bS := bS.trans ((d).mono bS.size)
    replace bX := bX.trans ((d).mono bX.size)
    replace bG := bG.trans ((d).mono bG.size)
    replace x0 := x0.later d
    replace x3 := x3.later d
    replace x5 := x5.later d
    replace x7 := x7.later d
    clear y00 y01 y30 y31 y50 y51 y70 y71 d
    obtain ⟨y00, y01, -⟩ := id x0.reads
    obtain ⟨y30, y31, -⟩ := id x3.reads
    obtain ⟨y50, y51, -⟩ := id x5.reads
    obtain ⟨y70, y71, -⟩ := id x7.reads
    go_wp2_with fail
    have b0 := (Below.refl w8.heap.size w8).drew
    have HE : Hid (∀ y, Below w8.heap.size w8 y → y.cell? ⟨g0, 0, none⟩ = some (.slice A0 q.m.length c0) ∧ y.cell? ⟨g0, 1, none⟩ = some (.slice A1 q.rs.length c1) ∧ y.cell? ⟨g5, 0, none⟩ = some (.slice (some ⟨g51, 0, none⟩) q.m.length q.m.length) ∧ y.cell? ⟨g5, 1, none⟩ = some (.slice (some ⟨g52, 0, none⟩) q.rs.length q.rs.length)) := fun y hy => ⟨(x0.later hy).reads.1, (x0.later hy).reads.2.1, (x5.later hy).reads.1, (x5.later hy).reads.2.1⟩
    clear y00 y01 y30 y31 y50 y51 y70 y71
    refine wp_region_held_drew (S := fun y => y.cell? ⟨g0, 0, none⟩ = some (.slice A0 q.m.length c0) ∧ y.cell? ⟨g0, 1, none⟩ = some (.slice A1 q.rs.length c1) ∧ y.cell? ⟨g5, 0, none⟩ = some (.slice (some ⟨g51, 0, none⟩) q.m.length q.m.length) ∧ y.cell? ⟨g5, 1, none⟩ = some (.slice (some ⟨g52, 0, none⟩) q.rs.length q.rs.length)) (by kernel_rfl) (HE.out _ b0) (fun hHeld => ?_)
    refine wpAnyH_take (i := 0) (oi := _) (v := ?_) rfl (by kernel_rfl) (by kernel_rfl) (by kernel_rfl) (fun _ _ _ h => h) (Or.inl ⟨by rfl, ?_⟩) hHeld ?_
    rotate_left
    · (intro w' hSw; (try dsimp only at hSw); go_simp <;> with_reducible rfl)
    try simp only [Act.put, List.getElem_toArray, List.getElem_cons_succ, List.getElem_cons_zero, List.setIfInBounds_toArray, List.set_cons_zero, List.set_cons_succ]
    refine wpAnyH_take (i := 1) (oi := _) (v := ?_) rfl (by kernel_rfl) (by kernel_rfl) (by kernel_rfl) (fun _ _ _ h => h) (Or.inl ⟨by rfl, ?_⟩) hHeld ?_
    rotate_left
    · (intro w' hSw; (try dsimp only at hSw); go_simp <;> with_reducible rfl)
    try simp only [Act.put, List.getElem_toArray, List.getElem_cons_succ, List.getElem_cons_zero, List.setIfInBounds_toArray, List.set_cons_zero, List.set_cons_succ]
    refine wpAnyH_ready (rs := [2]) (by kernel_rfl) (by simp) (AllReadyH.cons (o := _) rfl (fun K hK => ?_) AllReadyH.nil)
    try simp only [Act.put, List.getElem_toArray, List.getElem_cons_succ, List.getElem_cons_zero, List.setIfInBounds_toArray, List.set_cons_zero, List.set_cons_succ]
    go_simp
    go_at_call 44
    refine (toQuarantine_any _ q _ (HA.out _ (b1.trans (b0.mono b1.size))) HSM.out).mono ?_
    rintro e w9 ⟨v9, rfl, o9, d⟩
    have p9 := (FilledQ.quar o9)
    have b9 := b0.trans (d.mono b0.size)
    refine hK.out _ _ (HE.out _ b9) (fun hHeld => ?_)
    clear hK K
    try simp only [Act.put, List.getElem_toArray, List.getElem_cons_succ, List.getElem_cons_zero, List.setIfInBounds_toArray, List.set_cons_zero, List.set_cons_succ]
    refine wpAnyH_ready (rs := [3]) (by kernel_rfl) (by simp) (AllReadyH.cons (o := _) rfl (fun K hK => ?_) AllReadyH.nil)
    try simp only [Act.put, List.getElem_toArray, List.getElem_cons_succ, List.getElem_cons_zero, List.setIfInBounds_toArray, List.set_cons_zero, List.set_cons_succ]
    go_simp
    go_at_call 45
    refine (eqQuarantine_same _ _ q _ (HX.out _ (bX.trans (b9.mono bX.size))).2 p9 HSM.out).mono ?_
    rintro e w10 ⟨rfl, d10⟩
    have b10 := b9.trans (d10.mono b9.size)
    refine hK.out _ _ (HE.out _ b10) (fun hHeld => ?_)
    clear hK K
    try simp only [Act.put, List.getElem_toArray, List.getElem_cons_succ, List.getElem_cons_zero, List.setIfInBounds_toArray, List.set_cons_zero, List.set_cons_succ]
    refine wpAnyH_take (i := 4) (oi := _) (v := ?_) rfl (by kernel_rfl) (by kernel_rfl) (by kernel_rfl) (fun _ _ _ h => h) (Or.inl ⟨by rfl, ?_⟩) hHeld ?_
    rotate_left
    · (intro w' hSw; (try dsimp only at hSw); go_simp <;> with_reducible rfl)
    try simp only [Act.put, List.getElem_toArray, List.getElem_cons_succ, List.getElem_cons_zero, List.setIfInBounds_toArray, List.set_cons_zero, List.set_cons_succ]
    refine wpAnyH_done (by kernel_rfl) ?_ _
    clear hHeld HE o9 p9 b9 d10 b0 d
    obtain ⟨y00, y01, -⟩ := id x0.reads
    obtain ⟨y30, y31, -⟩ := id x3.reads
    obtain ⟨y50, y51, -⟩ := id x5.reads
    obtain ⟨y70, y71, -⟩ := id x7.reads
    replace b1 := b1.trans ((b10).mono b1.size)
    replace bS := bS.trans ((b10).mono bS.size)
    replace bX := bX.trans ((b10).mono bX.size)
    replace bG := bG.trans ((b10).mono bG.size)
    replace x0 := x0.later b10
    replace x3 := x3.later b10
    replace x5 := x5.later b10
    replace x7 := x7.later b10
    clear y00 y01 y30 y31 y50 y51 y70 y71 b10
    obtain ⟨y00, y01, -⟩ := id x0.reads
    obtain ⟨y30, y31, -⟩ := id x3.reads
    obtain ⟨y50, y51, -⟩ := id x5.reads
    obtain ⟨y70, y71, -⟩ := id x7.reads
    have zX := bX.size
    have fX := (HX.out _ bX).1
    go_wp2_with fail
    refine (markQuarantine_from wS.heap.size DX _ q w10 fX (by omega) HSZ.out).mono ?_
    rintro e w11 ⟨k, rfl, hk, ha⟩
    replace b1 := b1.trans (ha.1.mono sS)
    replace bS := bS.trans ha.1
    replace x0 := x0.below ha.1 hx0
    replace x3 := x3.below ha.1 hx3
    replace x7 : BlkQ w11 g7 26 (.slice A5 q'.m.length c5) (.slice A6 q'.rs.length c6) := (ha.2 g7 (by omega) x7.lt).trans x7
    have oG := (HG.out _ bG).1.other ha.only fun i hi _ e => by have : wS.heap.size ≤ i ∧ i < DX := e; omega
    have kk : 0 ≤ k := by omega
    clear y00 y01 y30 y31 y50 y51 y70 y71 fX HX x5 bX HG bG hk ha
    obtain ⟨y00, y01, -⟩ := id x0.reads
    obtain ⟨y30, y31, -⟩ := id x3.reads
    obtain ⟨y70, y71, -⟩ := id x7.reads
    go_wp2_with fail
    refine (eqQuarantine_same _ _ q' _ oG.own.quar (HS.out _ bS) HS'.out).mono ?_
    rintro e w12 ⟨rfl, d⟩
    replace b1 := b1.trans ((d).mono b1.size)
    replace bS := bS.trans ((d).mono bS.size)
    replace x0 := x0.later d
    replace x3 := x3.later d
    replace x7 := x7.later d
    clear y00 y01 y30 y31 y70 y71
    obtain ⟨y00, y01, -⟩ := id x0.reads
    obtain ⟨y30, y31, -⟩ := id x3.reads
    obtain ⟨y70, y71, -⟩ := id x7.reads
    replace oG := oG.below d
    clear d
    have zW := x7.lt
    have z12 : wX.heap.size ≤ w12.heap.size := by omega
    go_wp2_with fail
    refine (markQuarantine_C col wX.heap.size _ q' w12 oG z12 HFW.out).mono ?_
    rintro e w13 ⟨rfl, oH, dH, nH⟩
    replace b1 := b1.trans (dH.mono (by omega))
    replace bS := bS.trans (dH.mono (by omega))
    replace x0 := x0.below dH (by omega)
    replace x3 := x3.below dH (by omega)
    replace x7 : BlkQ w13 g7 26 (.slice A5 q'.m.length c5) (.slice A6 q'.rs.length c6) := (nH.block g7 x7.lt (fun e => by have : col g7 ≤ 50 := e; omega)).trans x7
    have pH := oH.quar
    clear y00 y01 y30 y31 y70 y71 oG oH dH nH zW
    obtain ⟨y00, y01, -⟩ := id x0.reads
    obtain ⟨y30, y31, -⟩ := id x3.reads
    obtain ⟨y70, y71, -⟩ := id x7.reads
    have CH : Hid (∀ z, Quar z z.heap.size (.agg #[.slice A5 q'.m.length c5, .slice A6 q'.rs.length c6]) (mkQ 1 q') → Calls Try.prog 51 #[.agg #[.slice A5 q'.m.length c5, .slice A6 q'.rs.length c6], .int .i64 1] z (Ret (.int .i64 (kQ 1 q' : Nat)) z)) := fun z hz => heldQuarantine_C _ q' z hz HFW.out
    obtain ⟨K, hK⟩ : ∃ K, kQ 1 q' = K := ⟨_, rfl⟩
    rw [hK] at CH ⊢
    clear hK
    have kk0 : (0 : Int) ≤ (K : Int) := by omega
    go_wp2_with fail
    refine (CH.out _ pH).mono ?_
    rintro e w14 ⟨rfl, d⟩
    replace b1 := b1.trans ((d).mono b1.size)
    replace bS := bS.trans ((d).mono bS.size)
    replace x0 := x0.later d
    replace x3 := x3.later d
    replace x7 := x7.later d
    clear y00 y01 y30 y31 y70 y71
    obtain ⟨y00, y01, -⟩ := id x0.reads
    obtain ⟨y30, y31, -⟩ := id x3.reads
    obtain ⟨y70, y71, -⟩ := id x7.reads
    replace pH := pH.on d d.size
    clear d
    go_wp2_with fail
    refine (toQuarantine_any _ q w14 (HA.out _ b1) HSM.out).mono ?_
    rintro e w15 ⟨v15, rfl, o15, d⟩
    have p15 := o15.quar
    obtain ⟨g151, g152, -, rfl, -⟩ := id o15
    unfold qv at *
    replace b1 := b1.trans ((d).mono b1.size)
    replace bS := bS.trans ((d).mono bS.size)
    replace x0 := x0.later d
    replace x3 := x3.later d
    replace x7 := x7.later d
    clear y00 y01 y30 y31 y70 y71
    obtain ⟨y00, y01, -⟩ := id x0.reads
    obtain ⟨y30, y31, -⟩ := id x3.reads
    obtain ⟨y70, y71, -⟩ := id x7.reads
    replace pH := pH.on d d.size
    clear o15 d
    go_wp2_with fail
    refine (implQuarantineDiscard_C y _ q t w15 p15 HF.out HY.out).mono ?_
    rintro e w16 o16
    unfold ChangedC at o16
    rw [HQ'.out, HBK.out] at o16
    obtain ⟨v16, col2, rfl, o16, d⟩ := o16
    have p16 := o16.own.quar
    obtain ⟨A7, c7, A8, c8, rfl, -, -, -, -⟩ := id o16
    unfold qv at *
    replace b1 := b1.trans ((d).mono b1.size)
    replace bS := bS.trans ((d).mono bS.size)
    replace x0 := x0.later d
    replace x3 := x3.later d
    replace x7 := x7.later d
    clear y00 y01 y30 y31 y70 y71
    obtain ⟨y00, y01, -⟩ := id x0.reads
    obtain ⟨y30, y31, -⟩ := id x3.reads
    obtain ⟨y70, y71, -⟩ := id x7.reads
    replace pH := pH.on d d.size
    clear o16 d p15
    obtain ⟨g9, hg⟩ : ∃ g, (w16).heap.size = g := ⟨_, rfl⟩
    have al := (Below.refl (w16).heap.size w16).alloc (Nat.le_refl _) (.cells #[.slice A7 q'.m.length c7, .slice A8 q'.rs.length c8] 26)
    have x9 := BlkQ.new_ (w16) 26 (.slice A7 q'.m.length c7) (.slice A8 q'.rs.length c8)
    obtain ⟨w17, hw'⟩ : ∃ x, (w16).alloc (.cells #[.slice A7 q'.m.length c7, .slice A8 q'.rs.length c8] 26) = x := ⟨_, rfl⟩
    rw [hw'] at al x9
    rw [hg] at x9
    replace b1 := b1.trans ((al).mono b1.size)
    replace bS := bS.trans ((al).mono bS.size)
    replace x0 := x0.later al
    replace x3 := x3.later al
    replace x7 := x7.later al
    clear y00 y01 y30 y31 y70 y71
    obtain ⟨y00, y01, -⟩ := id x0.reads
    obtain ⟨y30, y31, -⟩ := id x3.reads
    obtain ⟨y70, y71, -⟩ := id x7.reads
    replace pH := pH.on al al.size
    replace p16 := p16.on al al.size
    clear al
    obtain ⟨y90, y91, -⟩ := id x9.reads
    go_wp2_with fail
    refine (eqQuarantine_same _ _ q' _ p16 (HS.out _ bS) HS'.out).mono ?_
    rintro e w18 ⟨rfl, d⟩
    replace b1 := b1.trans ((d).mono b1.size)
    replace bS := bS.trans ((d).mono bS.size)
    replace x0 := x0.later d
    replace x3 := x3.later d
    replace x7 := x7.later d
    clear y00 y01 y30 y31 y70 y71
    obtain ⟨y00, y01, -⟩ := id x0.reads
    obtain ⟨y30, y31, -⟩ := id x3.reads
    obtain ⟨y70, y71, -⟩ := id x7.reads
    replace pH := pH.on d d.size
    clear d y90 y91 x9 p16
    go_wp2_with fail
    refine (CH.out _ pH).mono ?_
    rintro e w19 ⟨rfl, d⟩
    replace b1 := b1.trans ((d).mono b1.size)
    replace bS := bS.trans ((d).mono bS.size)
    replace x0 := x0.later d
    replace x3 := x3.later d
    replace x7 := x7.later d
    clear y00 y01 y30 y31 y70 y71
    obtain ⟨y00, y01, -⟩ := id x0.reads
    obtain ⟨y30, y31, -⟩ := id x3.reads
    obtain ⟨y70, y71, -⟩ := id x7.reads
    go_wp2
    go_ret
    exact .mk_ b1
end Go.Proofs.Ytblknnifccmpkaa
