/- The coordinator with the slices $SA and $SB is stored as the answer, with the word $BB. -/
/-
  Walks: the program's copies of records and shards, a record added.
-/
import Derived.Test.YteeffchnbkkpfabDoorShdJ
import Derived.Test.YteeffchnbkkpfabDoorShdF
namespace Go.Proofs.YteeffchnbkkpfabDoor
open Go.RowKit Wo Pu Rf Lk Sh

/-- Behind it: a record whose updates are of the call's own. -/
def NewRec (r : Rec) (w : World) (e : Ending) (w' : World) : Prop := ∃ A c, e = .returned (.agg #[.int .i64 r.k, .int .i64 r.t, .slice A r.us.length c]) ∧ r.us.length ≤ c ∧ OwnUps w' w.heap.size (.slice A r.us.length c) r.us ∧ Below w.heap.size w w'
set_option linter.unusedSimpArgs false in
set_option maxRecDepth 100000 in
set_option maxHeartbeats 4000000 in
theorem recCopied_is (A : Option Addr) (c : Nat) (r : Rec) (w : World) (hu : Row w w.heap.size A (upsV r.us)) (hul : r.us.length ≤ 1048576) :
    Calls Tryd.prog 87 #[.agg #[.int .i64 r.k, .int .i64 r.t, .slice A r.us.length c]] w (NewRec r w) := by
  obtain ⟨i1, hj, hy0, hy1, hy2⟩ := info_of info_up
  have b0 := ((Below.refl w.heap.size w).alloc (Nat.le_refl _) (.cells #[.int .i64 r.k, .int .i64 r.t, .slice A r.us.length c] 33)).alloc (by simp) (.cells #[.int .i64 0, .int .i64 0, .slice none 0 0] 33)
  have x0 := (Blk3s.new_ w 33 (.int .i64 r.k) (.int .i64 r.t) (.slice A r.us.length c)).alloc (.cells #[.int .i64 0, .int .i64 0, .slice none 0 0] 33)
  have x1 := Blk3s.new_ (w.alloc (.cells #[.int .i64 r.k, .int .i64 r.t, .slice A r.us.length c] 33)) 33 (.int .i64 0) (.int .i64 0) (.slice none 0 0)
  rw [World.size_alloc] at x1
  go_enter Tryd.func87, Tryd.ntmps87
  go_upto_region 1 with fail
  obtain ⟨w1, hw1⟩ : ∃ x, (w.alloc (.cells #[.int .i64 r.k, .int .i64 r.t, .slice A r.us.length c] 33)).alloc (.cells #[.int .i64 0, .int .i64 0, .slice none 0 0] 33) = x := ⟨_, rfl⟩
  rw [hw1] at b0 x0 x1 ⊢
  clear hw1
  have z1 := b0.size
  have HKP : Hid (∀ x, Below (w1.drewN 1).heap.size (w1.drewN 1) x → x.cell? ⟨w.heap.size, 0, none⟩ = some (.int .i64 r.k) ∧ x.cell? ⟨w.heap.size, 1, none⟩ = some (.int .i64 r.t) ∧ x.cell? ⟨w.heap.size, 2, none⟩ = some (.slice A r.us.length c)) := fun x hx => by
    have := (show Blk3s (w1.drewN 1) w.heap.size _ _ _ _ from x0).later hx
    exact ⟨this.reads.1, this.reads.2.1, this.reads.2.2.1⟩
  refine wp_region_held_drew (S := fun x => x.cell? ⟨w.heap.size, 0, none⟩ = some (.int .i64 r.k) ∧ x.cell? ⟨w.heap.size, 1, none⟩ = some (.int .i64 r.t) ∧ x.cell? ⟨w.heap.size, 2, none⟩ = some (.slice A r.us.length c)) (by kernel_rfl) (HKP.out _ (Below.refl _ _)) (fun hHeld => ?_)
  try simp only [Act.put, List.getElem_toArray, List.getElem_cons_succ, List.getElem_cons_zero, List.setIfInBounds_toArray, List.set_cons_zero, List.set_cons_succ]
  refine wpAnyH_take (i := 0) (oi := _) (v := ?_) rfl (by kernel_rfl) (by kernel_rfl) (by kernel_rfl) (fun _ _ _ h => h) (Or.inl ⟨by rfl, ?_⟩) hHeld ?_
  rotate_left
  · (intro w' hSw; (try dsimp only at hSw); go_simp <;> with_reducible rfl)
  try simp only [Act.put, List.getElem_toArray, List.getElem_cons_succ, List.getElem_cons_zero, List.setIfInBounds_toArray, List.set_cons_zero, List.set_cons_succ]
  refine wpAnyH_take (i := 1) (oi := _) (v := ?_) rfl (by kernel_rfl) (by kernel_rfl) (by kernel_rfl) (fun _ _ _ h => h) (Or.inl ⟨by rfl, ?_⟩) hHeld ?_
  rotate_left
  · (intro w' hSw; (try dsimp only at hSw); go_simp <;> with_reducible rfl)
  try simp only [Act.put, List.getElem_toArray, List.getElem_cons_succ, List.getElem_cons_zero, List.setIfInBounds_toArray, List.set_cons_zero, List.set_cons_succ]
  refine wpAnyH_take (i := 2) (oi := _) (v := ?_) rfl (by kernel_rfl) (by kernel_rfl) (by kernel_rfl) (fun _ _ _ h => h) (Or.inl ⟨by rfl, ?_⟩) hHeld ?_
  rotate_left
  · (intro w' hSw; (try dsimp only at hSw); go_simp <;> with_reducible rfl)
  try simp only [Act.put, List.getElem_toArray, List.getElem_cons_succ, List.getElem_cons_zero, List.setIfInBounds_toArray, List.set_cons_zero, List.set_cons_succ]
  refine wpAnyH_take (i := 3) (oi := _) (v := ?_) rfl (by kernel_rfl) (by kernel_rfl) (by kernel_rfl) (fun _ _ _ h => h) (Or.inl ⟨by rfl, ?_⟩) hHeld ?_
  rotate_left
  · (intro w' hSw; (try dsimp only at hSw); go_simp <;> with_reducible rfl)
  try simp only [Act.put, List.getElem_toArray, List.getElem_cons_succ, List.getElem_cons_zero, List.setIfInBounds_toArray, List.set_cons_zero, List.set_cons_succ]
  refine wpAnyH_take (i := 5) (oi := _) (v := ?_) rfl (by kernel_rfl) (by kernel_rfl) (by kernel_rfl) (fun _ _ _ h => h) (Or.inl ⟨by rfl, ?_⟩) hHeld ?_
  rotate_left
  · (intro w' hSw; (try dsimp only at hSw); go_simp <;> with_reducible rfl)
  try simp only [Act.put, List.getElem_toArray, List.getElem_cons_succ, List.getElem_cons_zero, List.setIfInBounds_toArray, List.set_cons_zero, List.set_cons_succ]
  refine wpAnyH_take (i := 6) (oi := _) (v := ?_) rfl (by kernel_rfl) (by kernel_rfl) (by kernel_rfl) (fun _ _ _ h => h) (Or.inl ⟨by rfl, ?_⟩) hHeld ?_
  rotate_left
  · (intro w' hSw; (try dsimp only at hSw); go_simp <;> with_reducible rfl)
  try simp only [Act.put, List.getElem_toArray, List.getElem_cons_succ, List.getElem_cons_zero, List.setIfInBounds_toArray, List.set_cons_zero, List.set_cons_succ]
  refine wpAnyH_ready (rs := [4]) (by kernel_rfl) (by simp) (AllReadyH.cons (o := _) rfl (fun K hK => ?_) AllReadyH.nil)
  try simp only [Act.put, List.getElem_toArray, List.getElem_cons_succ, List.getElem_cons_zero, List.setIfInBounds_toArray, List.set_cons_zero, List.set_cons_succ]
  go_simp
  have al := Wo.Below.drewN ((Below.refl w1.heap.size w1).alloc (Nat.le_refl _) (.cells #[] 100)) 1
  have n2 : ((w1.alloc (.cells #[] 100)).drewN 1).ownsRow w.heap.size 100 3 (.slice (some ⟨w1.heap.size, 0, none⟩) 0 0) 0 [] := nil_own z1 _ _
  change K _ ((w1.alloc (.cells #[] 100)).drewN 1)
  obtain ⟨W2, hW2⟩ : ∃ x, (w1.alloc (.cells #[] 100)).drewN 1 = x := ⟨_, rfl⟩
  rw [hW2] at al n2 ⊢
  clear hW2
  have b2 := b0.trans (al.mono z1)
  have y0 := x0.later al
  have y1 := x1.later al
  have r2 := row_on hu b2
  have S2 : W2.cell? ⟨w.heap.size, 0, none⟩ = some (.int .i64 r.k) ∧ W2.cell? ⟨w.heap.size, 1, none⟩ = some (.int .i64 r.t) ∧ W2.cell? ⟨w.heap.size, 2, none⟩ = some (.slice A r.us.length c) := ⟨y0.reads.1, y0.reads.2.1, y0.reads.2.2.1⟩
  have zw : w.heap.size + 1 < w1.heap.size := x1.lt
  refine hK.out _ _ S2 (fun hHeld => ?_)
  clear hK K
  try simp only [Act.put, List.getElem_toArray, List.getElem_cons_succ, List.getElem_cons_zero, List.setIfInBounds_toArray, List.set_cons_zero, List.set_cons_succ]
  refine wpAnyH_ready (rs := [7]) (by kernel_rfl) (by simp) (AllReadyH.cons (o := _) rfl (fun K hK => ?_) AllReadyH.nil)
  try simp only [Act.put, List.getElem_toArray, List.getElem_cons_succ, List.getElem_cons_zero, List.setIfInBounds_toArray, List.set_cons_zero, List.set_cons_succ]
  rw [if_pos (by rfl)]
  refine op_append_row1 _ (by rfl) _ _ 31 (by rfl) w.heap.size 100 i1 (.agg #[.int .i64 0, .int .i64 0, .int .i64 0]) 3 24 Tryd.underlying31 hj hy0 hy1 hy2 rfl (by decide) (.slice (some ⟨w1.heap.size, 0, none⟩) 0 0) 0 [] (by rfl) n2 W2.heap.size A r.us.length c (upsV r.us) (by rfl) r2 (upsV_length _) (upsV_cells _) (by unfold maxLen; omega) (by omega) b2.size ?_
  intro v9 W3 hown hg
  rw [Nat.zero_add, List.nil_append] at hown
  have o3 : OwnUps W3 w.heap.size v9 r.us := hown
  obtain ⟨A5, c5, rfl, -, hc5⟩ := o3.form
  have hne : ∀ k, k ≤ w.heap.size + 1 → some k ≠ (Value.slice (some ⟨w1.heap.size, 0, none⟩) 0 0).ownBlock := fun k hk e => by
    have e2 : k = w1.heap.size := by simpa [Value.ownBlock] using e
    omega
  have e0 := y0.grown hg (hne _ (by omega))
  have e1 := y1.grown hg (hne _ (by omega))
  have b3 : Below w.heap.size w W3 := b2.grown hg b2.size (fun j hj => by
    have e2 : w1.heap.size = j := by simpa [Value.ownBlock] using hj
    omega)
  have S3 : W3.cell? ⟨w.heap.size, 0, none⟩ = some (.int .i64 r.k) ∧ W3.cell? ⟨w.heap.size, 1, none⟩ = some (.int .i64 r.t) ∧ W3.cell? ⟨w.heap.size, 2, none⟩ = some (.slice A r.us.length c) := ⟨e0.reads.1, e0.reads.2.1, e0.reads.2.2.1⟩
  clear S2 y0 y1 hown hg n2 r2 b2 al hne
  refine hK.out _ _ S3 (fun hHeld => ?_)
  clear hK K
  try simp only [Act.put, List.getElem_toArray, List.getElem_cons_succ, List.getElem_cons_zero, List.setIfInBounds_toArray, List.set_cons_zero, List.set_cons_succ]
  refine wpAnyH_take (i := 8) (oi := _) (v := ?_) rfl (by kernel_rfl) (by kernel_rfl) (by kernel_rfl) (fun _ _ _ h => h) (Or.inl ⟨by rfl, ?_⟩) hHeld ?_
  rotate_left
  · (intro w' hSw; (try dsimp only at hSw); go_simp <;> with_reducible rfl)
  try simp only [Act.put, List.getElem_toArray, List.getElem_cons_succ, List.getElem_cons_zero, List.setIfInBounds_toArray, List.set_cons_zero, List.set_cons_succ]
  obtain ⟨t0, t1, t2, tf⟩ := id e1.reads
  have tf0 := tf 0
  have tf1 := tf 1
  have tf2 := tf 2
  clear tf
  refine wpAnyH_ready (rs := [9]) (by kernel_rfl) (by simp) (AllReadyH.cons (o := _) rfl (fun K hK => ?_) AllReadyH.nil)
  try simp only [Act.put, List.getElem_toArray, List.getElem_cons_succ, List.getElem_cons_zero, List.setIfInBounds_toArray, List.set_cons_zero, List.set_cons_succ]
  go_simp
  have f0 := ((e0.far (p := ⟨w.heap.size + 1, 0, none⟩) (by show w.heap.size ≠ w.heap.size + 1; omega) (.int .i64 r.k)).far (p := ⟨w.heap.size + 1, 1, none⟩) (by show w.heap.size ≠ w.heap.size + 1; omega) (.int .i64 r.t)).far (p := ⟨w.heap.size + 1, 2, none⟩) (by show w.heap.size ≠ w.heap.size + 1; omega) (.slice A5 r.us.length c5)
  refine hK.out _ _ ⟨f0.reads.1, f0.reads.2.1, f0.reads.2.2.1⟩ (fun hHeld => ?_)
  clear hK K
  try simp only [Act.put, List.getElem_toArray, List.getElem_cons_succ, List.getElem_cons_zero, List.setIfInBounds_toArray, List.set_cons_zero, List.set_cons_succ]
  refine wpAnyH_done (by kernel_rfl) ?_ _
  obtain ⟨p0, p1, p2, -⟩ := (((e1.set0 (.int .i64 r.k)).set1 (.int .i64 r.t)).set2 (.slice A5 r.us.length c5)).reads
  have b9 := ((b3.setCell (p := ⟨w.heap.size + 1, 0, none⟩) (Nat.le_succ _) (.int .i64 r.k)).setCell (p := ⟨w.heap.size + 1, 1, none⟩) (Nat.le_succ _) (.int .i64 r.t)).setCell (p := ⟨w.heap.size + 1, 2, none⟩) (Nat.le_succ _) (.slice A5 r.us.length c5)
  have o9 := ((o3.keptT (by decide) (but_set W3 (w.heap.size + 1) 0 (.int .i64 r.k)) (blk_type e1)).keptT (by decide) (but_set _ (w.heap.size + 1) 1 (.int .i64 r.t)) (blk_type (e1.set0 _))).keptT (by decide) (but_set _ (w.heap.size + 1) 2 (.slice A5 r.us.length c5)) (blk_type ((e1.set0 _).set1 _))
  clear hHeld S3 f0 t0 t1 t2 tf0 tf1 tf2 e0 e1
  go_wp2
  exact bodyPost_ret (v := .agg #[.int .i64 r.k, .int .i64 r.t, .slice A5 r.us.length c5]) (by simp [results, Tryd.results87, go_sem, p0, p1, p2]) rfl ⟨A5, c5, rfl, hc5, o9, b9⟩
/-- What the loop over records holds: the argument's box, the result's; the copies of the records out in a slice of the call's own. -/
def CpI (w : World) (A : Option Addr) (n c : Nat) (Ao : Option Addr) (co : Nat) (out : List Rec) (wr : World) : Prop :=
  Blk1 wr w.heap.size 25 (.slice A n c) ∧ Blk1 wr (w.heap.size + 1) 25 (.slice none 0 0) ∧ OwnRecF wr w.heap.size (.slice Ao out.length co) out ∧ Below w.heap.size w wr
section
variable {w wr w6 w8 : World} {A Ao A5 : Option Addr} {n c co c5 : Nat} {out : List Rec}
theorem CpI.later (h : CpI w A n c Ao co out wr) (hb : Below wr.heap.size wr w6) : CpI w A n c Ao co out w6 := by
  obtain ⟨h1, h2, h5, h6⟩ := h
  exact ⟨h1.later hb, h2.later hb, h5.below hb, h6.trans (hb.mono h6.size)⟩
theorem CpI.put {r : Rec} {v' : Value} {ys : List Value} {N : Nat} (h : CpI w A n c Ao co out w6) (har : ∀ j (hj : j < out.length), RecIs w6 w.heap.size ys j out[j]) (hap : AptR ys out.length) (hold : ∀ j u g, j < out.length → ys[j * 3 + 2]? = some u → u.ownBlock = some g → g < N) (hrow : w6.ownsRow w.heap.size 33 3 (.slice Ao out.length co) out.length ys)
    (o5 : OwnUps w6 w.heap.size (.slice A5 r.us.length c5) r.us) (hnew : ∀ g, (Value.slice A5 r.us.length c5).ownBlock = some g → N ≤ g) (hc5 : r.us.length ≤ c5)
    (hown : w8.ownsRow w.heap.size 33 3 v' (out.length + 1) (ys ++ [.int .i64 r.k, .int .i64 r.t, .slice A5 r.us.length c5])) (hg : (w6.alloc (.cells #[.int .i64 r.k, .int .i64 r.t, .slice A5 r.us.length c5] 33)).grownBy w8 (Value.slice Ao out.length co).ownBlock) :
    ∃ Ao' co', v' = .slice Ao' (out.length + 1) co' ∧ CpI w A n c Ao' co' (out ++ [r]) w8 := by
  obtain ⟨h1, h2, h5, h6⟩ := h
  have al := (Below.refl w6.heap.size w6).alloc (Nat.le_refl _) (.cells #[.int .i64 r.k, .int .i64 r.t, .slice A5 r.us.length c5] 33)
  have hrow' := World.ownsRow.alloc hrow (.cells #[.int .i64 r.k, .int .i64 r.t, .slice A5 r.us.length c5] 33)
  have oa := OwnRecF.app har hap hold hnew hc5 o5 hrow hown hg
  have hlt := World.ownsRow.lt hrow
  have k1 := (h1.later al).grown hg (blk_ne_row (h1.later al) hrow' (by decide))
  have k2 := (h2.later al).grown hg (blk_ne_row (h2.later al) hrow' (by decide))
  have hb8 : Below w.heap.size w w8 := (h6.alloc h6.size _).grown hg (by have := h6.size; simp; omega) (fun j hj => (hlt j hj).1)
  obtain ⟨Ao', co', e, -, -⟩ := oa.own.form
  rw [List.length_append, List.length_singleton] at e
  subst e
  refine ⟨Ao', co', rfl, k1, k2, ?_, hb8⟩
  rw [List.length_append, List.length_singleton]
  exact oa
end
set_option maxRecDepth 100000 in
set_option maxHeartbeats 8000000 in
theorem shdCopied_is (v : Value) (rs : List Rec) (w : World) (h : Shd w w.heap.size v rs) (hf : FitR rs) :
    Calls Tryd.prog 62 #[v] w (NewShF rs w) := by
  obtain ⟨i0, hi, hz0, hz1, hz2⟩ := info_of info_rec
  obtain ⟨A, c, rfl, h0, hc⟩ := h
  unfold shV
  have b0 := (((Below.refl w.heap.size w).alloc (Nat.le_refl _) (.cells #[.slice A rs.length c] 25)).alloc (by simp) (.cells #[.slice none 0 0] 25))
  have x0 := (Blk1.new_ w 25 (.slice A rs.length c)).alloc (.cells #[.slice none 0 0] 25)
  have x1 := Blk1.new_ (w.alloc (.cells #[.slice A rs.length c] 25)) 25 (.slice none 0 0)
  rw [World.size_alloc] at x1
  go_enter Tryd.func62, Tryd.ntmps62
  go_upto_region 1 with fail
  obtain ⟨w1, hw1⟩ : ∃ w1, (w.alloc (.cells #[.slice A rs.length c] 25)).alloc (.cells #[.slice none 0 0] 25) = w1 := ⟨_, rfl⟩
  rw [hw1] at b0 x0 x1 ⊢
  clear hw1
  have al := (Below.refl w1.heap.size w1).alloc (Nat.le_refl _) (.cells #[] 33)
  have S0 : CpI w A rs.length c (some ⟨w1.heap.size, 0, none⟩) 0 [] (w1.alloc (.cells #[] 33)) := ⟨x0.later al, x1.later al, OwnRecF.nil_new b0.size, b0.trans (al.mono b0.size)⟩
  clear b0 x0 x1 al
  go_upto_region 2 with fail
  obtain ⟨w2, hw2⟩ : ∃ x, w1.alloc (.cells #[] 33) = x := ⟨_, rfl⟩
  rw [hw2] at S0 ⊢
  clear hw2
  obtain ⟨y0, -⟩ := id S0.1.reads
  go_wp2_with fail
  go_loopw [3, 10] (fun o i wr => ∃ (k : Nat) (Ao : Option Addr) (co : Nat), k ≤ rs.length ∧ i = .int .i64 k ∧ o = .slice Ao k co ∧ Hid ((rs.take k).length = k) ∧ CpI w A rs.length c Ao co (rs.take k) wr) (fun _ i _ => rs.length - (intOf i).toNat)
  case atStart => exact ⟨0, _, _, Nat.zero_le _, rfl, rfl, rfl, S0⟩
  case round =>
    obtain ⟨k, Ao, co, hk, rfl, rfl, HL, S⟩ := hrel
    clear S0 y0
    have hb := S.2.2.2
    have hz := hb.size
    obtain ⟨y0, -⟩ := id S.1.reads
    by_cases hlt : k < rs.length
    · obtain ⟨r, ad, A', c', ho, rfl, ha, g0, g1, g2, g3, g4⟩ := (h0.below hb (Nat.le_refl _)).rec hlt
      have q0 : (0 : Int) ≤ (k : Int) := by omega
      have q1 : (k : Int) < (rs.length : Int) := by omega
      have hT : Hid (rs.take (k + 1) = rs.take k ++ [r]) := by
        show _ = _
        rw [List.take_succ_eq_append_getElem hlt, ho]
      have hr1 := hf.2 r (by rw [← ho]; exact List.getElem_mem hlt)
      have hf1 := hf.1
      obtain ⟨out, hout⟩ : ∃ out, rs.take k = out := ⟨_, rfl⟩
      rw [hout] at S hT HL
      have x3 := Blk3s.new_ wr 33 (.int .i64 r.k) (.int .i64 r.t) (.slice A' r.us.length c')
      have al := (Below.refl wr.heap.size wr).alloc (Nat.le_refl _) (.cells #[.int .i64 r.k, .int .i64 r.t, .slice A' r.us.length c'] 33)
      have CR : Hid (∀ x, Below wr.heap.size wr x → Calls Tryd.prog 87 #[.agg #[.int .i64 r.k, .int .i64 r.t, .slice A' r.us.length c']] x (NewRec r x)) := fun x hx => recCopied_is A' c' r x ((g4.below hx hz).more (Nat.le_trans hz hx.size)) hr1
      clear hout ho
      go_upto_region 5 with fail
      obtain ⟨w3, hw3⟩ : ∃ w3, wr.alloc (.cells #[.int .i64 r.k, .int .i64 r.t, .slice A' r.us.length c'] 33) = w3 := ⟨_, rfl⟩
      rw [hw3] at x3 al ⊢
      clear hw3 y0 g0 g1 g2
      obtain ⟨e0, e1, e2, -⟩ := id x3.reads
      have S3 := S.later al
      have z3 := al.size
      go_wp2_with fail
      refine (CR.out _ al).mono ?_
      rintro e w4 ⟨A5, c5, rfl, hc5, o5, d5⟩
      have S4 := S3.later d5
      obtain ⟨xs3, hr3, ha3, hp3⟩ := id S3.2.2.1
      have hold : ∀ j u g, j < out.length → xs3[j * 3 + 2]? = some u → u.ownBlock = some g → g < w3.heap.size := fun j u g hj hu hg => ((ha3 j hj).lt u g hu hg).2
      have hnew : ∀ g, (Value.slice A5 r.us.length c5).ownBlock = some g → w3.heap.size ≤ g := o5.lt
      have hrow4 := own_below hr3 d5 (Nat.le_refl _)
      have har4 : ∀ j (hj : j < out.length), RecIs w4 w.heap.size xs3 j out[j] := fun j hj => by
        obtain ⟨A2, c2, k0, k1, k2, k3, k4⟩ := ha3 j hj
        exact ⟨A2, c2, k0, k1, k2, k3, k4.below d5⟩
      have o5' := o5.base (B' := w.heap.size) (Nat.le_trans hz z3)
      have z4 : w.heap.size ≤ w4.heap.size := S4.2.2.2.size
      have HP := hid fun (v8 : Value) (w8 : World) h1 h2 => S4.put (r := r) (v' := v8) (w8 := w8) (N := w3.heap.size) har4 hp3 hold hrow4 o5' hnew hc5 h1 h2
      rw [HL.out] at hrow4 HP
      clear e0 e1 e2 x3 al S S3 S4 d5 hr3 ha3 hp3 hold hnew har4 o5 o5' CR g4 hz z3 hb
      go_wp2_with (at_builtin; go_must (refine wpList_append_row _ rfl _ _ 23 rfl w.heap.size 33 i0 (.agg #[.int .i64 0, .int .i64 0, .slice none 0 0]) 3 40 Tryd.underlying23 hi hz0 hz1 hz2 rfl (by decide) _ k xs3 rfl (World.ownsRow.alloc hrow4 _) _ (some ⟨w4.heap.size, 0, none⟩) 1 1 [.int .i64 r.k, .int .i64 r.t, .slice A5 r.us.length c5] rfl (row_threeR w4 _ _ _ _) rfl (rec_cells _ _ _ _ _) (by unfold maxLen; omega) (by omega) (by simp; omega) ?_); intro v8 w8 hown8 hg8; obtain ⟨Ao8, co8, rfl, S8⟩ := HP.out v8 w8 hown8 hg8)
      go_roundw
      case rel => exact ⟨k + 1, Ao8, co8, hlt, by go_num, rfl, by show _ = _; rw [hT.out]; simp [HL.out], by rw [hT.out]; exact S8⟩
      case measure => simp [intOf]; omega
    · have hk' : k = rs.length := by omega
      subst hk'
      rw [List.take_length] at S
      obtain ⟨s1, s2, s5, s6⟩ := S
      obtain ⟨t0, tf⟩ := id s2.reads
      have tf0 := tf 0
      clear tf
      have o9 := s5.keptT (by decide) (by decide) (but_set wr (w.heap.size + 1) 0 (.slice Ao rs.length co)) (blk_type s2)
      have b9 := s6.setCell (p := ⟨w.heap.size + 1, 0, none⟩) (Nat.le_succ _) (.slice Ao rs.length co)
      obtain ⟨p0, -⟩ := (s2.set0 (.slice Ao rs.length co)).reads
      clear s1 s2 s5 s6
      go_wp2
      exact bodyPost_ret (v := .agg #[.slice Ao rs.length co]) (by simp [results, Tryd.results62, go_sem, p0]) rfl ⟨_, rfl, OwnShF.mk_ o9, b9⟩
end Go.Proofs.YteeffchnbkkpfabDoor
