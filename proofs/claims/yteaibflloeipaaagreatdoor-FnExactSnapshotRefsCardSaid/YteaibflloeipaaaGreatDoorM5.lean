/-
  The coordinator with the slices $SA and $SB is stored as the answer, with the word $BB.
  The coordinator with the slices $SA and $SB is stored as the answer, with the word $BB.
  The coordinator with the slices $SA and $SB is stored as the answer, with the word $BB.
  The coordinator with the slices $SA and $SB is stored as the answer, with the word $BB.
  The coordinator with the slices $SA and $SB is stored as the answer, with the word $BB.
  The coordinator with the slices $SA and $SB is stored as the answer, with the word $BB.
-/
import Derived.Test.YteaibflloeipaaaGreatDoorM4
set_option linter.unusedSimpArgs false
set_option linter.unusedVariables false
/- Laws on coordinators: a coordinator is boxed. -/
/- On to the world behind D. -/
/- An exact law begins: the argument's box, its size, a copy for the model. -/
/- The program's own copy of the argument is boxed. -/
/- The program's copy is as the argument; the region draws. -/
/- Laws on functions that answer numbers. -/
/- What the boxes hold is read again. -/
/- The coordinator with the slices P4 and P5 is boxed as P6, in block P7, behind it the world P3; ahead of region P1. -/
/- The draw, the program's answer, the model's, and that they are the same: behind it w5, all facts on it by way of dx. -/
/-
  Walk: a coordinator in new memory, by the model.
-/
namespace Go.Proofs.YteaibflloeipaaaGreatDoor
open Go.RowKit Wo Pu Rf Co

/-- What the loop over transactions has laid: the argument's box, the result's, the copy's at g with the transactions out and the order os. -/
def CpC (w : World) (A : Option Addr) (n c : Nat) (A2 : Option Addr) (n2 c2 g : Nat) (col : Nat → Nat) (a b : Value) (out : List Tx) (os : List Int) (wr : World) : Prop :=
  Blk2s wr w.heap.size 26 (.slice A n c) (.slice A2 n2 c2) ∧ Blk2s wr (w.heap.size + 1) 26 (.slice none 0 0) (.slice none 0 0) ∧ Blk2s wr g 26 a b ∧ w.heap.size + 1 < g ∧ OwnTxs col wr w.heap.size a out ∧ (OwnI wr w.heap.size b os ∧ ColV col 0 b) ∧ Below w.heap.size w wr
section
variable {w wr w4 : World} {A A2 : Option Addr} {n c n2 c2 g : Nat} {col : Nat → Nat} {a b a' b' : Value} {out : List Tx} {os : List Int}
theorem CpC.later (h : CpC w A n c A2 n2 c2 g col a b out os wr) (hb : Below wr.heap.size wr w4) : CpC w A n c A2 n2 c2 g col a b out os w4 := by
  obtain ⟨h1, h2, h3, h4, h5, h6, h7⟩ := h
  exact ⟨h1.later hb, h2.later hb, h3.later hb, h4, h5.below hb, ⟨h6.1.below hb (Nat.le_refl _), h6.2⟩, h7.trans (hb.mono h7.size)⟩
theorem CpC.put {t : Tx} (h : CpC w A n c A2 n2 c2 g col a b out os wr) (D : Below wr.heap.size wr w4) (hx : TxOf (fun _ => 0) 0 w4 wr.heap.size a' b' t) :
    ∃ ys, w4.ownsRow w.heap.size 33 3 a out.length ys ∧ ∀ v' w1, w1.ownsRow w.heap.size 33 3 v' (out.length + 1) (ys ++ [a', b', .int .i64 t.d]) →
      (w4.alloc (.cells #[a', b', .int .i64 t.d] 33)).grownBy w1 a.ownBlock → ∃ Ao co col', v' = .slice Ao (out.length + 1) co ∧ (w1.cell? ⟨g, 0, none⟩ = some a ∧ w1.frozen? ⟨g, 0, none⟩ = false) ∧ Below w.heap.size w w1 ∧
        CpC w A n c A2 n2 c2 g col' (.slice Ao (out.length + 1) co) b (out ++ [t]) os (w1.setCell ⟨g, 0, none⟩ (.slice Ao (out.length + 1) co)) := by
  obtain ⟨h1, h2, h3, h4, h5, h6, h7⟩ := h
  obtain ⟨ys, hrow, H⟩ := h5.more D h7.size hx
  refine ⟨ys, hrow, fun v' w1 hown hg => ?_⟩
  have O := H v' w1 hown hg
  have al := (Below.refl w4.heap.size w4).alloc (Nat.le_refl _) (.cells #[a', b', .int .i64 t.d] 33)
  have hrow' := World.ownsRow.alloc hrow (.cells #[a', b', .int .i64 t.d] 33)
  have D' := D.trans (al.mono D.size)
  have k1 := (h1.later D').grown hg (blk_ne_row (h1.later D') hrow' (by decide))
  have k2 := (h2.later D').grown hg (blk_ne_row (h2.later D') hrow' (by decide))
  have k3 := (h3.later D').grown hg (blk_ne_row (h3.later D') hrow' (by decide))
  have bb := (h7.trans (D'.mono h7.size)).grown hg (by have := h7.size; have := D'.size; omega) (fun j hj => (World.ownsRow.lt hrow' j hj).1)
  have k6 : OwnI w1 w.heap.size b os := row_far_type (h6.1.below D' (Nat.le_refl _)) (by decide) hg fun g e => row_typed hrow' g e
  have k7 : ColV (paint w1 (tint wr col (out.length + 2))) 0 b := paint_col k6 (.inr (.inr rfl)) (tint_old h6.1 h6.2)
  obtain ⟨Ao, co, e, -, -⟩ := O.form
  rw [List.length_append, List.length_singleton] at e
  subst e
  refine ⟨Ao, co, _, rfl, ⟨k3.reads.1, k3.reads.2.2 0⟩, bb, k1.far (by show w.heap.size ≠ g; omega) _, k2.far (by show w.heap.size + 1 ≠ g; omega) _, k3.set0 _, h4, O.keptT (by decide) (by decide) (by decide) (by decide) (but_set w1 g 0 _) (blk_type k3), ⟨row_far_type k6 (by decide) (but_set w1 g 0 _) (blk_type k3), k7⟩, bb.setCell (by show w.heap.size ≤ g; omega) _⟩
end
set_option linter.unusedSimpArgs false in
set_option linter.unusedVariables false in
set_option maxRecDepth 100000 in
set_option maxHeartbeats 16000000 in
theorem l22Copy_any (v : Value) (q : Crd) (w : World) (h : Crdd w w.heap.size v q) (hf : FitC q) :
    Calls Tryz.prog 59 #[v] w (NewCr q w) := by
  obtain ⟨i0, hi, hz0, hz1, hz2⟩ := info_of info_txn
  obtain ⟨i1, hj, hy0, hy1, hy2⟩ := info_of info_int
  obtain ⟨A, c, A2, c2, rfl, h0, hc, h2, hc2⟩ := h
  have HF := hid hf
  have hf1 := hf.ts
  have hf2 := hf.os
  clear hf
  unfold crV
  have b0 := ((Below.refl w.heap.size w).alloc (Nat.le_refl _) (.cells #[.slice A q.ts.length c, .slice A2 q.os.length c2] 26)).alloc (by simp) (.cells #[.slice none 0 0, .slice none 0 0] 26)
  have x0 := (Blk2s.new_ w 26 (.slice A q.ts.length c) (.slice A2 q.os.length c2)).alloc (.cells #[.slice none 0 0, .slice none 0 0] 26)
  have x1 := Blk2s.new_ (w.alloc (.cells #[.slice A q.ts.length c, .slice A2 q.os.length c2] 26)) 26 (.slice none 0 0) (.slice none 0 0)
  rw [World.size_alloc] at x1
  go_enter Tryz.func59, Tryz.ntmps59
  go_upto_region 1 with fail
  obtain ⟨w1, hw1⟩ : ∃ w1, (w.alloc (.cells #[.slice A q.ts.length c, .slice A2 q.os.length c2] 26)).alloc (.cells #[.slice none 0 0, .slice none 0 0] 26) = w1 := ⟨_, rfl⟩
  rw [hw1] at b0 x0 x1 ⊢
  clear hw1
  have z1 := b0.size
  have al := ((Below.refl w1.heap.size w1).alloc (Nat.le_refl _) (.cells #[] 33)).alloc (by simp) (.cells #[] 3)
  obtain ⟨-, y1, -⟩ := id (x0.later al).reads
  have r2 := (h2.below b0 (Nat.le_refl _)).below al z1
  have oT : ((w1.alloc (.cells #[] 33)).alloc (.cells #[] 3)).ownsRow w.heap.size 33 3 (.slice (some ⟨w1.heap.size, 0, none⟩) 0 0) 0 [] := World.ownsRow.alloc (nil_own z1 _ _) _
  have nI : ((w1.alloc (.cells #[] 33)).alloc (.cells #[] 3)).ownsRow w.heap.size 3 1 (.slice (some ⟨(w1.alloc (.cells #[] 33)).heap.size, 0, none⟩) 0 0) 0 [] := nil_own (by simp; omega) _ _
  rw [World.size_alloc] at nI
  go_upto_region 2 with (at_builtin; go_must (refine wpList_append_row _ rfl _ _ 24 rfl w.heap.size 3 i1 (.int .i64 0) 1 8 Tryz.underlying24 hj hy0 hy1 hy2 rfl (by decide) _ 0 [] rfl nI w.heap.size A2 q.os.length c2 (ints q.os) rfl r2 (by rw [ints_length]; omega) (ints_cells _) (by unfold maxLen; omega) (by omega) (by simp; omega) ?_); intro v5 w5 hown5 hg5; rw [Nat.zero_add, List.nil_append] at hown5; have o5 : OwnI w5 w.heap.size v5 q.os := hown5; obtain ⟨A5, c5, rfl, -, hc5⟩ := o5.form)
  clear hown5
  have nT : ∀ j, (Value.slice (some ⟨w1.heap.size + 1, 0, none⟩) 0 0).ownBlock = some j → j = w1.heap.size + 1 := fun j hj => by simpa [Value.ownBlock] using hj.symm
  replace hg5 : ((w1.alloc (.cells #[] 33)).alloc (.cells #[] 3)).grownBy w5 (Value.slice (some ⟨w1.heap.size + 1, 0, none⟩) 0 0).ownBlock := hg5
  have d5 : Below w1.heap.size w1 w5 := al.grown hg5 (by simp; omega) (fun j hj => by have := nT j hj; omega)
  have oT5 := row_far_type oT (by decide) hg5 (row_typed nI)
  have b5 := b0.trans (d5.mono z1)
  have al5 := (Below.refl w5.heap.size w5).alloc (Nat.le_refl _) (.cells #[.slice (some ⟨w1.heap.size, 0, none⟩) 0 0, .slice A5 q.os.length c5] 26)
  have zz5 := d5.size
  have zz1 : w.heap.size + 1 < w1.heap.size := x1.lt
  have S0 : CpC w A q.ts.length c A2 q.os.length c2 w5.heap.size (fun g => if g = w1.heap.size then 1 else 0) (.slice (some ⟨w1.heap.size, 0, none⟩) 0 0) (.slice A5 q.os.length c5) [] q.os (w5.alloc (.cells #[.slice (some ⟨w1.heap.size, 0, none⟩) 0 0, .slice A5 q.os.length c5] 26)) := by
    refine ⟨(x0.later d5).later al5, (x1.later d5).later al5, Blk2s.new_ w5 _ _ _, by omega, ?_, ⟨o5.below al5 (Nat.le_refl _), fun g hg => ?_⟩, b5.trans (al5.mono b5.size)⟩
    · refine ⟨[], own_below oT5 al5 (Nat.le_refl _), (fun j hj => by simp at hj), fun g hg => ?_⟩
      have hgg : w1.heap.size = g := by simpa [Value.ownBlock] using hg
      subst hgg
      simp
    · have hne : g ≠ w1.heap.size := fun e => by
        subst e
        rcases (World.ownsRow.alloc o5 (.cells #[] 3)).2 with ⟨h, _⟩ | h
        · rw [h] at hg; cases hg
        · exact (blk_ne_row (g := w1.heap.size) (T := 33) (T' := 3) (w := w5) (cs := #[]) (fr := (0, 0)) ((hg5.block _ (by simp; omega) (fun e => by have := nT _ e.symm; omega)).trans ((((Below.refl (w1.alloc (.cells #[] 33)).heap.size (w1.alloc (.cells #[] 33))).alloc (Nat.le_refl _) (.cells #[] 3)).block _ (by simp)).trans (heap_alloc_new w1 _))) o5 (by decide)) hg.symm
      simp [hne]
  clear x0 x1 al r2 oT nI oT5 o5 y1 al5 b5 hg5 d5
  obtain ⟨w6, hw6⟩ : ∃ x, w5.alloc (.cells #[.slice (some ⟨w1.heap.size, 0, none⟩) 0 0, .slice A5 q.os.length c5] 26) = x := ⟨_, rfl⟩
  obtain ⟨g, hgg⟩ : ∃ x, w5.heap.size = x := ⟨_, rfl⟩
  rw [hw6, hgg] at S0
  rw [hgg]
  have hw6' : w5.alloc (.cells #[.slice (some ⟨w1.heap.size, 0, none⟩) 0 0, .slice A5 q.os.length c5] 26) = w6 := hw6
  try rw [hw6']
  clear hw6 hw6' hgg zz5 zz1 nT
  go_wp2_with fail
  go_loopw [4] (fun i wr => ∃ (k : Nat) (col : Nat → Nat) (Ao : Option Addr) (co : Nat), k ≤ q.ts.length ∧ i = .int .i64 k ∧ CpC w A q.ts.length c A2 q.os.length c2 g col (.slice Ao (q.ts.take k).length co) (.slice A5 q.os.length c5) (q.ts.take k) q.os wr) (fun i _ => q.ts.length - (intOf i).toNat)
  case atStart => exact ⟨0, _, _, _, Nat.zero_le _, rfl, S0⟩
  case round =>
    obtain ⟨k, col, Ao, co, hk, rfl, S⟩ := hrel
    clear S0
    have hb := S.2.2.2.2.2.2
    have hz := hb.size
    obtain ⟨y0, -⟩ := id S.1.reads
    by_cases hlt : k < q.ts.length
    · obtain ⟨t, ad, A', c', A9, c9, ho, rfl, ha, g0, g1, g2, g3, g4, g5, g6⟩ := (h0.below hb (Nat.le_refl _)).tx hlt
      have q0 : (0 : Int) ≤ (k : Int) := by omega
      have q1 : (k : Int) < (q.ts.length : Int) := by omega
      have hT : Hid (q.ts.take (k + 1) = q.ts.take k ++ [t]) := by
        show _ = _
        rw [List.take_succ_eq_append_getElem hlt, ho]
      have hps := HF.out.ps t (by rw [← ho]; exact List.getElem_mem hlt)
      have hus := HF.out.us t (by rw [← ho]; exact List.getElem_mem hlt)
      have hps2 := hps.2
      have hol : (q.ts.take k).length ≤ 1048576 := by rw [List.length_take]; omega
      obtain ⟨out, hout⟩ : ∃ out, q.ts.take k = out := ⟨_, rfl⟩
      rw [hout] at S hT hol
      have x3 := Blk3s.new_ wr 33 (.slice A' t.ps.length c') (.slice A9 t.vs.length c9) (.int .i64 t.d)
      have al := (Below.refl wr.heap.size wr).alloc (Nat.le_refl _) (.cells #[.slice A' t.ps.length c', .slice A9 t.vs.length c9, .int .i64 t.d] 33)
      have HLT : Hid (∀ j, (Value.slice Ao out.length co).ownBlock = some j → j < wr.heap.size) := by
        obtain ⟨xs, k1, -⟩ := S.2.2.2.2.1
        exact fun j hj => (World.ownsRow.lt k1 j hj).2
      have hg3 : g < wr.heap.size := S.2.2.1.lt
      have hb3 := hb.trans (al.mono hz)
      have g5' := (g5.below al hz).more (Nat.le_trans hz al.size)
      have g6' := (g6.below al hz).more (Nat.le_trans hz al.size)
      clear hout ho
      go_upto_region 6 with fail
      obtain ⟨w3, hw3⟩ : ∃ w3, wr.alloc (.cells #[.slice A' t.ps.length c', .slice A9 t.vs.length c9, .int .i64 t.d] 33) = w3 := ⟨_, rfl⟩
      rw [hw3] at x3 al g5' g6' hb3 ⊢
      clear hw3 y0 g0 g1 g2
      have S3 := S.later al
      have hz3 := hb3.size
      have HS3 := hid S3
      have HX5 : Hid (∀ x, Below w3.heap.size w3 x → Blk3s x wr.heap.size 33 (.slice A' t.ps.length c') (.slice A9 t.vs.length c9) (.int .i64 t.d)) := fun x hx => x3.later hx
      have HS : Hid (∀ x, Below w3.heap.size w3 x → x.cell? ⟨wr.heap.size, 0, none⟩ = some (.slice A' t.ps.length c') ∧ x.cell? ⟨wr.heap.size, 1, none⟩ = some (.slice A9 t.vs.length c9) ∧ x.cell? ⟨wr.heap.size, 2, none⟩ = some (.int .i64 t.d)) := fun x hx =>
        ⟨(HX5.out x hx).reads.1, (HX5.out x hx).reads.2.1, (HX5.out x hx).reads.2.2.1⟩
      have HC : Hid (∀ x, Below w3.heap.size w3 x → Calls Tryz.prog 97 #[.slice A' t.ps.length c'] x (NewPs t.ps x)) := fun x hx => l22Parts2_any A' c' t.ps x ((g5'.below hx (Nat.le_refl _)).more hx.size) hps.1 hus
      have HV : Hid (∀ x, Below w3.heap.size w3 x → Row x w3.heap.size A9 (ints t.vs)) := fun x hx => g6'.below hx (Nat.le_refl _)
      have HN5 : Hid (some wr.heap.size ≠ (Value.slice Ao out.length co).ownBlock) := fun e => by have := HLT.out _ e.symm; omega
      have HG5 : Hid (wr.heap.size ≠ g) := by show _ ≠ _; omega
      clear S S3 x3 al g3 g4 g5 g6 g5' g6' hb hz hus hg3 hps
      have D : Below w3.heap.size w3 w3.drew := (Below.refl _ _).drew
      refine wp_region_held_drew (S := fun x => x.cell? ⟨wr.heap.size, 0, none⟩ = some (.slice A' t.ps.length c') ∧ x.cell? ⟨wr.heap.size, 1, none⟩ = some (.slice A9 t.vs.length c9) ∧ x.cell? ⟨wr.heap.size, 2, none⟩ = some (.int .i64 t.d)) (by kernel_rfl) (HS.out _ D) (fun hHeld => ?_)
      obtain ⟨W, hW⟩ : ∃ x, w3.drew = x := ⟨_, rfl⟩
      rw [hW] at D hHeld ⊢
      clear hW
      try simp only [Act.put, List.getElem_toArray, List.getElem_cons_succ, List.getElem_cons_zero, List.setIfInBounds_toArray, List.set_cons_zero, List.set_cons_succ]
      refine wpAnyH_take (i := 0) (oi := _) (v := ?_) rfl (by kernel_rfl) (by kernel_rfl) (by kernel_rfl) (fun _ _ _ h => h) (Or.inl ⟨by rfl, ?_⟩) hHeld ?_
      rotate_left
      · (intro w' hSw; (try dsimp only at hSw); go_simp <;> with_reducible rfl)
      try simp only [Act.put, List.getElem_toArray, List.getElem_cons_succ, List.getElem_cons_zero, List.setIfInBounds_toArray, List.set_cons_zero, List.set_cons_succ]
      refine wpAnyH_take (i := 2) (oi := _) (v := ?_) rfl (by kernel_rfl) (by kernel_rfl) (by kernel_rfl) (fun _ _ _ h => h) (Or.inl ⟨by rfl, ?_⟩) hHeld ?_
      rotate_left
      · (intro w' hSw; (try dsimp only at hSw); go_simp <;> with_reducible rfl)
      try simp only [Act.put, List.getElem_toArray, List.getElem_cons_succ, List.getElem_cons_zero, List.setIfInBounds_toArray, List.set_cons_zero, List.set_cons_succ]
      refine wpAnyH_take (i := 3) (oi := _) (v := ?_) rfl (by kernel_rfl) (by kernel_rfl) (by kernel_rfl) (fun _ _ _ h => h) (Or.inl ⟨by rfl, ?_⟩) hHeld ?_
      rotate_left
      · (intro w' hSw; (try dsimp only at hSw); go_simp <;> with_reducible rfl)
      try simp only [Act.put, List.getElem_toArray, List.getElem_cons_succ, List.getElem_cons_zero, List.setIfInBounds_toArray, List.set_cons_zero, List.set_cons_succ]
      refine wpAnyH_take (i := 6) (oi := _) (v := ?_) rfl (by kernel_rfl) (by kernel_rfl) (by kernel_rfl) (fun _ _ _ h => h) (Or.inl ⟨by rfl, ?_⟩) hHeld ?_
      rotate_left
      · (intro w' hSw; (try dsimp only at hSw); go_simp <;> with_reducible rfl)
      try simp only [Act.put, List.getElem_toArray, List.getElem_cons_succ, List.getElem_cons_zero, List.setIfInBounds_toArray, List.set_cons_zero, List.set_cons_succ]
      refine wpAnyH_take (i := 7) (oi := _) (v := ?_) rfl (by kernel_rfl) (by kernel_rfl) (by kernel_rfl) (fun _ _ _ h => h) (Or.inl ⟨by rfl, ?_⟩) hHeld ?_
      rotate_left
      · (intro w' hSw; (try dsimp only at hSw); go_simp <;> with_reducible rfl)
      try simp only [Act.put, List.getElem_toArray, List.getElem_cons_succ, List.getElem_cons_zero, List.setIfInBounds_toArray, List.set_cons_zero, List.set_cons_succ]
      refine wpAnyH_take (i := 9) (oi := _) (v := ?_) rfl (by kernel_rfl) (by kernel_rfl) (by kernel_rfl) (fun _ _ _ h => h) (Or.inl ⟨by rfl, ?_⟩) hHeld ?_
      rotate_left
      · (intro w' hSw; (try dsimp only at hSw); go_simp <;> with_reducible rfl)
      try simp only [Act.put, List.getElem_toArray, List.getElem_cons_succ, List.getElem_cons_zero, List.setIfInBounds_toArray, List.set_cons_zero, List.set_cons_succ]
      refine wpAnyH_take (i := 10) (oi := _) (v := ?_) rfl (by kernel_rfl) (by kernel_rfl) (by kernel_rfl) (fun _ _ _ h => h) (Or.inl ⟨by rfl, ?_⟩) hHeld ?_
      rotate_left
      · (intro w' hSw; (try dsimp only at hSw); go_simp <;> with_reducible rfl)
      try simp only [Act.put, List.getElem_toArray, List.getElem_cons_succ, List.getElem_cons_zero, List.setIfInBounds_toArray, List.set_cons_zero, List.set_cons_succ]
      refine wpAnyH_ready (rs := [1, 4, 5]) (by kernel_rfl) (by simp) (AllReadyH.cons (o := _) rfl (fun K hK => ?_) (AllReadyH.cons (o := _) rfl (fun K hK => ?_) (AllReadyH.cons (o := _) rfl (fun K hK => ?_) AllReadyH.nil)))
      · skip
        try simp only [Act.put, List.getElem_toArray, List.getElem_cons_succ, List.getElem_cons_zero, List.setIfInBounds_toArray, List.set_cons_zero, List.set_cons_succ]
        have yL := (HS3.out.later D).2.2.1.reads.1
        go_simp
        refine hK.out _ _ (HS.out _ D) (fun hHeld => ?_)
        clear hK K
        try simp only [Act.put, List.getElem_toArray, List.getElem_cons_succ, List.getElem_cons_zero, List.setIfInBounds_toArray, List.set_cons_zero, List.set_cons_succ]
        clear yL
        refine wpAnyH_ready (rs := [4, 5]) (by kernel_rfl) (by simp) (AllReadyH.cons (o := _) rfl (fun K hK => ?_) (AllReadyH.cons (o := _) rfl (fun K hK => ?_) AllReadyH.nil))
        · skip
          try simp only [Act.put, List.getElem_toArray, List.getElem_cons_succ, List.getElem_cons_zero, List.setIfInBounds_toArray, List.set_cons_zero, List.set_cons_succ]
          go_simp
          go_at_call 97
          refine (HC.out _ D).mono ?_
          rintro e W ⟨vp, rfl, op', d5⟩
          have op := op'.base D.size
          obtain ⟨Ap, cp, rfl, -, -⟩ := op.form
          try replace na := own_below na d5 (Nat.le_refl _)
          try replace nv := OwnI.below nv d5 (Nat.le_refl _)
          replace D := D.trans (d5.mono D.size)
          clear op' d5
          refine hK.out _ _ (HS.out _ D) (fun hHeld => ?_)
          clear hK K
          try simp only [Act.put, List.getElem_toArray, List.getElem_cons_succ, List.getElem_cons_zero, List.setIfInBounds_toArray, List.set_cons_zero, List.set_cons_succ]
          refine wpAnyH_ready (rs := [5]) (by kernel_rfl) (by simp) (AllReadyH.cons (o := _) rfl (fun K hK => ?_) AllReadyH.nil)
          try simp only [Act.put, List.getElem_toArray, List.getElem_cons_succ, List.getElem_cons_zero, List.setIfInBounds_toArray, List.set_cons_zero, List.set_cons_succ]
          have al := (Below.refl W.heap.size W).alloc (Nat.le_refl _) (.cells #[] 3)
          have na : (W.alloc (.cells #[] 3)).ownsRow w3.heap.size 3 1 (.slice (some ⟨W.heap.size, 0, none⟩) 0 0) 0 [] := nil_own D.size _ _
          try replace op := op.below al
          replace D := D.trans (al.mono D.size)
          go_simp
          obtain ⟨gA, hgA⟩ : ∃ x, W.heap.size = x := ⟨_, rfl⟩
          obtain ⟨W, hW⟩ : ∃ x, W.alloc (.cells #[] 3) = x := ⟨_, rfl⟩
          rw [hW, hgA] at na ⊢
          rw [hW] at D
          try rw [hW] at op
          clear al hW hgA
          refine hK.out _ _ (HS.out _ D) (fun hHeld => ?_)
          clear hK K
          try simp only [Act.put, List.getElem_toArray, List.getElem_cons_succ, List.getElem_cons_zero, List.setIfInBounds_toArray, List.set_cons_zero, List.set_cons_succ]
          refine wpAnyH_ready (rs := [8]) (by kernel_rfl) (by simp) (AllReadyH.cons (o := _) rfl (fun K hK => ?_) AllReadyH.nil)
          try simp only [Act.put, List.getElem_toArray, List.getElem_cons_succ, List.getElem_cons_zero, List.setIfInBounds_toArray, List.set_cons_zero, List.set_cons_succ]
          rw [if_pos (by rfl)]
          refine op_append_row2 _ (by rfl) _ _ 24 (by rfl) w3.heap.size 3 i1 (.int .i64 0) 1 8 Tryz.underlying24 hj hy0 hy1 hy2 rfl (by decide) (.slice (some ⟨gA, 0, none⟩) 0 0) 0 [] (by rfl) na w3.heap.size A9 t.vs.length c9 (ints t.vs) (by rfl) (HV.out _ D) (by rw [ints_length]; omega) (ints_cells _) (by unfold maxLen; omega) (by omega) D.size ?_
          intro v9 W hown hg
          rw [Nat.zero_add, List.nil_append] at hown
          replace D := D.grown hg D.size (fun j hj => (World.ownsRow.lt na j hj).1)
          try replace op := op.keptI hg (row_typed na)
          have nv : OwnI W w3.heap.size v9 t.vs := hown
          obtain ⟨Av, cv, rfl, -, -⟩ := nv.form
          clear hown hg na
          refine hK.out _ _ (HS.out _ D) (fun hHeld => ?_)
          clear hK K
          try simp only [Act.put, List.getElem_toArray, List.getElem_cons_succ, List.getElem_cons_zero, List.setIfInBounds_toArray, List.set_cons_zero, List.set_cons_succ]
          refine wpAnyH_take (i := 11) (oi := _) (v := ?_) rfl (by kernel_rfl) (by kernel_rfl) (by kernel_rfl) (fun _ _ _ h => h) (Or.inl ⟨by rfl, ?_⟩) hHeld ?_
          rotate_left
          · (intro w' hSw; (try dsimp only at hSw); go_simp <;> with_reducible rfl)
          try simp only [Act.put, List.getElem_toArray, List.getElem_cons_succ, List.getElem_cons_zero, List.setIfInBounds_toArray, List.set_cons_zero, List.set_cons_succ]
          refine wpAnyH_ready (rs := [12]) (by kernel_rfl) (by simp) (AllReadyH.cons (o := _) rfl (fun K hK => ?_) AllReadyH.nil)
          try simp only [Act.put, List.getElem_toArray, List.getElem_cons_succ, List.getElem_cons_zero, List.setIfInBounds_toArray, List.set_cons_zero, List.set_cons_succ]
          obtain ⟨ys, hrow, HP⟩ := HS3.out.put D (t := t) ⟨op, nv, fun _ _ => rfl⟩
          have HPP := hid HP
          have rA := row_three_ W (.slice Ap t.ps.length cp) (.slice Av t.vs.length cv) (.int .i64 t.d) 33
          have hrow' := World.ownsRow.alloc hrow (.cells #[.slice Ap t.ps.length cp, .slice Av t.vs.length cv, .int .i64 t.d] 33)
          replace D := D.trans (((Below.refl W.heap.size W).alloc (Nat.le_refl _) (.cells #[.slice Ap t.ps.length cp, .slice Av t.vs.length cv, .int .i64 t.d] 33)).mono D.size)
          clear HP hrow op nv
          go_simp
          refine hK.out _ _ (HS.out _ D) (fun hHeld => ?_)
          clear hK K
          try simp only [Act.put, List.getElem_toArray, List.getElem_cons_succ, List.getElem_cons_zero, List.setIfInBounds_toArray, List.set_cons_zero, List.set_cons_succ]
          refine wpAnyH_ready (rs := [13]) (by kernel_rfl) (by simp) (AllReadyH.cons (o := _) rfl (fun K hK => ?_) AllReadyH.nil)
          try simp only [Act.put, List.getElem_toArray, List.getElem_cons_succ, List.getElem_cons_zero, List.setIfInBounds_toArray, List.set_cons_zero, List.set_cons_succ]
          rw [if_pos (by rfl)]
          refine op_append_row2 _ (by rfl) _ _ 23 (by rfl) w.heap.size 33 i0 (.agg #[.slice none 0 0, .slice none 0 0, .int .i64 0]) 3 56 Tryz.underlying23 hi hz0 hz1 hz2 rfl (by decide) (.slice Ao out.length co) out.length ys (by rfl) hrow' _ (some ⟨W.heap.size, 0, none⟩) 1 1 [.slice Ap t.ps.length cp, .slice Av t.vs.length cv, .int .i64 t.d] (by rfl) rA rfl (tx_cells _ _ _ _ _ _ _) (by unfold maxLen; omega) (by omega) (Nat.le_trans hz3 D.size) ?_
          intro v7 W7 hown hg
          obtain ⟨Ao7, co7, col7, rfl, ⟨k1, kf⟩, b7, S7⟩ := HPP.out v7 W7 hown hg
          have x7 := (HX5.out _ D).grown hg (HN5.out)
          clear hown hg rA hrow' HPP
          refine hK.out _ _ ⟨x7.reads.1, x7.reads.2.1, x7.reads.2.2.1⟩ (fun hHeld => ?_)
          clear hK K
          try simp only [Act.put, List.getElem_toArray, List.getElem_cons_succ, List.getElem_cons_zero, List.setIfInBounds_toArray, List.set_cons_zero, List.set_cons_succ]
          refine wpAnyH_take (i := 14) (oi := _) (v := ?_) rfl (by kernel_rfl) (by kernel_rfl) (by kernel_rfl) (fun _ _ _ h => h) (Or.inl ⟨by rfl, ?_⟩) hHeld ?_
          rotate_left
          · (intro w' hSw; (try dsimp only at hSw); go_simp <;> with_reducible rfl)
          try simp only [Act.put, List.getElem_toArray, List.getElem_cons_succ, List.getElem_cons_zero, List.setIfInBounds_toArray, List.set_cons_zero, List.set_cons_succ]
          refine wpAnyH_ready (rs := [15]) (by kernel_rfl) (by simp) (AllReadyH.cons (o := _) rfl (fun K hK => ?_) AllReadyH.nil)
          try simp only [Act.put, List.getElem_toArray, List.getElem_cons_succ, List.getElem_cons_zero, List.setIfInBounds_toArray, List.set_cons_zero, List.set_cons_succ]
          go_simp
          have x8 := x7.far (p := ⟨g, 0, none⟩) HG5.out (.slice Ao7 (out.length + 1) co7)
          refine hK.out _ _ ⟨x8.reads.1, x8.reads.2.1, x8.reads.2.2.1⟩ (fun hHeld => ?_)
          clear hK K
          try simp only [Act.put, List.getElem_toArray, List.getElem_cons_succ, List.getElem_cons_zero, List.setIfInBounds_toArray, List.set_cons_zero, List.set_cons_succ]
          refine wpAnyH_done (by kernel_rfl) ?_ _
          clear hHeld k1 kf x7 x8 b7 D
          go_wp2
          go_roundw
          case rel => exact ⟨k + 1, col7, Ao7, co7, hlt, by go_num, by rw [hT.out]; simpa using S7⟩
          case measure => simp [intOf]; omega
        · skip
          try simp only [Act.put, List.getElem_toArray, List.getElem_cons_succ, List.getElem_cons_zero, List.setIfInBounds_toArray, List.set_cons_zero, List.set_cons_succ]
          have al := (Below.refl W.heap.size W).alloc (Nat.le_refl _) (.cells #[] 3)
          have na : (W.alloc (.cells #[] 3)).ownsRow w3.heap.size 3 1 (.slice (some ⟨W.heap.size, 0, none⟩) 0 0) 0 [] := nil_own D.size _ _
          try replace op := op.below al
          replace D := D.trans (al.mono D.size)
          go_simp
          obtain ⟨gA, hgA⟩ : ∃ x, W.heap.size = x := ⟨_, rfl⟩
          obtain ⟨W, hW⟩ : ∃ x, W.alloc (.cells #[] 3) = x := ⟨_, rfl⟩
          rw [hW, hgA] at na ⊢
          rw [hW] at D
          try rw [hW] at op
          clear al hW hgA
          refine hK.out _ _ (HS.out _ D) (fun hHeld => ?_)
          clear hK K
          try simp only [Act.put, List.getElem_toArray, List.getElem_cons_succ, List.getElem_cons_zero, List.setIfInBounds_toArray, List.set_cons_zero, List.set_cons_succ]
          refine wpAnyH_ready (rs := [4]) (by kernel_rfl) (by simp) (AllReadyH.cons (o := _) rfl (fun K hK => ?_) AllReadyH.nil)
          try simp only [Act.put, List.getElem_toArray, List.getElem_cons_succ, List.getElem_cons_zero, List.setIfInBounds_toArray, List.set_cons_zero, List.set_cons_succ]
          go_simp
          go_at_call 97
          refine (HC.out _ D).mono ?_
          rintro e W ⟨vp, rfl, op', d5⟩
          have op := op'.base D.size
          obtain ⟨Ap, cp, rfl, -, -⟩ := op.form
          try replace na := own_below na d5 (Nat.le_refl _)
          try replace nv := OwnI.below nv d5 (Nat.le_refl _)
          replace D := D.trans (d5.mono D.size)
          clear op' d5
          refine hK.out _ _ (HS.out _ D) (fun hHeld => ?_)
          clear hK K
          try simp only [Act.put, List.getElem_toArray, List.getElem_cons_succ, List.getElem_cons_zero, List.setIfInBounds_toArray, List.set_cons_zero, List.set_cons_succ]
          refine wpAnyH_ready (rs := [8]) (by kernel_rfl) (by simp) (AllReadyH.cons (o := _) rfl (fun K hK => ?_) AllReadyH.nil)
          try simp only [Act.put, List.getElem_toArray, List.getElem_cons_succ, List.getElem_cons_zero, List.setIfInBounds_toArray, List.set_cons_zero, List.set_cons_succ]
          rw [if_pos (by rfl)]
          refine op_append_row2 _ (by rfl) _ _ 24 (by rfl) w3.heap.size 3 i1 (.int .i64 0) 1 8 Tryz.underlying24 hj hy0 hy1 hy2 rfl (by decide) (.slice (some ⟨gA, 0, none⟩) 0 0) 0 [] (by rfl) na w3.heap.size A9 t.vs.length c9 (ints t.vs) (by rfl) (HV.out _ D) (by rw [ints_length]; omega) (ints_cells _) (by unfold maxLen; omega) (by omega) D.size ?_
          intro v9 W hown hg
          rw [Nat.zero_add, List.nil_append] at hown
          replace D := D.grown hg D.size (fun j hj => (World.ownsRow.lt na j hj).1)
          try replace op := op.keptI hg (row_typed na)
          have nv : OwnI W w3.heap.size v9 t.vs := hown
          obtain ⟨Av, cv, rfl, -, -⟩ := nv.form
          clear hown hg na
          refine hK.out _ _ (HS.out _ D) (fun hHeld => ?_)
          clear hK K
          try simp only [Act.put, List.getElem_toArray, List.getElem_cons_succ, List.getElem_cons_zero, List.setIfInBounds_toArray, List.set_cons_zero, List.set_cons_succ]
          refine wpAnyH_take (i := 11) (oi := _) (v := ?_) rfl (by kernel_rfl) (by kernel_rfl) (by kernel_rfl) (fun _ _ _ h => h) (Or.inl ⟨by rfl, ?_⟩) hHeld ?_
          rotate_left
          · (intro w' hSw; (try dsimp only at hSw); go_simp <;> with_reducible rfl)
          try simp only [Act.put, List.getElem_toArray, List.getElem_cons_succ, List.getElem_cons_zero, List.setIfInBounds_toArray, List.set_cons_zero, List.set_cons_succ]
          refine wpAnyH_ready (rs := [12]) (by kernel_rfl) (by simp) (AllReadyH.cons (o := _) rfl (fun K hK => ?_) AllReadyH.nil)
          try simp only [Act.put, List.getElem_toArray, List.getElem_cons_succ, List.getElem_cons_zero, List.setIfInBounds_toArray, List.set_cons_zero, List.set_cons_succ]
          obtain ⟨ys, hrow, HP⟩ := HS3.out.put D (t := t) ⟨op, nv, fun _ _ => rfl⟩
          have HPP := hid HP
          have rA := row_three_ W (.slice Ap t.ps.length cp) (.slice Av t.vs.length cv) (.int .i64 t.d) 33
          have hrow' := World.ownsRow.alloc hrow (.cells #[.slice Ap t.ps.length cp, .slice Av t.vs.length cv, .int .i64 t.d] 33)
          replace D := D.trans (((Below.refl W.heap.size W).alloc (Nat.le_refl _) (.cells #[.slice Ap t.ps.length cp, .slice Av t.vs.length cv, .int .i64 t.d] 33)).mono D.size)
          clear HP hrow op nv
          go_simp
          refine hK.out _ _ (HS.out _ D) (fun hHeld => ?_)
          clear hK K
          try simp only [Act.put, List.getElem_toArray, List.getElem_cons_succ, List.getElem_cons_zero, List.setIfInBounds_toArray, List.set_cons_zero, List.set_cons_succ]
          refine wpAnyH_ready (rs := [13]) (by kernel_rfl) (by simp) (AllReadyH.cons (o := _) rfl (fun K hK => ?_) AllReadyH.nil)
          try simp only [Act.put, List.getElem_toArray, List.getElem_cons_succ, List.getElem_cons_zero, List.setIfInBounds_toArray, List.set_cons_zero, List.set_cons_succ]
          rw [if_pos (by rfl)]
          refine op_append_row2 _ (by rfl) _ _ 23 (by rfl) w.heap.size 33 i0 (.agg #[.slice none 0 0, .slice none 0 0, .int .i64 0]) 3 56 Tryz.underlying23 hi hz0 hz1 hz2 rfl (by decide) (.slice Ao out.length co) out.length ys (by rfl) hrow' _ (some ⟨W.heap.size, 0, none⟩) 1 1 [.slice Ap t.ps.length cp, .slice Av t.vs.length cv, .int .i64 t.d] (by rfl) rA rfl (tx_cells _ _ _ _ _ _ _) (by unfold maxLen; omega) (by omega) (Nat.le_trans hz3 D.size) ?_
          intro v7 W7 hown hg
          obtain ⟨Ao7, co7, col7, rfl, ⟨k1, kf⟩, b7, S7⟩ := HPP.out v7 W7 hown hg
          have x7 := (HX5.out _ D).grown hg (HN5.out)
          clear hown hg rA hrow' HPP
          refine hK.out _ _ ⟨x7.reads.1, x7.reads.2.1, x7.reads.2.2.1⟩ (fun hHeld => ?_)
          clear hK K
          try simp only [Act.put, List.getElem_toArray, List.getElem_cons_succ, List.getElem_cons_zero, List.setIfInBounds_toArray, List.set_cons_zero, List.set_cons_succ]
          refine wpAnyH_take (i := 14) (oi := _) (v := ?_) rfl (by kernel_rfl) (by kernel_rfl) (by kernel_rfl) (fun _ _ _ h => h) (Or.inl ⟨by rfl, ?_⟩) hHeld ?_
          rotate_left
          · (intro w' hSw; (try dsimp only at hSw); go_simp <;> with_reducible rfl)
          try simp only [Act.put, List.getElem_toArray, List.getElem_cons_succ, List.getElem_cons_zero, List.setIfInBounds_toArray, List.set_cons_zero, List.set_cons_succ]
          refine wpAnyH_ready (rs := [15]) (by kernel_rfl) (by simp) (AllReadyH.cons (o := _) rfl (fun K hK => ?_) AllReadyH.nil)
          try simp only [Act.put, List.getElem_toArray, List.getElem_cons_succ, List.getElem_cons_zero, List.setIfInBounds_toArray, List.set_cons_zero, List.set_cons_succ]
          go_simp
          have x8 := x7.far (p := ⟨g, 0, none⟩) HG5.out (.slice Ao7 (out.length + 1) co7)
          refine hK.out _ _ ⟨x8.reads.1, x8.reads.2.1, x8.reads.2.2.1⟩ (fun hHeld => ?_)
          clear hK K
          try simp only [Act.put, List.getElem_toArray, List.getElem_cons_succ, List.getElem_cons_zero, List.setIfInBounds_toArray, List.set_cons_zero, List.set_cons_succ]
          refine wpAnyH_done (by kernel_rfl) ?_ _
          clear hHeld k1 kf x7 x8 b7 D
          go_wp2
          go_roundw
          case rel => exact ⟨k + 1, col7, Ao7, co7, hlt, by go_num, by rw [hT.out]; simpa using S7⟩
          case measure => simp [intOf]; omega
      · skip
        try simp only [Act.put, List.getElem_toArray, List.getElem_cons_succ, List.getElem_cons_zero, List.setIfInBounds_toArray, List.set_cons_zero, List.set_cons_succ]
        go_simp
        go_at_call 97
        refine (HC.out _ D).mono ?_
        rintro e W ⟨vp, rfl, op', d5⟩
        have op := op'.base D.size
        obtain ⟨Ap, cp, rfl, -, -⟩ := op.form
        try replace na := own_below na d5 (Nat.le_refl _)
        try replace nv := OwnI.below nv d5 (Nat.le_refl _)
        replace D := D.trans (d5.mono D.size)
        clear op' d5
        refine hK.out _ _ (HS.out _ D) (fun hHeld => ?_)
        clear hK K
        try simp only [Act.put, List.getElem_toArray, List.getElem_cons_succ, List.getElem_cons_zero, List.setIfInBounds_toArray, List.set_cons_zero, List.set_cons_succ]
        refine wpAnyH_ready (rs := [1, 5]) (by kernel_rfl) (by simp) (AllReadyH.cons (o := _) rfl (fun K hK => ?_) (AllReadyH.cons (o := _) rfl (fun K hK => ?_) AllReadyH.nil))
        · skip
          try simp only [Act.put, List.getElem_toArray, List.getElem_cons_succ, List.getElem_cons_zero, List.setIfInBounds_toArray, List.set_cons_zero, List.set_cons_succ]
          have yL := (HS3.out.later D).2.2.1.reads.1
          go_simp
          refine hK.out _ _ (HS.out _ D) (fun hHeld => ?_)
          clear hK K
          try simp only [Act.put, List.getElem_toArray, List.getElem_cons_succ, List.getElem_cons_zero, List.setIfInBounds_toArray, List.set_cons_zero, List.set_cons_succ]
          clear yL
          refine wpAnyH_ready (rs := [5]) (by kernel_rfl) (by simp) (AllReadyH.cons (o := _) rfl (fun K hK => ?_) AllReadyH.nil)
          try simp only [Act.put, List.getElem_toArray, List.getElem_cons_succ, List.getElem_cons_zero, List.setIfInBounds_toArray, List.set_cons_zero, List.set_cons_succ]
          have al := (Below.refl W.heap.size W).alloc (Nat.le_refl _) (.cells #[] 3)
          have na : (W.alloc (.cells #[] 3)).ownsRow w3.heap.size 3 1 (.slice (some ⟨W.heap.size, 0, none⟩) 0 0) 0 [] := nil_own D.size _ _
          try replace op := op.below al
          replace D := D.trans (al.mono D.size)
          go_simp
          obtain ⟨gA, hgA⟩ : ∃ x, W.heap.size = x := ⟨_, rfl⟩
          obtain ⟨W, hW⟩ : ∃ x, W.alloc (.cells #[] 3) = x := ⟨_, rfl⟩
          rw [hW, hgA] at na ⊢
          rw [hW] at D
          try rw [hW] at op
          clear al hW hgA
          refine hK.out _ _ (HS.out _ D) (fun hHeld => ?_)
          clear hK K
          try simp only [Act.put, List.getElem_toArray, List.getElem_cons_succ, List.getElem_cons_zero, List.setIfInBounds_toArray, List.set_cons_zero, List.set_cons_succ]
          refine wpAnyH_ready (rs := [8]) (by kernel_rfl) (by simp) (AllReadyH.cons (o := _) rfl (fun K hK => ?_) AllReadyH.nil)
          try simp only [Act.put, List.getElem_toArray, List.getElem_cons_succ, List.getElem_cons_zero, List.setIfInBounds_toArray, List.set_cons_zero, List.set_cons_succ]
          rw [if_pos (by rfl)]
          refine op_append_row2 _ (by rfl) _ _ 24 (by rfl) w3.heap.size 3 i1 (.int .i64 0) 1 8 Tryz.underlying24 hj hy0 hy1 hy2 rfl (by decide) (.slice (some ⟨gA, 0, none⟩) 0 0) 0 [] (by rfl) na w3.heap.size A9 t.vs.length c9 (ints t.vs) (by rfl) (HV.out _ D) (by rw [ints_length]; omega) (ints_cells _) (by unfold maxLen; omega) (by omega) D.size ?_
          intro v9 W hown hg
          rw [Nat.zero_add, List.nil_append] at hown
          replace D := D.grown hg D.size (fun j hj => (World.ownsRow.lt na j hj).1)
          try replace op := op.keptI hg (row_typed na)
          have nv : OwnI W w3.heap.size v9 t.vs := hown
          obtain ⟨Av, cv, rfl, -, -⟩ := nv.form
          clear hown hg na
          refine hK.out _ _ (HS.out _ D) (fun hHeld => ?_)
          clear hK K
          try simp only [Act.put, List.getElem_toArray, List.getElem_cons_succ, List.getElem_cons_zero, List.setIfInBounds_toArray, List.set_cons_zero, List.set_cons_succ]
          refine wpAnyH_take (i := 11) (oi := _) (v := ?_) rfl (by kernel_rfl) (by kernel_rfl) (by kernel_rfl) (fun _ _ _ h => h) (Or.inl ⟨by rfl, ?_⟩) hHeld ?_
          rotate_left
          · (intro w' hSw; (try dsimp only at hSw); go_simp <;> with_reducible rfl)
          try simp only [Act.put, List.getElem_toArray, List.getElem_cons_succ, List.getElem_cons_zero, List.setIfInBounds_toArray, List.set_cons_zero, List.set_cons_succ]
          refine wpAnyH_ready (rs := [12]) (by kernel_rfl) (by simp) (AllReadyH.cons (o := _) rfl (fun K hK => ?_) AllReadyH.nil)
          try simp only [Act.put, List.getElem_toArray, List.getElem_cons_succ, List.getElem_cons_zero, List.setIfInBounds_toArray, List.set_cons_zero, List.set_cons_succ]
          obtain ⟨ys, hrow, HP⟩ := HS3.out.put D (t := t) ⟨op, nv, fun _ _ => rfl⟩
          have HPP := hid HP
          have rA := row_three_ W (.slice Ap t.ps.length cp) (.slice Av t.vs.length cv) (.int .i64 t.d) 33
          have hrow' := World.ownsRow.alloc hrow (.cells #[.slice Ap t.ps.length cp, .slice Av t.vs.length cv, .int .i64 t.d] 33)
          replace D := D.trans (((Below.refl W.heap.size W).alloc (Nat.le_refl _) (.cells #[.slice Ap t.ps.length cp, .slice Av t.vs.length cv, .int .i64 t.d] 33)).mono D.size)
          clear HP hrow op nv
          go_simp
          refine hK.out _ _ (HS.out _ D) (fun hHeld => ?_)
          clear hK K
          try simp only [Act.put, List.getElem_toArray, List.getElem_cons_succ, List.getElem_cons_zero, List.setIfInBounds_toArray, List.set_cons_zero, List.set_cons_succ]
          refine wpAnyH_ready (rs := [13]) (by kernel_rfl) (by simp) (AllReadyH.cons (o := _) rfl (fun K hK => ?_) AllReadyH.nil)
          try simp only [Act.put, List.getElem_toArray, List.getElem_cons_succ, List.getElem_cons_zero, List.setIfInBounds_toArray, List.set_cons_zero, List.set_cons_succ]
          rw [if_pos (by rfl)]
          refine op_append_row2 _ (by rfl) _ _ 23 (by rfl) w.heap.size 33 i0 (.agg #[.slice none 0 0, .slice none 0 0, .int .i64 0]) 3 56 Tryz.underlying23 hi hz0 hz1 hz2 rfl (by decide) (.slice Ao out.length co) out.length ys (by rfl) hrow' _ (some ⟨W.heap.size, 0, none⟩) 1 1 [.slice Ap t.ps.length cp, .slice Av t.vs.length cv, .int .i64 t.d] (by rfl) rA rfl (tx_cells _ _ _ _ _ _ _) (by unfold maxLen; omega) (by omega) (Nat.le_trans hz3 D.size) ?_
          intro v7 W7 hown hg
          obtain ⟨Ao7, co7, col7, rfl, ⟨k1, kf⟩, b7, S7⟩ := HPP.out v7 W7 hown hg
          have x7 := (HX5.out _ D).grown hg (HN5.out)
          clear hown hg rA hrow' HPP
          refine hK.out _ _ ⟨x7.reads.1, x7.reads.2.1, x7.reads.2.2.1⟩ (fun hHeld => ?_)
          clear hK K
          try simp only [Act.put, List.getElem_toArray, List.getElem_cons_succ, List.getElem_cons_zero, List.setIfInBounds_toArray, List.set_cons_zero, List.set_cons_succ]
          refine wpAnyH_take (i := 14) (oi := _) (v := ?_) rfl (by kernel_rfl) (by kernel_rfl) (by kernel_rfl) (fun _ _ _ h => h) (Or.inl ⟨by rfl, ?_⟩) hHeld ?_
          rotate_left
          · (intro w' hSw; (try dsimp only at hSw); go_simp <;> with_reducible rfl)
          try simp only [Act.put, List.getElem_toArray, List.getElem_cons_succ, List.getElem_cons_zero, List.setIfInBounds_toArray, List.set_cons_zero, List.set_cons_succ]
          refine wpAnyH_ready (rs := [15]) (by kernel_rfl) (by simp) (AllReadyH.cons (o := _) rfl (fun K hK => ?_) AllReadyH.nil)
          try simp only [Act.put, List.getElem_toArray, List.getElem_cons_succ, List.getElem_cons_zero, List.setIfInBounds_toArray, List.set_cons_zero, List.set_cons_succ]
          go_simp
          have x8 := x7.far (p := ⟨g, 0, none⟩) HG5.out (.slice Ao7 (out.length + 1) co7)
          refine hK.out _ _ ⟨x8.reads.1, x8.reads.2.1, x8.reads.2.2.1⟩ (fun hHeld => ?_)
          clear hK K
          try simp only [Act.put, List.getElem_toArray, List.getElem_cons_succ, List.getElem_cons_zero, List.setIfInBounds_toArray, List.set_cons_zero, List.set_cons_succ]
          refine wpAnyH_done (by kernel_rfl) ?_ _
          clear hHeld k1 kf x7 x8 b7 D
          go_wp2
          go_roundw
          case rel => exact ⟨k + 1, col7, Ao7, co7, hlt, by go_num, by rw [hT.out]; simpa using S7⟩
          case measure => simp [intOf]; omega
        · skip
          try simp only [Act.put, List.getElem_toArray, List.getElem_cons_succ, List.getElem_cons_zero, List.setIfInBounds_toArray, List.set_cons_zero, List.set_cons_succ]
          have al := (Below.refl W.heap.size W).alloc (Nat.le_refl _) (.cells #[] 3)
          have na : (W.alloc (.cells #[] 3)).ownsRow w3.heap.size 3 1 (.slice (some ⟨W.heap.size, 0, none⟩) 0 0) 0 [] := nil_own D.size _ _
          try replace op := op.below al
          replace D := D.trans (al.mono D.size)
          go_simp
          obtain ⟨gA, hgA⟩ : ∃ x, W.heap.size = x := ⟨_, rfl⟩
          obtain ⟨W, hW⟩ : ∃ x, W.alloc (.cells #[] 3) = x := ⟨_, rfl⟩
          rw [hW, hgA] at na ⊢
          rw [hW] at D
          try rw [hW] at op
          clear al hW hgA
          refine hK.out _ _ (HS.out _ D) (fun hHeld => ?_)
          clear hK K
          try simp only [Act.put, List.getElem_toArray, List.getElem_cons_succ, List.getElem_cons_zero, List.setIfInBounds_toArray, List.set_cons_zero, List.set_cons_succ]
          refine wpAnyH_ready (rs := [1, 8]) (by kernel_rfl) (by simp) (AllReadyH.cons (o := _) rfl (fun K hK => ?_) (AllReadyH.cons (o := _) rfl (fun K hK => ?_) AllReadyH.nil))
          · skip
            try simp only [Act.put, List.getElem_toArray, List.getElem_cons_succ, List.getElem_cons_zero, List.setIfInBounds_toArray, List.set_cons_zero, List.set_cons_succ]
            have yL := (HS3.out.later D).2.2.1.reads.1
            go_simp
            refine hK.out _ _ (HS.out _ D) (fun hHeld => ?_)
            clear hK K
            try simp only [Act.put, List.getElem_toArray, List.getElem_cons_succ, List.getElem_cons_zero, List.setIfInBounds_toArray, List.set_cons_zero, List.set_cons_succ]
            clear yL
            refine wpAnyH_ready (rs := [8]) (by kernel_rfl) (by simp) (AllReadyH.cons (o := _) rfl (fun K hK => ?_) AllReadyH.nil)
            try simp only [Act.put, List.getElem_toArray, List.getElem_cons_succ, List.getElem_cons_zero, List.setIfInBounds_toArray, List.set_cons_zero, List.set_cons_succ]
            rw [if_pos (by rfl)]
            refine op_append_row2 _ (by rfl) _ _ 24 (by rfl) w3.heap.size 3 i1 (.int .i64 0) 1 8 Tryz.underlying24 hj hy0 hy1 hy2 rfl (by decide) (.slice (some ⟨gA, 0, none⟩) 0 0) 0 [] (by rfl) na w3.heap.size A9 t.vs.length c9 (ints t.vs) (by rfl) (HV.out _ D) (by rw [ints_length]; omega) (ints_cells _) (by unfold maxLen; omega) (by omega) D.size ?_
            intro v9 W hown hg
            rw [Nat.zero_add, List.nil_append] at hown
            replace D := D.grown hg D.size (fun j hj => (World.ownsRow.lt na j hj).1)
            try replace op := op.keptI hg (row_typed na)
            have nv : OwnI W w3.heap.size v9 t.vs := hown
            obtain ⟨Av, cv, rfl, -, -⟩ := nv.form
            clear hown hg na
            refine hK.out _ _ (HS.out _ D) (fun hHeld => ?_)
            clear hK K
            try simp only [Act.put, List.getElem_toArray, List.getElem_cons_succ, List.getElem_cons_zero, List.setIfInBounds_toArray, List.set_cons_zero, List.set_cons_succ]
            refine wpAnyH_take (i := 11) (oi := _) (v := ?_) rfl (by kernel_rfl) (by kernel_rfl) (by kernel_rfl) (fun _ _ _ h => h) (Or.inl ⟨by rfl, ?_⟩) hHeld ?_
            rotate_left
            · (intro w' hSw; (try dsimp only at hSw); go_simp <;> with_reducible rfl)
            try simp only [Act.put, List.getElem_toArray, List.getElem_cons_succ, List.getElem_cons_zero, List.setIfInBounds_toArray, List.set_cons_zero, List.set_cons_succ]
            refine wpAnyH_ready (rs := [12]) (by kernel_rfl) (by simp) (AllReadyH.cons (o := _) rfl (fun K hK => ?_) AllReadyH.nil)
            try simp only [Act.put, List.getElem_toArray, List.getElem_cons_succ, List.getElem_cons_zero, List.setIfInBounds_toArray, List.set_cons_zero, List.set_cons_succ]
            obtain ⟨ys, hrow, HP⟩ := HS3.out.put D (t := t) ⟨op, nv, fun _ _ => rfl⟩
            have HPP := hid HP
            have rA := row_three_ W (.slice Ap t.ps.length cp) (.slice Av t.vs.length cv) (.int .i64 t.d) 33
            have hrow' := World.ownsRow.alloc hrow (.cells #[.slice Ap t.ps.length cp, .slice Av t.vs.length cv, .int .i64 t.d] 33)
            replace D := D.trans (((Below.refl W.heap.size W).alloc (Nat.le_refl _) (.cells #[.slice Ap t.ps.length cp, .slice Av t.vs.length cv, .int .i64 t.d] 33)).mono D.size)
            clear HP hrow op nv
            go_simp
            refine hK.out _ _ (HS.out _ D) (fun hHeld => ?_)
            clear hK K
            try simp only [Act.put, List.getElem_toArray, List.getElem_cons_succ, List.getElem_cons_zero, List.setIfInBounds_toArray, List.set_cons_zero, List.set_cons_succ]
            refine wpAnyH_ready (rs := [13]) (by kernel_rfl) (by simp) (AllReadyH.cons (o := _) rfl (fun K hK => ?_) AllReadyH.nil)
            try simp only [Act.put, List.getElem_toArray, List.getElem_cons_succ, List.getElem_cons_zero, List.setIfInBounds_toArray, List.set_cons_zero, List.set_cons_succ]
            rw [if_pos (by rfl)]
            refine op_append_row2 _ (by rfl) _ _ 23 (by rfl) w.heap.size 33 i0 (.agg #[.slice none 0 0, .slice none 0 0, .int .i64 0]) 3 56 Tryz.underlying23 hi hz0 hz1 hz2 rfl (by decide) (.slice Ao out.length co) out.length ys (by rfl) hrow' _ (some ⟨W.heap.size, 0, none⟩) 1 1 [.slice Ap t.ps.length cp, .slice Av t.vs.length cv, .int .i64 t.d] (by rfl) rA rfl (tx_cells _ _ _ _ _ _ _) (by unfold maxLen; omega) (by omega) (Nat.le_trans hz3 D.size) ?_
            intro v7 W7 hown hg
            obtain ⟨Ao7, co7, col7, rfl, ⟨k1, kf⟩, b7, S7⟩ := HPP.out v7 W7 hown hg
            have x7 := (HX5.out _ D).grown hg (HN5.out)
            clear hown hg rA hrow' HPP
            refine hK.out _ _ ⟨x7.reads.1, x7.reads.2.1, x7.reads.2.2.1⟩ (fun hHeld => ?_)
            clear hK K
            try simp only [Act.put, List.getElem_toArray, List.getElem_cons_succ, List.getElem_cons_zero, List.setIfInBounds_toArray, List.set_cons_zero, List.set_cons_succ]
            refine wpAnyH_take (i := 14) (oi := _) (v := ?_) rfl (by kernel_rfl) (by kernel_rfl) (by kernel_rfl) (fun _ _ _ h => h) (Or.inl ⟨by rfl, ?_⟩) hHeld ?_
            rotate_left
            · (intro w' hSw; (try dsimp only at hSw); go_simp <;> with_reducible rfl)
            try simp only [Act.put, List.getElem_toArray, List.getElem_cons_succ, List.getElem_cons_zero, List.setIfInBounds_toArray, List.set_cons_zero, List.set_cons_succ]
            refine wpAnyH_ready (rs := [15]) (by kernel_rfl) (by simp) (AllReadyH.cons (o := _) rfl (fun K hK => ?_) AllReadyH.nil)
            try simp only [Act.put, List.getElem_toArray, List.getElem_cons_succ, List.getElem_cons_zero, List.setIfInBounds_toArray, List.set_cons_zero, List.set_cons_succ]
            go_simp
            have x8 := x7.far (p := ⟨g, 0, none⟩) HG5.out (.slice Ao7 (out.length + 1) co7)
            refine hK.out _ _ ⟨x8.reads.1, x8.reads.2.1, x8.reads.2.2.1⟩ (fun hHeld => ?_)
            clear hK K
            try simp only [Act.put, List.getElem_toArray, List.getElem_cons_succ, List.getElem_cons_zero, List.setIfInBounds_toArray, List.set_cons_zero, List.set_cons_succ]
            refine wpAnyH_done (by kernel_rfl) ?_ _
            clear hHeld k1 kf x7 x8 b7 D
            go_wp2
            go_roundw
            case rel => exact ⟨k + 1, col7, Ao7, co7, hlt, by go_num, by rw [hT.out]; simpa using S7⟩
            case measure => simp [intOf]; omega
          · skip
            try simp only [Act.put, List.getElem_toArray, List.getElem_cons_succ, List.getElem_cons_zero, List.setIfInBounds_toArray, List.set_cons_zero, List.set_cons_succ]
            rw [if_pos (by rfl)]
            refine op_append_row2 _ (by rfl) _ _ 24 (by rfl) w3.heap.size 3 i1 (.int .i64 0) 1 8 Tryz.underlying24 hj hy0 hy1 hy2 rfl (by decide) (.slice (some ⟨gA, 0, none⟩) 0 0) 0 [] (by rfl) na w3.heap.size A9 t.vs.length c9 (ints t.vs) (by rfl) (HV.out _ D) (by rw [ints_length]; omega) (ints_cells _) (by unfold maxLen; omega) (by omega) D.size ?_
            intro v9 W hown hg
            rw [Nat.zero_add, List.nil_append] at hown
            replace D := D.grown hg D.size (fun j hj => (World.ownsRow.lt na j hj).1)
            try replace op := op.keptI hg (row_typed na)
            have nv : OwnI W w3.heap.size v9 t.vs := hown
            obtain ⟨Av, cv, rfl, -, -⟩ := nv.form
            clear hown hg na
            refine hK.out _ _ (HS.out _ D) (fun hHeld => ?_)
            clear hK K
            try simp only [Act.put, List.getElem_toArray, List.getElem_cons_succ, List.getElem_cons_zero, List.setIfInBounds_toArray, List.set_cons_zero, List.set_cons_succ]
            refine wpAnyH_take (i := 11) (oi := _) (v := ?_) rfl (by kernel_rfl) (by kernel_rfl) (by kernel_rfl) (fun _ _ _ h => h) (Or.inl ⟨by rfl, ?_⟩) hHeld ?_
            rotate_left
            · (intro w' hSw; (try dsimp only at hSw); go_simp <;> with_reducible rfl)
            try simp only [Act.put, List.getElem_toArray, List.getElem_cons_succ, List.getElem_cons_zero, List.setIfInBounds_toArray, List.set_cons_zero, List.set_cons_succ]
            refine wpAnyH_ready (rs := [1, 12]) (by kernel_rfl) (by simp) (AllReadyH.cons (o := _) rfl (fun K hK => ?_) (AllReadyH.cons (o := _) rfl (fun K hK => ?_) AllReadyH.nil))
            · skip
              try simp only [Act.put, List.getElem_toArray, List.getElem_cons_succ, List.getElem_cons_zero, List.setIfInBounds_toArray, List.set_cons_zero, List.set_cons_succ]
              have yL := (HS3.out.later D).2.2.1.reads.1
              go_simp
              refine hK.out _ _ (HS.out _ D) (fun hHeld => ?_)
              clear hK K
              try simp only [Act.put, List.getElem_toArray, List.getElem_cons_succ, List.getElem_cons_zero, List.setIfInBounds_toArray, List.set_cons_zero, List.set_cons_succ]
              clear yL
              refine wpAnyH_ready (rs := [12]) (by kernel_rfl) (by simp) (AllReadyH.cons (o := _) rfl (fun K hK => ?_) AllReadyH.nil)
              try simp only [Act.put, List.getElem_toArray, List.getElem_cons_succ, List.getElem_cons_zero, List.setIfInBounds_toArray, List.set_cons_zero, List.set_cons_succ]
              obtain ⟨ys, hrow, HP⟩ := HS3.out.put D (t := t) ⟨op, nv, fun _ _ => rfl⟩
              have HPP := hid HP
              have rA := row_three_ W (.slice Ap t.ps.length cp) (.slice Av t.vs.length cv) (.int .i64 t.d) 33
              have hrow' := World.ownsRow.alloc hrow (.cells #[.slice Ap t.ps.length cp, .slice Av t.vs.length cv, .int .i64 t.d] 33)
              replace D := D.trans (((Below.refl W.heap.size W).alloc (Nat.le_refl _) (.cells #[.slice Ap t.ps.length cp, .slice Av t.vs.length cv, .int .i64 t.d] 33)).mono D.size)
              clear HP hrow op nv
              go_simp
              refine hK.out _ _ (HS.out _ D) (fun hHeld => ?_)
              clear hK K
              try simp only [Act.put, List.getElem_toArray, List.getElem_cons_succ, List.getElem_cons_zero, List.setIfInBounds_toArray, List.set_cons_zero, List.set_cons_succ]
              refine wpAnyH_ready (rs := [13]) (by kernel_rfl) (by simp) (AllReadyH.cons (o := _) rfl (fun K hK => ?_) AllReadyH.nil)
              try simp only [Act.put, List.getElem_toArray, List.getElem_cons_succ, List.getElem_cons_zero, List.setIfInBounds_toArray, List.set_cons_zero, List.set_cons_succ]
              rw [if_pos (by rfl)]
              refine op_append_row2 _ (by rfl) _ _ 23 (by rfl) w.heap.size 33 i0 (.agg #[.slice none 0 0, .slice none 0 0, .int .i64 0]) 3 56 Tryz.underlying23 hi hz0 hz1 hz2 rfl (by decide) (.slice Ao out.length co) out.length ys (by rfl) hrow' _ (some ⟨W.heap.size, 0, none⟩) 1 1 [.slice Ap t.ps.length cp, .slice Av t.vs.length cv, .int .i64 t.d] (by rfl) rA rfl (tx_cells _ _ _ _ _ _ _) (by unfold maxLen; omega) (by omega) (Nat.le_trans hz3 D.size) ?_
              intro v7 W7 hown hg
              obtain ⟨Ao7, co7, col7, rfl, ⟨k1, kf⟩, b7, S7⟩ := HPP.out v7 W7 hown hg
              have x7 := (HX5.out _ D).grown hg (HN5.out)
              clear hown hg rA hrow' HPP
              refine hK.out _ _ ⟨x7.reads.1, x7.reads.2.1, x7.reads.2.2.1⟩ (fun hHeld => ?_)
              clear hK K
              try simp only [Act.put, List.getElem_toArray, List.getElem_cons_succ, List.getElem_cons_zero, List.setIfInBounds_toArray, List.set_cons_zero, List.set_cons_succ]
              refine wpAnyH_take (i := 14) (oi := _) (v := ?_) rfl (by kernel_rfl) (by kernel_rfl) (by kernel_rfl) (fun _ _ _ h => h) (Or.inl ⟨by rfl, ?_⟩) hHeld ?_
              rotate_left
              · (intro w' hSw; (try dsimp only at hSw); go_simp <;> with_reducible rfl)
              try simp only [Act.put, List.getElem_toArray, List.getElem_cons_succ, List.getElem_cons_zero, List.setIfInBounds_toArray, List.set_cons_zero, List.set_cons_succ]
              refine wpAnyH_ready (rs := [15]) (by kernel_rfl) (by simp) (AllReadyH.cons (o := _) rfl (fun K hK => ?_) AllReadyH.nil)
              try simp only [Act.put, List.getElem_toArray, List.getElem_cons_succ, List.getElem_cons_zero, List.setIfInBounds_toArray, List.set_cons_zero, List.set_cons_succ]
              go_simp
              have x8 := x7.far (p := ⟨g, 0, none⟩) HG5.out (.slice Ao7 (out.length + 1) co7)
              refine hK.out _ _ ⟨x8.reads.1, x8.reads.2.1, x8.reads.2.2.1⟩ (fun hHeld => ?_)
              clear hK K
              try simp only [Act.put, List.getElem_toArray, List.getElem_cons_succ, List.getElem_cons_zero, List.setIfInBounds_toArray, List.set_cons_zero, List.set_cons_succ]
              refine wpAnyH_done (by kernel_rfl) ?_ _
              clear hHeld k1 kf x7 x8 b7 D
              go_wp2
              go_roundw
              case rel => exact ⟨k + 1, col7, Ao7, co7, hlt, by go_num, by rw [hT.out]; simpa using S7⟩
              case measure => simp [intOf]; omega
            · skip
              try simp only [Act.put, List.getElem_toArray, List.getElem_cons_succ, List.getElem_cons_zero, List.setIfInBounds_toArray, List.set_cons_zero, List.set_cons_succ]
              obtain ⟨ys, hrow, HP⟩ := HS3.out.put D (t := t) ⟨op, nv, fun _ _ => rfl⟩
              have HPP := hid HP
              have rA := row_three_ W (.slice Ap t.ps.length cp) (.slice Av t.vs.length cv) (.int .i64 t.d) 33
              have hrow' := World.ownsRow.alloc hrow (.cells #[.slice Ap t.ps.length cp, .slice Av t.vs.length cv, .int .i64 t.d] 33)
              replace D := D.trans (((Below.refl W.heap.size W).alloc (Nat.le_refl _) (.cells #[.slice Ap t.ps.length cp, .slice Av t.vs.length cv, .int .i64 t.d] 33)).mono D.size)
              clear HP hrow op nv
              go_simp
              refine hK.out _ _ (HS.out _ D) (fun hHeld => ?_)
              clear hK K
              try simp only [Act.put, List.getElem_toArray, List.getElem_cons_succ, List.getElem_cons_zero, List.setIfInBounds_toArray, List.set_cons_zero, List.set_cons_succ]
              refine wpAnyH_ready (rs := [1]) (by kernel_rfl) (by simp) (AllReadyH.cons (o := _) rfl (fun K hK => ?_) AllReadyH.nil)
              try simp only [Act.put, List.getElem_toArray, List.getElem_cons_succ, List.getElem_cons_zero, List.setIfInBounds_toArray, List.set_cons_zero, List.set_cons_succ]
              have yL := (HS3.out.later D).2.2.1.reads.1
              go_simp
              refine hK.out _ _ (HS.out _ D) (fun hHeld => ?_)
              clear hK K
              try simp only [Act.put, List.getElem_toArray, List.getElem_cons_succ, List.getElem_cons_zero, List.setIfInBounds_toArray, List.set_cons_zero, List.set_cons_succ]
              clear yL
              refine wpAnyH_ready (rs := [13]) (by kernel_rfl) (by simp) (AllReadyH.cons (o := _) rfl (fun K hK => ?_) AllReadyH.nil)
              try simp only [Act.put, List.getElem_toArray, List.getElem_cons_succ, List.getElem_cons_zero, List.setIfInBounds_toArray, List.set_cons_zero, List.set_cons_succ]
              rw [if_pos (by rfl)]
              refine op_append_row2 _ (by rfl) _ _ 23 (by rfl) w.heap.size 33 i0 (.agg #[.slice none 0 0, .slice none 0 0, .int .i64 0]) 3 56 Tryz.underlying23 hi hz0 hz1 hz2 rfl (by decide) (.slice Ao out.length co) out.length ys (by rfl) hrow' _ (some ⟨W.heap.size, 0, none⟩) 1 1 [.slice Ap t.ps.length cp, .slice Av t.vs.length cv, .int .i64 t.d] (by rfl) rA rfl (tx_cells _ _ _ _ _ _ _) (by unfold maxLen; omega) (by omega) (Nat.le_trans hz3 D.size) ?_
              intro v7 W7 hown hg
              obtain ⟨Ao7, co7, col7, rfl, ⟨k1, kf⟩, b7, S7⟩ := HPP.out v7 W7 hown hg
              have x7 := (HX5.out _ D).grown hg (HN5.out)
              clear hown hg rA hrow' HPP
              refine hK.out _ _ ⟨x7.reads.1, x7.reads.2.1, x7.reads.2.2.1⟩ (fun hHeld => ?_)
              clear hK K
              try simp only [Act.put, List.getElem_toArray, List.getElem_cons_succ, List.getElem_cons_zero, List.setIfInBounds_toArray, List.set_cons_zero, List.set_cons_succ]
              refine wpAnyH_take (i := 14) (oi := _) (v := ?_) rfl (by kernel_rfl) (by kernel_rfl) (by kernel_rfl) (fun _ _ _ h => h) (Or.inl ⟨by rfl, ?_⟩) hHeld ?_
              rotate_left
              · (intro w' hSw; (try dsimp only at hSw); go_simp <;> with_reducible rfl)
              try simp only [Act.put, List.getElem_toArray, List.getElem_cons_succ, List.getElem_cons_zero, List.setIfInBounds_toArray, List.set_cons_zero, List.set_cons_succ]
              refine wpAnyH_ready (rs := [15]) (by kernel_rfl) (by simp) (AllReadyH.cons (o := _) rfl (fun K hK => ?_) AllReadyH.nil)
              try simp only [Act.put, List.getElem_toArray, List.getElem_cons_succ, List.getElem_cons_zero, List.setIfInBounds_toArray, List.set_cons_zero, List.set_cons_succ]
              go_simp
              have x8 := x7.far (p := ⟨g, 0, none⟩) HG5.out (.slice Ao7 (out.length + 1) co7)
              refine hK.out _ _ ⟨x8.reads.1, x8.reads.2.1, x8.reads.2.2.1⟩ (fun hHeld => ?_)
              clear hK K
              try simp only [Act.put, List.getElem_toArray, List.getElem_cons_succ, List.getElem_cons_zero, List.setIfInBounds_toArray, List.set_cons_zero, List.set_cons_succ]
              refine wpAnyH_done (by kernel_rfl) ?_ _
              clear hHeld k1 kf x7 x8 b7 D
              go_wp2
              go_roundw
              case rel => exact ⟨k + 1, col7, Ao7, co7, hlt, by go_num, by rw [hT.out]; simpa using S7⟩
              case measure => simp [intOf]; omega
      · skip
        try simp only [Act.put, List.getElem_toArray, List.getElem_cons_succ, List.getElem_cons_zero, List.setIfInBounds_toArray, List.set_cons_zero, List.set_cons_succ]
        have al := (Below.refl W.heap.size W).alloc (Nat.le_refl _) (.cells #[] 3)
        have na : (W.alloc (.cells #[] 3)).ownsRow w3.heap.size 3 1 (.slice (some ⟨W.heap.size, 0, none⟩) 0 0) 0 [] := nil_own D.size _ _
        try replace op := op.below al
        replace D := D.trans (al.mono D.size)
        go_simp
        obtain ⟨gA, hgA⟩ : ∃ x, W.heap.size = x := ⟨_, rfl⟩
        obtain ⟨W, hW⟩ : ∃ x, W.alloc (.cells #[] 3) = x := ⟨_, rfl⟩
        rw [hW, hgA] at na ⊢
        rw [hW] at D
        try rw [hW] at op
        clear al hW hgA
        refine hK.out _ _ (HS.out _ D) (fun hHeld => ?_)
        clear hK K
        try simp only [Act.put, List.getElem_toArray, List.getElem_cons_succ, List.getElem_cons_zero, List.setIfInBounds_toArray, List.set_cons_zero, List.set_cons_succ]
        refine wpAnyH_ready (rs := [1, 4]) (by kernel_rfl) (by simp) (AllReadyH.cons (o := _) rfl (fun K hK => ?_) (AllReadyH.cons (o := _) rfl (fun K hK => ?_) AllReadyH.nil))
        · skip
          try simp only [Act.put, List.getElem_toArray, List.getElem_cons_succ, List.getElem_cons_zero, List.setIfInBounds_toArray, List.set_cons_zero, List.set_cons_succ]
          have yL := (HS3.out.later D).2.2.1.reads.1
          go_simp
          refine hK.out _ _ (HS.out _ D) (fun hHeld => ?_)
          clear hK K
          try simp only [Act.put, List.getElem_toArray, List.getElem_cons_succ, List.getElem_cons_zero, List.setIfInBounds_toArray, List.set_cons_zero, List.set_cons_succ]
          clear yL
          refine wpAnyH_ready (rs := [4]) (by kernel_rfl) (by simp) (AllReadyH.cons (o := _) rfl (fun K hK => ?_) AllReadyH.nil)
          try simp only [Act.put, List.getElem_toArray, List.getElem_cons_succ, List.getElem_cons_zero, List.setIfInBounds_toArray, List.set_cons_zero, List.set_cons_succ]
          go_simp
          go_at_call 97
          refine (HC.out _ D).mono ?_
          rintro e W ⟨vp, rfl, op', d5⟩
          have op := op'.base D.size
          obtain ⟨Ap, cp, rfl, -, -⟩ := op.form
          try replace na := own_below na d5 (Nat.le_refl _)
          try replace nv := OwnI.below nv d5 (Nat.le_refl _)
          replace D := D.trans (d5.mono D.size)
          clear op' d5
          refine hK.out _ _ (HS.out _ D) (fun hHeld => ?_)
          clear hK K
          try simp only [Act.put, List.getElem_toArray, List.getElem_cons_succ, List.getElem_cons_zero, List.setIfInBounds_toArray, List.set_cons_zero, List.set_cons_succ]
          refine wpAnyH_ready (rs := [8]) (by kernel_rfl) (by simp) (AllReadyH.cons (o := _) rfl (fun K hK => ?_) AllReadyH.nil)
          try simp only [Act.put, List.getElem_toArray, List.getElem_cons_succ, List.getElem_cons_zero, List.setIfInBounds_toArray, List.set_cons_zero, List.set_cons_succ]
          rw [if_pos (by rfl)]
          refine op_append_row2 _ (by rfl) _ _ 24 (by rfl) w3.heap.size 3 i1 (.int .i64 0) 1 8 Tryz.underlying24 hj hy0 hy1 hy2 rfl (by decide) (.slice (some ⟨gA, 0, none⟩) 0 0) 0 [] (by rfl) na w3.heap.size A9 t.vs.length c9 (ints t.vs) (by rfl) (HV.out _ D) (by rw [ints_length]; omega) (ints_cells _) (by unfold maxLen; omega) (by omega) D.size ?_
          intro v9 W hown hg
          rw [Nat.zero_add, List.nil_append] at hown
          replace D := D.grown hg D.size (fun j hj => (World.ownsRow.lt na j hj).1)
          try replace op := op.keptI hg (row_typed na)
          have nv : OwnI W w3.heap.size v9 t.vs := hown
          obtain ⟨Av, cv, rfl, -, -⟩ := nv.form
          clear hown hg na
          refine hK.out _ _ (HS.out _ D) (fun hHeld => ?_)
          clear hK K
          try simp only [Act.put, List.getElem_toArray, List.getElem_cons_succ, List.getElem_cons_zero, List.setIfInBounds_toArray, List.set_cons_zero, List.set_cons_succ]
          refine wpAnyH_take (i := 11) (oi := _) (v := ?_) rfl (by kernel_rfl) (by kernel_rfl) (by kernel_rfl) (fun _ _ _ h => h) (Or.inl ⟨by rfl, ?_⟩) hHeld ?_
          rotate_left
          · (intro w' hSw; (try dsimp only at hSw); go_simp <;> with_reducible rfl)
          try simp only [Act.put, List.getElem_toArray, List.getElem_cons_succ, List.getElem_cons_zero, List.setIfInBounds_toArray, List.set_cons_zero, List.set_cons_succ]
          refine wpAnyH_ready (rs := [12]) (by kernel_rfl) (by simp) (AllReadyH.cons (o := _) rfl (fun K hK => ?_) AllReadyH.nil)
          try simp only [Act.put, List.getElem_toArray, List.getElem_cons_succ, List.getElem_cons_zero, List.setIfInBounds_toArray, List.set_cons_zero, List.set_cons_succ]
          obtain ⟨ys, hrow, HP⟩ := HS3.out.put D (t := t) ⟨op, nv, fun _ _ => rfl⟩
          have HPP := hid HP
          have rA := row_three_ W (.slice Ap t.ps.length cp) (.slice Av t.vs.length cv) (.int .i64 t.d) 33
          have hrow' := World.ownsRow.alloc hrow (.cells #[.slice Ap t.ps.length cp, .slice Av t.vs.length cv, .int .i64 t.d] 33)
          replace D := D.trans (((Below.refl W.heap.size W).alloc (Nat.le_refl _) (.cells #[.slice Ap t.ps.length cp, .slice Av t.vs.length cv, .int .i64 t.d] 33)).mono D.size)
          clear HP hrow op nv
          go_simp
          refine hK.out _ _ (HS.out _ D) (fun hHeld => ?_)
          clear hK K
          try simp only [Act.put, List.getElem_toArray, List.getElem_cons_succ, List.getElem_cons_zero, List.setIfInBounds_toArray, List.set_cons_zero, List.set_cons_succ]
          refine wpAnyH_ready (rs := [13]) (by kernel_rfl) (by simp) (AllReadyH.cons (o := _) rfl (fun K hK => ?_) AllReadyH.nil)
          try simp only [Act.put, List.getElem_toArray, List.getElem_cons_succ, List.getElem_cons_zero, List.setIfInBounds_toArray, List.set_cons_zero, List.set_cons_succ]
          rw [if_pos (by rfl)]
          refine op_append_row2 _ (by rfl) _ _ 23 (by rfl) w.heap.size 33 i0 (.agg #[.slice none 0 0, .slice none 0 0, .int .i64 0]) 3 56 Tryz.underlying23 hi hz0 hz1 hz2 rfl (by decide) (.slice Ao out.length co) out.length ys (by rfl) hrow' _ (some ⟨W.heap.size, 0, none⟩) 1 1 [.slice Ap t.ps.length cp, .slice Av t.vs.length cv, .int .i64 t.d] (by rfl) rA rfl (tx_cells _ _ _ _ _ _ _) (by unfold maxLen; omega) (by omega) (Nat.le_trans hz3 D.size) ?_
          intro v7 W7 hown hg
          obtain ⟨Ao7, co7, col7, rfl, ⟨k1, kf⟩, b7, S7⟩ := HPP.out v7 W7 hown hg
          have x7 := (HX5.out _ D).grown hg (HN5.out)
          clear hown hg rA hrow' HPP
          refine hK.out _ _ ⟨x7.reads.1, x7.reads.2.1, x7.reads.2.2.1⟩ (fun hHeld => ?_)
          clear hK K
          try simp only [Act.put, List.getElem_toArray, List.getElem_cons_succ, List.getElem_cons_zero, List.setIfInBounds_toArray, List.set_cons_zero, List.set_cons_succ]
          refine wpAnyH_take (i := 14) (oi := _) (v := ?_) rfl (by kernel_rfl) (by kernel_rfl) (by kernel_rfl) (fun _ _ _ h => h) (Or.inl ⟨by rfl, ?_⟩) hHeld ?_
          rotate_left
          · (intro w' hSw; (try dsimp only at hSw); go_simp <;> with_reducible rfl)
          try simp only [Act.put, List.getElem_toArray, List.getElem_cons_succ, List.getElem_cons_zero, List.setIfInBounds_toArray, List.set_cons_zero, List.set_cons_succ]
          refine wpAnyH_ready (rs := [15]) (by kernel_rfl) (by simp) (AllReadyH.cons (o := _) rfl (fun K hK => ?_) AllReadyH.nil)
          try simp only [Act.put, List.getElem_toArray, List.getElem_cons_succ, List.getElem_cons_zero, List.setIfInBounds_toArray, List.set_cons_zero, List.set_cons_succ]
          go_simp
          have x8 := x7.far (p := ⟨g, 0, none⟩) HG5.out (.slice Ao7 (out.length + 1) co7)
          refine hK.out _ _ ⟨x8.reads.1, x8.reads.2.1, x8.reads.2.2.1⟩ (fun hHeld => ?_)
          clear hK K
          try simp only [Act.put, List.getElem_toArray, List.getElem_cons_succ, List.getElem_cons_zero, List.setIfInBounds_toArray, List.set_cons_zero, List.set_cons_succ]
          refine wpAnyH_done (by kernel_rfl) ?_ _
          clear hHeld k1 kf x7 x8 b7 D
          go_wp2
          go_roundw
          case rel => exact ⟨k + 1, col7, Ao7, co7, hlt, by go_num, by rw [hT.out]; simpa using S7⟩
          case measure => simp [intOf]; omega
        · skip
          try simp only [Act.put, List.getElem_toArray, List.getElem_cons_succ, List.getElem_cons_zero, List.setIfInBounds_toArray, List.set_cons_zero, List.set_cons_succ]
          go_simp
          go_at_call 97
          refine (HC.out _ D).mono ?_
          rintro e W ⟨vp, rfl, op', d5⟩
          have op := op'.base D.size
          obtain ⟨Ap, cp, rfl, -, -⟩ := op.form
          try replace na := own_below na d5 (Nat.le_refl _)
          try replace nv := OwnI.below nv d5 (Nat.le_refl _)
          replace D := D.trans (d5.mono D.size)
          clear op' d5
          refine hK.out _ _ (HS.out _ D) (fun hHeld => ?_)
          clear hK K
          try simp only [Act.put, List.getElem_toArray, List.getElem_cons_succ, List.getElem_cons_zero, List.setIfInBounds_toArray, List.set_cons_zero, List.set_cons_succ]
          refine wpAnyH_ready (rs := [1, 8]) (by kernel_rfl) (by simp) (AllReadyH.cons (o := _) rfl (fun K hK => ?_) (AllReadyH.cons (o := _) rfl (fun K hK => ?_) AllReadyH.nil))
          · skip
            try simp only [Act.put, List.getElem_toArray, List.getElem_cons_succ, List.getElem_cons_zero, List.setIfInBounds_toArray, List.set_cons_zero, List.set_cons_succ]
            have yL := (HS3.out.later D).2.2.1.reads.1
            go_simp
            refine hK.out _ _ (HS.out _ D) (fun hHeld => ?_)
            clear hK K
            try simp only [Act.put, List.getElem_toArray, List.getElem_cons_succ, List.getElem_cons_zero, List.setIfInBounds_toArray, List.set_cons_zero, List.set_cons_succ]
            clear yL
            refine wpAnyH_ready (rs := [8]) (by kernel_rfl) (by simp) (AllReadyH.cons (o := _) rfl (fun K hK => ?_) AllReadyH.nil)
            try simp only [Act.put, List.getElem_toArray, List.getElem_cons_succ, List.getElem_cons_zero, List.setIfInBounds_toArray, List.set_cons_zero, List.set_cons_succ]
            rw [if_pos (by rfl)]
            refine op_append_row2 _ (by rfl) _ _ 24 (by rfl) w3.heap.size 3 i1 (.int .i64 0) 1 8 Tryz.underlying24 hj hy0 hy1 hy2 rfl (by decide) (.slice (some ⟨gA, 0, none⟩) 0 0) 0 [] (by rfl) na w3.heap.size A9 t.vs.length c9 (ints t.vs) (by rfl) (HV.out _ D) (by rw [ints_length]; omega) (ints_cells _) (by unfold maxLen; omega) (by omega) D.size ?_
            intro v9 W hown hg
            rw [Nat.zero_add, List.nil_append] at hown
            replace D := D.grown hg D.size (fun j hj => (World.ownsRow.lt na j hj).1)
            try replace op := op.keptI hg (row_typed na)
            have nv : OwnI W w3.heap.size v9 t.vs := hown
            obtain ⟨Av, cv, rfl, -, -⟩ := nv.form
            clear hown hg na
            refine hK.out _ _ (HS.out _ D) (fun hHeld => ?_)
            clear hK K
            try simp only [Act.put, List.getElem_toArray, List.getElem_cons_succ, List.getElem_cons_zero, List.setIfInBounds_toArray, List.set_cons_zero, List.set_cons_succ]
            refine wpAnyH_take (i := 11) (oi := _) (v := ?_) rfl (by kernel_rfl) (by kernel_rfl) (by kernel_rfl) (fun _ _ _ h => h) (Or.inl ⟨by rfl, ?_⟩) hHeld ?_
            rotate_left
            · (intro w' hSw; (try dsimp only at hSw); go_simp <;> with_reducible rfl)
            try simp only [Act.put, List.getElem_toArray, List.getElem_cons_succ, List.getElem_cons_zero, List.setIfInBounds_toArray, List.set_cons_zero, List.set_cons_succ]
            refine wpAnyH_ready (rs := [12]) (by kernel_rfl) (by simp) (AllReadyH.cons (o := _) rfl (fun K hK => ?_) AllReadyH.nil)
            try simp only [Act.put, List.getElem_toArray, List.getElem_cons_succ, List.getElem_cons_zero, List.setIfInBounds_toArray, List.set_cons_zero, List.set_cons_succ]
            obtain ⟨ys, hrow, HP⟩ := HS3.out.put D (t := t) ⟨op, nv, fun _ _ => rfl⟩
            have HPP := hid HP
            have rA := row_three_ W (.slice Ap t.ps.length cp) (.slice Av t.vs.length cv) (.int .i64 t.d) 33
            have hrow' := World.ownsRow.alloc hrow (.cells #[.slice Ap t.ps.length cp, .slice Av t.vs.length cv, .int .i64 t.d] 33)
            replace D := D.trans (((Below.refl W.heap.size W).alloc (Nat.le_refl _) (.cells #[.slice Ap t.ps.length cp, .slice Av t.vs.length cv, .int .i64 t.d] 33)).mono D.size)
            clear HP hrow op nv
            go_simp
            refine hK.out _ _ (HS.out _ D) (fun hHeld => ?_)
            clear hK K
            try simp only [Act.put, List.getElem_toArray, List.getElem_cons_succ, List.getElem_cons_zero, List.setIfInBounds_toArray, List.set_cons_zero, List.set_cons_succ]
            refine wpAnyH_ready (rs := [13]) (by kernel_rfl) (by simp) (AllReadyH.cons (o := _) rfl (fun K hK => ?_) AllReadyH.nil)
            try simp only [Act.put, List.getElem_toArray, List.getElem_cons_succ, List.getElem_cons_zero, List.setIfInBounds_toArray, List.set_cons_zero, List.set_cons_succ]
            rw [if_pos (by rfl)]
            refine op_append_row2 _ (by rfl) _ _ 23 (by rfl) w.heap.size 33 i0 (.agg #[.slice none 0 0, .slice none 0 0, .int .i64 0]) 3 56 Tryz.underlying23 hi hz0 hz1 hz2 rfl (by decide) (.slice Ao out.length co) out.length ys (by rfl) hrow' _ (some ⟨W.heap.size, 0, none⟩) 1 1 [.slice Ap t.ps.length cp, .slice Av t.vs.length cv, .int .i64 t.d] (by rfl) rA rfl (tx_cells _ _ _ _ _ _ _) (by unfold maxLen; omega) (by omega) (Nat.le_trans hz3 D.size) ?_
            intro v7 W7 hown hg
            obtain ⟨Ao7, co7, col7, rfl, ⟨k1, kf⟩, b7, S7⟩ := HPP.out v7 W7 hown hg
            have x7 := (HX5.out _ D).grown hg (HN5.out)
            clear hown hg rA hrow' HPP
            refine hK.out _ _ ⟨x7.reads.1, x7.reads.2.1, x7.reads.2.2.1⟩ (fun hHeld => ?_)
            clear hK K
            try simp only [Act.put, List.getElem_toArray, List.getElem_cons_succ, List.getElem_cons_zero, List.setIfInBounds_toArray, List.set_cons_zero, List.set_cons_succ]
            refine wpAnyH_take (i := 14) (oi := _) (v := ?_) rfl (by kernel_rfl) (by kernel_rfl) (by kernel_rfl) (fun _ _ _ h => h) (Or.inl ⟨by rfl, ?_⟩) hHeld ?_
            rotate_left
            · (intro w' hSw; (try dsimp only at hSw); go_simp <;> with_reducible rfl)
            try simp only [Act.put, List.getElem_toArray, List.getElem_cons_succ, List.getElem_cons_zero, List.setIfInBounds_toArray, List.set_cons_zero, List.set_cons_succ]
            refine wpAnyH_ready (rs := [15]) (by kernel_rfl) (by simp) (AllReadyH.cons (o := _) rfl (fun K hK => ?_) AllReadyH.nil)
            try simp only [Act.put, List.getElem_toArray, List.getElem_cons_succ, List.getElem_cons_zero, List.setIfInBounds_toArray, List.set_cons_zero, List.set_cons_succ]
            go_simp
            have x8 := x7.far (p := ⟨g, 0, none⟩) HG5.out (.slice Ao7 (out.length + 1) co7)
            refine hK.out _ _ ⟨x8.reads.1, x8.reads.2.1, x8.reads.2.2.1⟩ (fun hHeld => ?_)
            clear hK K
            try simp only [Act.put, List.getElem_toArray, List.getElem_cons_succ, List.getElem_cons_zero, List.setIfInBounds_toArray, List.set_cons_zero, List.set_cons_succ]
            refine wpAnyH_done (by kernel_rfl) ?_ _
            clear hHeld k1 kf x7 x8 b7 D
            go_wp2
            go_roundw
            case rel => exact ⟨k + 1, col7, Ao7, co7, hlt, by go_num, by rw [hT.out]; simpa using S7⟩
            case measure => simp [intOf]; omega
          · skip
            try simp only [Act.put, List.getElem_toArray, List.getElem_cons_succ, List.getElem_cons_zero, List.setIfInBounds_toArray, List.set_cons_zero, List.set_cons_succ]
            rw [if_pos (by rfl)]
            refine op_append_row2 _ (by rfl) _ _ 24 (by rfl) w3.heap.size 3 i1 (.int .i64 0) 1 8 Tryz.underlying24 hj hy0 hy1 hy2 rfl (by decide) (.slice (some ⟨gA, 0, none⟩) 0 0) 0 [] (by rfl) na w3.heap.size A9 t.vs.length c9 (ints t.vs) (by rfl) (HV.out _ D) (by rw [ints_length]; omega) (ints_cells _) (by unfold maxLen; omega) (by omega) D.size ?_
            intro v9 W hown hg
            rw [Nat.zero_add, List.nil_append] at hown
            replace D := D.grown hg D.size (fun j hj => (World.ownsRow.lt na j hj).1)
            try replace op := op.keptI hg (row_typed na)
            have nv : OwnI W w3.heap.size v9 t.vs := hown
            obtain ⟨Av, cv, rfl, -, -⟩ := nv.form
            clear hown hg na
            refine hK.out _ _ (HS.out _ D) (fun hHeld => ?_)
            clear hK K
            try simp only [Act.put, List.getElem_toArray, List.getElem_cons_succ, List.getElem_cons_zero, List.setIfInBounds_toArray, List.set_cons_zero, List.set_cons_succ]
            refine wpAnyH_take (i := 11) (oi := _) (v := ?_) rfl (by kernel_rfl) (by kernel_rfl) (by kernel_rfl) (fun _ _ _ h => h) (Or.inl ⟨by rfl, ?_⟩) hHeld ?_
            rotate_left
            · (intro w' hSw; (try dsimp only at hSw); go_simp <;> with_reducible rfl)
            try simp only [Act.put, List.getElem_toArray, List.getElem_cons_succ, List.getElem_cons_zero, List.setIfInBounds_toArray, List.set_cons_zero, List.set_cons_succ]
            refine wpAnyH_ready (rs := [1, 12]) (by kernel_rfl) (by simp) (AllReadyH.cons (o := _) rfl (fun K hK => ?_) (AllReadyH.cons (o := _) rfl (fun K hK => ?_) AllReadyH.nil))
            · skip
              try simp only [Act.put, List.getElem_toArray, List.getElem_cons_succ, List.getElem_cons_zero, List.setIfInBounds_toArray, List.set_cons_zero, List.set_cons_succ]
              have yL := (HS3.out.later D).2.2.1.reads.1
              go_simp
              refine hK.out _ _ (HS.out _ D) (fun hHeld => ?_)
              clear hK K
              try simp only [Act.put, List.getElem_toArray, List.getElem_cons_succ, List.getElem_cons_zero, List.setIfInBounds_toArray, List.set_cons_zero, List.set_cons_succ]
              clear yL
              refine wpAnyH_ready (rs := [12]) (by kernel_rfl) (by simp) (AllReadyH.cons (o := _) rfl (fun K hK => ?_) AllReadyH.nil)
              try simp only [Act.put, List.getElem_toArray, List.getElem_cons_succ, List.getElem_cons_zero, List.setIfInBounds_toArray, List.set_cons_zero, List.set_cons_succ]
              obtain ⟨ys, hrow, HP⟩ := HS3.out.put D (t := t) ⟨op, nv, fun _ _ => rfl⟩
              have HPP := hid HP
              have rA := row_three_ W (.slice Ap t.ps.length cp) (.slice Av t.vs.length cv) (.int .i64 t.d) 33
              have hrow' := World.ownsRow.alloc hrow (.cells #[.slice Ap t.ps.length cp, .slice Av t.vs.length cv, .int .i64 t.d] 33)
              replace D := D.trans (((Below.refl W.heap.size W).alloc (Nat.le_refl _) (.cells #[.slice Ap t.ps.length cp, .slice Av t.vs.length cv, .int .i64 t.d] 33)).mono D.size)
              clear HP hrow op nv
              go_simp
              refine hK.out _ _ (HS.out _ D) (fun hHeld => ?_)
              clear hK K
              try simp only [Act.put, List.getElem_toArray, List.getElem_cons_succ, List.getElem_cons_zero, List.setIfInBounds_toArray, List.set_cons_zero, List.set_cons_succ]
              refine wpAnyH_ready (rs := [13]) (by kernel_rfl) (by simp) (AllReadyH.cons (o := _) rfl (fun K hK => ?_) AllReadyH.nil)
              try simp only [Act.put, List.getElem_toArray, List.getElem_cons_succ, List.getElem_cons_zero, List.setIfInBounds_toArray, List.set_cons_zero, List.set_cons_succ]
              rw [if_pos (by rfl)]
              refine op_append_row2 _ (by rfl) _ _ 23 (by rfl) w.heap.size 33 i0 (.agg #[.slice none 0 0, .slice none 0 0, .int .i64 0]) 3 56 Tryz.underlying23 hi hz0 hz1 hz2 rfl (by decide) (.slice Ao out.length co) out.length ys (by rfl) hrow' _ (some ⟨W.heap.size, 0, none⟩) 1 1 [.slice Ap t.ps.length cp, .slice Av t.vs.length cv, .int .i64 t.d] (by rfl) rA rfl (tx_cells _ _ _ _ _ _ _) (by unfold maxLen; omega) (by omega) (Nat.le_trans hz3 D.size) ?_
              intro v7 W7 hown hg
              obtain ⟨Ao7, co7, col7, rfl, ⟨k1, kf⟩, b7, S7⟩ := HPP.out v7 W7 hown hg
              have x7 := (HX5.out _ D).grown hg (HN5.out)
              clear hown hg rA hrow' HPP
              refine hK.out _ _ ⟨x7.reads.1, x7.reads.2.1, x7.reads.2.2.1⟩ (fun hHeld => ?_)
              clear hK K
              try simp only [Act.put, List.getElem_toArray, List.getElem_cons_succ, List.getElem_cons_zero, List.setIfInBounds_toArray, List.set_cons_zero, List.set_cons_succ]
              refine wpAnyH_take (i := 14) (oi := _) (v := ?_) rfl (by kernel_rfl) (by kernel_rfl) (by kernel_rfl) (fun _ _ _ h => h) (Or.inl ⟨by rfl, ?_⟩) hHeld ?_
              rotate_left
              · (intro w' hSw; (try dsimp only at hSw); go_simp <;> with_reducible rfl)
              try simp only [Act.put, List.getElem_toArray, List.getElem_cons_succ, List.getElem_cons_zero, List.setIfInBounds_toArray, List.set_cons_zero, List.set_cons_succ]
              refine wpAnyH_ready (rs := [15]) (by kernel_rfl) (by simp) (AllReadyH.cons (o := _) rfl (fun K hK => ?_) AllReadyH.nil)
              try simp only [Act.put, List.getElem_toArray, List.getElem_cons_succ, List.getElem_cons_zero, List.setIfInBounds_toArray, List.set_cons_zero, List.set_cons_succ]
              go_simp
              have x8 := x7.far (p := ⟨g, 0, none⟩) HG5.out (.slice Ao7 (out.length + 1) co7)
              refine hK.out _ _ ⟨x8.reads.1, x8.reads.2.1, x8.reads.2.2.1⟩ (fun hHeld => ?_)
              clear hK K
              try simp only [Act.put, List.getElem_toArray, List.getElem_cons_succ, List.getElem_cons_zero, List.setIfInBounds_toArray, List.set_cons_zero, List.set_cons_succ]
              refine wpAnyH_done (by kernel_rfl) ?_ _
              clear hHeld k1 kf x7 x8 b7 D
              go_wp2
              go_roundw
              case rel => exact ⟨k + 1, col7, Ao7, co7, hlt, by go_num, by rw [hT.out]; simpa using S7⟩
              case measure => simp [intOf]; omega
            · skip
              try simp only [Act.put, List.getElem_toArray, List.getElem_cons_succ, List.getElem_cons_zero, List.setIfInBounds_toArray, List.set_cons_zero, List.set_cons_succ]
              obtain ⟨ys, hrow, HP⟩ := HS3.out.put D (t := t) ⟨op, nv, fun _ _ => rfl⟩
              have HPP := hid HP
              have rA := row_three_ W (.slice Ap t.ps.length cp) (.slice Av t.vs.length cv) (.int .i64 t.d) 33
              have hrow' := World.ownsRow.alloc hrow (.cells #[.slice Ap t.ps.length cp, .slice Av t.vs.length cv, .int .i64 t.d] 33)
              replace D := D.trans (((Below.refl W.heap.size W).alloc (Nat.le_refl _) (.cells #[.slice Ap t.ps.length cp, .slice Av t.vs.length cv, .int .i64 t.d] 33)).mono D.size)
              clear HP hrow op nv
              go_simp
              refine hK.out _ _ (HS.out _ D) (fun hHeld => ?_)
              clear hK K
              try simp only [Act.put, List.getElem_toArray, List.getElem_cons_succ, List.getElem_cons_zero, List.setIfInBounds_toArray, List.set_cons_zero, List.set_cons_succ]
              refine wpAnyH_ready (rs := [1]) (by kernel_rfl) (by simp) (AllReadyH.cons (o := _) rfl (fun K hK => ?_) AllReadyH.nil)
              try simp only [Act.put, List.getElem_toArray, List.getElem_cons_succ, List.getElem_cons_zero, List.setIfInBounds_toArray, List.set_cons_zero, List.set_cons_succ]
              have yL := (HS3.out.later D).2.2.1.reads.1
              go_simp
              refine hK.out _ _ (HS.out _ D) (fun hHeld => ?_)
              clear hK K
              try simp only [Act.put, List.getElem_toArray, List.getElem_cons_succ, List.getElem_cons_zero, List.setIfInBounds_toArray, List.set_cons_zero, List.set_cons_succ]
              clear yL
              refine wpAnyH_ready (rs := [13]) (by kernel_rfl) (by simp) (AllReadyH.cons (o := _) rfl (fun K hK => ?_) AllReadyH.nil)
              try simp only [Act.put, List.getElem_toArray, List.getElem_cons_succ, List.getElem_cons_zero, List.setIfInBounds_toArray, List.set_cons_zero, List.set_cons_succ]
              rw [if_pos (by rfl)]
              refine op_append_row2 _ (by rfl) _ _ 23 (by rfl) w.heap.size 33 i0 (.agg #[.slice none 0 0, .slice none 0 0, .int .i64 0]) 3 56 Tryz.underlying23 hi hz0 hz1 hz2 rfl (by decide) (.slice Ao out.length co) out.length ys (by rfl) hrow' _ (some ⟨W.heap.size, 0, none⟩) 1 1 [.slice Ap t.ps.length cp, .slice Av t.vs.length cv, .int .i64 t.d] (by rfl) rA rfl (tx_cells _ _ _ _ _ _ _) (by unfold maxLen; omega) (by omega) (Nat.le_trans hz3 D.size) ?_
              intro v7 W7 hown hg
              obtain ⟨Ao7, co7, col7, rfl, ⟨k1, kf⟩, b7, S7⟩ := HPP.out v7 W7 hown hg
              have x7 := (HX5.out _ D).grown hg (HN5.out)
              clear hown hg rA hrow' HPP
              refine hK.out _ _ ⟨x7.reads.1, x7.reads.2.1, x7.reads.2.2.1⟩ (fun hHeld => ?_)
              clear hK K
              try simp only [Act.put, List.getElem_toArray, List.getElem_cons_succ, List.getElem_cons_zero, List.setIfInBounds_toArray, List.set_cons_zero, List.set_cons_succ]
              refine wpAnyH_take (i := 14) (oi := _) (v := ?_) rfl (by kernel_rfl) (by kernel_rfl) (by kernel_rfl) (fun _ _ _ h => h) (Or.inl ⟨by rfl, ?_⟩) hHeld ?_
              rotate_left
              · (intro w' hSw; (try dsimp only at hSw); go_simp <;> with_reducible rfl)
              try simp only [Act.put, List.getElem_toArray, List.getElem_cons_succ, List.getElem_cons_zero, List.setIfInBounds_toArray, List.set_cons_zero, List.set_cons_succ]
              refine wpAnyH_ready (rs := [15]) (by kernel_rfl) (by simp) (AllReadyH.cons (o := _) rfl (fun K hK => ?_) AllReadyH.nil)
              try simp only [Act.put, List.getElem_toArray, List.getElem_cons_succ, List.getElem_cons_zero, List.setIfInBounds_toArray, List.set_cons_zero, List.set_cons_succ]
              go_simp
              have x8 := x7.far (p := ⟨g, 0, none⟩) HG5.out (.slice Ao7 (out.length + 1) co7)
              refine hK.out _ _ ⟨x8.reads.1, x8.reads.2.1, x8.reads.2.2.1⟩ (fun hHeld => ?_)
              clear hK K
              try simp only [Act.put, List.getElem_toArray, List.getElem_cons_succ, List.getElem_cons_zero, List.setIfInBounds_toArray, List.set_cons_zero, List.set_cons_succ]
              refine wpAnyH_done (by kernel_rfl) ?_ _
              clear hHeld k1 kf x7 x8 b7 D
              go_wp2
              go_roundw
              case rel => exact ⟨k + 1, col7, Ao7, co7, hlt, by go_num, by rw [hT.out]; simpa using S7⟩
              case measure => simp [intOf]; omega
    · have hk' : k = q.ts.length := by omega
      subst hk'
      rw [List.take_length] at S
      obtain ⟨s1, s2, s3, -, s5, s6, s7⟩ := S
      obtain ⟨t0, t1, tf⟩ := id s2.reads
      have tf0 := tf 0
      have tf1 := tf 1
      obtain ⟨u0, u1, -⟩ := id s3.reads
      have o9 : OwnCr col wr w.heap.size (.agg #[.slice Ao q.ts.length co, .slice A5 q.os.length c5]) q := ⟨_, _, rfl, s5, s6⟩
      have o10 := (o9.keptT (by decide) (by decide) (by decide) (by decide) (but_set wr (w.heap.size + 1) 0 (.slice Ao q.ts.length co)) (blk_type s2)).keptT (by decide) (by decide) (by decide) (by decide) (but_set _ (w.heap.size + 1) 1 (.slice A5 q.os.length c5)) (blk_type (s2.set0 _))
      have b9 := (s7.setCell (p := ⟨w.heap.size + 1, 0, none⟩) (Nat.le_succ _) (.slice Ao q.ts.length co)).setCell (p := ⟨w.heap.size + 1, 1, none⟩) (Nat.le_succ _) (.slice A5 q.os.length c5)
      obtain ⟨p0, p1, -⟩ := ((s2.set0 (.slice Ao q.ts.length co)).set1 (.slice A5 q.os.length c5)).reads
      clear s1 s2 s3 s5 s6 s7 o9
      go_wp2
      exact bodyPost_ret (v := .agg #[.slice Ao q.ts.length co, .slice A5 q.os.length c5]) (by simp [results, Tryz.results59, go_sem, p0, p1]) rfl ⟨_, col, rfl, o10, b9⟩
end Go.Proofs.YteaibflloeipaaaGreatDoor
/- Laws on coordinators: a coordinator is boxed. -/
/- On to the world behind D. -/
/- An exact law begins: the argument's box, its size, a copy for the model. -/
/- The program's own copy of the argument is boxed. -/
/- The program's copy is as the argument; the region draws. -/
/- Laws on functions that answer numbers. -/
/- What the boxes hold is read again. -/
/- The coordinator with the slices P4 and P5 is boxed as P6, in block P7, behind it the world P3; ahead of region P1. -/
/- The draw, the program's answer, the model's, and that they are the same: behind it w5, all facts on it by way of dx. -/
/-
  Walk: which coordinators are valid, by the model.
-/
namespace Go.Proofs.YteaibflloeipaaaGreatDoor
open Go.RowKit Wo Pu Rf Lk Co

/-- The first k transactions are good, and ordered where they are committed. -/
def CGood (c : Crd) (k : Nat) : Prop := ∀ j (h : j < c.ts.length), j < k → TxV c.ts[j] ∧ (c.ts[j].d = 2 ↔ (j : Int) ∈ c.os)
theorem CGood.zero (c : Crd) : CGood c 0 := fun _ _ h => absurd h (Nat.not_lt_zero _)
theorem CGood.succ {c : Crd} {k : Nat} (h : CGood c k) (hk : k < c.ts.length) (h1 : TxV c.ts[k]) (h2 : c.ts[k].d = 2 ↔ (k : Int) ∈ c.os) : CGood c (k + 1) := fun j hj hjk => by
  by_cases e : j = k
  · subst e; exact ⟨h1, h2⟩
  · exact h j hj (by omega)
theorem cv_iff {c : Crd} : CV c ↔ c.ts.length ≤ 12 ∧ CGood c c.ts.length ∧ c.os.length = c.ts.countP isCom := by
  constructor
  · intro h
    exact ⟨h.many, fun j hj _ => ⟨h.txs _ (List.getElem_mem hj), h.ord j hj⟩, h.cnt⟩
  · rintro ⟨h1, h2, h3⟩
    refine ⟨h1, fun t ht => ?_, fun i hi => (h2 i hi hi).2, h3⟩
    obtain ⟨j, hj, rfl⟩ := List.mem_iff_getElem.1 ht
    exact (h2 j hj hj).1
theorem com_succ {ts : List Tx} {k : Nat} (hk : k < ts.length) : (ts.take (k + 1)).countP isCom = (ts.take k).countP isCom + if ts[k].d = 2 then 1 else 0 := by
  rw [List.take_succ_eq_append_getElem hk, List.countP_append]
  congr 1
  unfold isCom
  by_cases e : ts[k].d = 2
  · rw [if_pos e]; simp [e]
  · rw [if_neg e]; simp [e]
set_option linter.unusedSimpArgs false in
set_option maxRecDepth 100000 in
set_option maxHeartbeats 4000000 in
theorem specCoordinatorValid_is (b : Bool) (v : Value) (q : Crd) (w : World) (h : Crdd w w.heap.size v q) (hf : FitC q) (hb : b = true ↔ CV q) :
    Calls Tryz.prog 37 #[v] w (Ret (.bool b) w) := by
  have HB : Hid (b = true ↔ _) := hb.trans cv_iff
  obtain ⟨A, c, A2, c2, rfl, h1, -, h2, -⟩ := h
  have f1 := hf.ts
  have f2 := hf.os
  have HF := hid hf
  unfold crV
  have al := (Below.refl w.heap.size w).alloc (Nat.le_refl _) (.cells #[.slice A q.ts.length c, .slice A2 q.os.length c2] 26)
  have x0 := Blk2s.new_ w 26 (.slice A q.ts.length c) (.slice A2 q.os.length c2)
  obtain ⟨w1, hw1⟩ : ∃ x, w.alloc (.cells #[.slice A q.ts.length c, .slice A2 q.os.length c2] 26) = x := ⟨_, rfl⟩
  rw [hw1] at al x0
  have HR1 : Hid (∀ y, Below w1.heap.size w1 y → Txs y y.heap.size A q.ts) := fun y hy => (h1.on al).on hy
  have HR2 : Hid (∀ y, Below w1.heap.size w1 y → Row y y.heap.size A2 (ints q.os)) := fun y hy => (((h2.below al (Nat.le_refl _)).more al.size).below hy (Nat.le_refl _)).more hy.size
  have HX : Hid (∀ y, Below w1.heap.size w1 y → y.cell? ⟨w.heap.size, 0, none⟩ = some (.slice A q.ts.length c) ∧ y.cell? ⟨w.heap.size, 1, none⟩ = some (.slice A2 q.os.length c2)) := fun y hy => ⟨(x0.later hy).reads.1, (x0.later hy).reads.2.1⟩
  have no : b ≠ true → b = false := fun h => by cases b; rfl; exact absurd rfl h
  have NO := hid no
  clear h1 h2 hb hf x0 no
  go_enter Tryz.func37, Tryz.ntmps37
  go_wp2_with fail
  clear hw1
  go_loopw [3, 4] (fun n i wr => ∃ k : Nat, k ≤ q.ts.length ∧ i = .int .i64 k ∧ n = .int .i64 ((q.ts.take k).countP isCom : Nat) ∧ Hid (CGood q k) ∧ Below w1.heap.size w1 wr) (fun _ i _ => q.ts.length - (intOf i).toNat)
  case atStart => exact ⟨0, Nat.zero_le _, rfl, rfl, .zero _, Below.refl _ _⟩
  case round =>
    obtain ⟨k, hk, rfl, rfl, H, hb⟩ := hrel
    have hN : (q.ts.take k).countP isCom ≤ k := Nat.le_trans List.countP_le_length (by rw [List.length_take]; omega)
    obtain ⟨y0, y1⟩ := HX.out _ hb
    by_cases hlt : k < q.ts.length
    · have HS := hid (com_succ hlt)
      obtain ⟨N, hNN⟩ : ∃ N, (q.ts.take k).countP isCom = N := ⟨_, rfl⟩
      rw [hNN] at hN HS ⊢
      obtain ⟨t, ad, A', c', A3, c3, ho, e2, had, g0, g1, g2, -, -, g5, g6⟩ := (HR1.out _ hb).tx hlt
      have hps := HF.out.ps t (by rw [← ho]; exact List.getElem_mem hlt)
      have hus := HF.out.us t (by rw [← ho]; exact List.getElem_mem hlt)
      have k0 : (0 : Int) ≤ (k : Int) := by omega
      have k1 : (k : Int) < (q.ts.length : Int) := by omega
      obtain ⟨bt, hbt⟩ := bool_ofP' (TxV t)
      have CT := hid (l22Txn_is bt A' c' A3 c3 t wr g5 g6 (by omega) (by omega) (fun p hp => Nat.le_trans (hus p hp) (by omega)) hbt)
      have HO := hid ho
      have HBT := hid hbt
      have HTX := hid (fun y (hy : Below wr.heap.size wr y) => (show y.cell? ⟨(ad.add (k * 3)).block, (ad.add (k * 3)).off + 2, none⟩ = some (.int .i64 t.d) from (hy.cell (p := ⟨(ad.add (k * 3)).block, (ad.add (k * 3)).off + 2, none⟩) had).trans g2))
      subst e2
      clear hNN hbt ho g5 g6 hps hus
      go_wp2_with fail
      refine CT.out.mono ?_
      rintro e w2 ⟨rfl, d2⟩
      have hb2 := hb.trans (d2.mono hb.size)
      have g2' := HTX.out _ d2
      clear y0 y1 g0 g1 g2 CT
      obtain ⟨y0, y1⟩ := HX.out _ hb2
      cases bt with
      | false =>
        have F : Hid (b = false) := NO.out fun e => by have := HBT.out.2 (HO.out ▸ ((HB.out.1 e).2.1 k hlt hlt).1); cases this
        go_wp2
        go_ret
        rw [F.out]
        exact .mk_ (al.trans (hb2.mono al.size))
      | true =>
        obtain ⟨bh, hbh⟩ := bool_of ((k : Int) ∈ q.os)
        have CH := hid (fun y (hy : Below w1.heap.size w1 y) => l1Has_is bh A2 c2 q.os (k : Int) y _ (HR2.out y hy) (by omega) hbh)
        have HBH := hid hbh
        clear hbh
        by_cases hd : t.d = 2
        · rw [hd] at g2'
          have HS' : Hid ((q.ts.take (k + 1)).countP isCom = N + 1) := by show _ = _; rw [HS.out, if_pos (by rw [HO.out]; exact hd)]
          cases bh with
          | true =>
            have HN := hid (H.out.succ hlt (by rw [HO.out]; exact HBT.out.1 rfl) (by rw [HO.out]; exact ⟨fun _ => HBH.out.1 rfl, fun _ => hd⟩))
            clear hd HTX
            go_wp2_with fail
            go_quiet ((go_at_call 77; exact Calls.quiet_of_same ((CH.out _ (Wo.Below.drewN hb2 _)).mono (by rintro e w' ⟨rfl, rfl⟩; exact ⟨rfl, rfl⟩))))
            go_wp2
            go_roundw
            case rel => exact ⟨k + 1, by omega, by go_num, by rw [HS'.out]; go_num, HN, Wo.Below.drewN hb2 _⟩
            case measure => simp [intOf]; omega
          | false =>
            have F : Hid (b = false) := NO.out fun e => by have := HBH.out.2 (((HB.out.1 e).2.1 k hlt hlt).2.1 (by rw [HO.out]; exact hd)); cases this
            clear hd HTX
            go_wp2_with fail
            go_quiet ((go_at_call 77; exact Calls.quiet_of_same ((CH.out _ (Wo.Below.drewN hb2 _)).mono (by rintro e w' ⟨rfl, rfl⟩; exact ⟨rfl, rfl⟩))))
            go_wp2
            go_ret
            rw [F.out]
            exact .mk_ (al.trans ((Wo.Below.drewN hb2 _).mono al.size))
        · have HS' : Hid ((q.ts.take (k + 1)).countP isCom = N) := by show _ = _; rw [HS.out, if_neg (by rw [HO.out]; exact hd)]; rfl
          have e5 : (t.d == 2) = false := by rw [beq_eq_false_iff_ne]; exact hd
          cases bh with
          | false =>
            have HN := hid (H.out.succ hlt (by rw [HO.out]; exact HBT.out.1 rfl) (by rw [HO.out]; exact ⟨fun e => absurd e hd, fun e => by have := HBH.out.2 e; cases this⟩))
            clear hd HTX
            go_wp2_with fail
            go_quiet ((go_at_call 77; exact Calls.quiet_of_same ((CH.out _ (Wo.Below.drewN hb2 _)).mono (by rintro e w' ⟨rfl, rfl⟩; exact ⟨rfl, rfl⟩))))
            go_wp2
            go_roundw
            case rel => exact ⟨k + 1, by omega, by go_num, by rw [HS'.out], HN, Wo.Below.drewN hb2 _⟩
            case measure => simp [intOf]; omega
          | true =>
            have F : Hid (b = false) := NO.out fun e => hd (by have := ((HB.out.1 e).2.1 k hlt hlt).2.2 (HBH.out.1 rfl); rwa [HO.out] at this)
            clear hd HTX
            go_wp2_with fail
            go_quiet ((go_at_call 77; exact Calls.quiet_of_same ((CH.out _ (Wo.Below.drewN hb2 _)).mono (by rintro e w' ⟨rfl, rfl⟩; exact ⟨rfl, rfl⟩))))
            go_wp2
            go_ret
            rw [F.out]
            exact .mk_ (al.trans ((Wo.Below.drewN hb2 _).mono al.size))
    · have hk' : k = q.ts.length := by omega
      subst hk'
      have HG := H
      rw [List.take_length] at hN ⊢
      obtain ⟨N, hNN⟩ : ∃ N, q.ts.countP isCom = N := ⟨_, rfl⟩
      rw [hNN] at HB hN ⊢
      clear hNN
      by_cases h12 : q.ts.length ≤ 12
      · have e1 : decide ((q.ts.length : Int) ≤ 12) = true := decide_eq_true (by omega)
        have e2 : decide (q.ts.length ≤ 12) = true := decide_eq_true h12
        by_cases ho : q.os.length = N
        · have e3 : ((q.os.length : Int) == (N : Int)) = true := by rw [beq_iff_eq]; omega
          have e4 : (q.os.length == N) = true := by rw [beq_iff_eq]; exact ho
          have F : Hid (b = true) := HB.out.2 ⟨h12, HG.out, ho⟩
          clear h12 ho
          go_wp2
          go_ret
          rw [F.out]
          exact .mk_ (al.trans (hb.mono al.size))
        · have e3 : ((q.os.length : Int) == (N : Int)) = false := by rw [beq_eq_false_iff_ne]; omega
          have e4 : (q.os.length == N) = false := by rw [beq_eq_false_iff_ne]; exact ho
          have F : Hid (b = false) := NO.out fun e => ho (HB.out.1 e).2.2
          clear h12 ho
          go_wp2
          go_ret
          rw [F.out]
          exact .mk_ (al.trans (hb.mono al.size))
      · have e1 : decide ((q.ts.length : Int) ≤ 12) = false := decide_eq_false (by omega)
        have e2 : decide (q.ts.length ≤ 12) = false := decide_eq_false h12
        have F : Hid (b = false) := NO.out fun e => h12 (HB.out.1 e).1
        clear h12
        go_wp2
        go_ret
        rw [F.out]
        exact .mk_ (al.trans (hb.mono al.size))
end Go.Proofs.YteaibflloeipaaaGreatDoor
/- Laws on coordinators: a coordinator is boxed. -/
/- On to the world behind D. -/
/- An exact law begins: the argument's box, its size, a copy for the model. -/
/- The program's own copy of the argument is boxed. -/
/- The program's copy is as the argument; the region draws. -/
/- Laws on functions that answer numbers. -/
/- What the boxes hold is read again. -/
/- The coordinator with the slices P4 and P5 is boxed as P6, in block P7, behind it the world P3; ahead of region P1. -/
/- The draw, the program's answer, the model's, and that they are the same: behind it w5, all facts on it by way of dx. -/
/-
  Walks: a transaction begins, a transaction times out, by the model.
-/
namespace Go.Proofs.YteaibflloeipaaaGreatDoor
open Go.RowKit Wo Pu Rf Co

theorem Co.Begun.bad_ {q x : Crd} {ps : List Part} {b : Bool} (h : Begun q ps x b) (hn : ¬ (CV q ∧ PartsV ps)) : x = none_ ∧ b = false := by
  cases h with
  | bad _ => exact ⟨rfl, rfl⟩
  | full h1 h2 _ => exact absurd ⟨h1, h2⟩ hn
  | yes h1 h2 _ => exact absurd ⟨h1, h2⟩ hn
theorem Co.Begun.full_ {q x : Crd} {ps : List Part} {b : Bool} (h : Begun q ps x b) (h1 : CV q) (h2 : PartsV ps) (h3 : ¬ q.ts.length < 12) : x = q ∧ b = false := by
  cases h with
  | bad hn => exact absurd ⟨h1, h2⟩ hn
  | full _ _ _ => exact ⟨rfl, rfl⟩
  | yes _ _ h4 => exact absurd h4 h3
theorem Co.Begun.yes_ {q x : Crd} {ps : List Part} {b : Bool} (h : Begun q ps x b) (h1 : CV q) (h2 : PartsV ps) (h3 : q.ts.length < 12) : x = newC q ps ∧ b = true := by
  cases h with
  | bad hn => exact absurd ⟨h1, h2⟩ hn
  | full _ _ h4 => exact absurd h3 h4
  | yes _ _ _ => exact ⟨rfl, rfl⟩
/-- A box that holds a coordinator, and one more transaction in it. -/
theorem cr_more {col : Nat → Nat} {w3 w4 : World} {B g : Nat} {a b a' b' : Value} {q : Crd} {t : Tx} (h : OwnCr col w3 B (.agg #[a, b]) q) (hx3 : Blk2s w3 g 26 a b) (D : Below w3.heap.size w3 w4) (hB : B ≤ w3.heap.size) (hx : TxOf (fun _ => 0) 0 w4 w3.heap.size a' b' t) :
    ∃ ys, w4.ownsRow B 33 3 a q.ts.length ys ∧ ∀ v' w1, w1.ownsRow B 33 3 v' (q.ts.length + 1) (ys ++ [a', b', .int .i64 t.d]) →
      (w4.alloc (.cells #[a', b', .int .i64 t.d] 33)).grownBy w1 a.ownBlock → ∃ Ao co col', v' = .slice Ao (q.ts.length + 1) co ∧ Blk2s w1 g 26 a b ∧ (∀ {k u T}, T ≠ 33 → k < w3.heap.size → w3.heap[k]? = some (.cells u T (0, 0)) → w1.heap[k]? = some (.cells u T (0, 0))) ∧ (∀ w0 C, Below C w0 w3 → C ≤ B → Below C w0 w1) ∧
        OwnCr col' (w1.setCell ⟨g, 0, none⟩ (.slice Ao (q.ts.length + 1) co)) B (.agg #[.slice Ao (q.ts.length + 1) co, b]) ⟨q.ts ++ [t], q.os⟩ := by
  obtain ⟨a0, b0, e, h1, h2, h3⟩ := h
  injection e with e
  obtain ⟨rfl, rfl⟩ : a = a0 ∧ b = b0 := by
    have := congrArg Array.toList e
    simpa using this
  obtain ⟨ys, hrow, H⟩ := h1.more D hB hx
  refine ⟨ys, hrow, fun v' w1 hown hg => ?_⟩
  have O := H v' w1 hown hg
  have al := (Below.refl w4.heap.size w4).alloc (Nat.le_refl _) (.cells #[a', b', .int .i64 t.d] 33)
  have hrow' := World.ownsRow.alloc hrow (.cells #[a', b', .int .i64 t.d] 33)
  have D' := D.trans (al.mono D.size)
  have k3 := (hx3.later D').grown hg (blk_ne_row (hx3.later D') hrow' (by decide))
  have k6 : OwnI w1 B b q.os := row_far_type (h2.below D' (Nat.le_refl _)) (by decide) hg fun g e => row_typed hrow' g e
  have k7 : ColV (paint w1 (tint w3 col (q.ts.length + 2))) 0 b := paint_col k6 (.inr (.inr rfl)) (tint_old h2 h3)
  obtain ⟨Ao, co, e, -, -⟩ := O.form
  rw [List.length_append, List.length_singleton] at e
  subst e
  refine ⟨Ao, co, _, rfl, k3, fun {k u T} hT hk hh => ?_, fun w0 C hc hCB => ?_, ⟨_, _, rfl, O.keptT (by decide) (by decide) (by decide) (by decide) (but_set w1 g 0 _) (blk_type k3), row_far_type k6 (by decide) (but_set w1 g 0 _) (blk_type k3), k7⟩⟩
  · have h9 := (D'.block k hk).trans hh
    exact (hg.block k (Nat.lt_of_lt_of_le hk D'.size) (blk_ne_row h9 hrow' hT)).trans h9
  · have b1 := hc.trans (D'.mono (Nat.le_trans hCB hB))
    exact b1.grown hg (by have := D'.size; omega) (fun j hj => Nat.le_trans hCB (World.ownsRow.lt hrow' j hj).1)
set_option linter.unusedSimpArgs false in
set_option linter.unusedVariables false in
set_option maxRecDepth 100000 in
set_option maxHeartbeats 16000000 in
theorem specCoordinatorBegin_is (x : Crd) (b : Bool) (v : Value) (q : Crd) (Ap : Option Addr) (cp : Nat) (ps : List Part) (w : World) (h : Crdd w w.heap.size v q) (hf : FitC q) (hp : Parts w w.heap.size Ap ps) (hpm : ps.length ≤ 1048576) (hpu : ∀ p ∈ ps, p.us.length ≤ 1048576) (hx : Begun q ps x b) :
    Calls Tryz.prog 69 #[v, .slice Ap ps.length cp] w (NewCrB x b w) := by
  obtain ⟨i0, hi, hz0, hz1, hz2⟩ := info_of info_txn
  obtain ⟨i1, hj, hy0, hy1, hy2⟩ := info_of info_int
  obtain ⟨bv, hbv⟩ := bool_ofP' (CV q)
  obtain ⟨bp, hbp⟩ := bool_ofP' (PartsV ps)
  have HX := hid hx
  have HBV := hid hbv
  have HBP := hid hbp
  have HU := hid hpu
  have CVal : Hid (∀ y, Below w.heap.size w y → Calls Tryz.prog 37 #[v] y (Ret (.bool bv) y)) := fun y hy => specCoordinatorValid_is bv v q y (h.on hy hy.size) hf hbv
  have CPar : Hid (∀ y, Below w.heap.size w y → Calls Tryz.prog 106 #[.slice Ap ps.length cp] y (Ret (.bool bp) y)) := fun y hy => l22Parts_is bp Ap cp ps y ((hp.below hy (Nat.le_refl _)).more hy.size) (by omega) (fun p hp => Nat.le_trans (hpu p hp) (by omega)) hbp
  have CCop : Hid (∀ y, Below w.heap.size w y → Calls Tryz.prog 59 #[v] y (NewCr q y)) := fun y hy => l22Copy_any v q y (h.on hy hy.size) hf
  have CP2 : Hid (∀ y, Below w.heap.size w y → Calls Tryz.prog 97 #[.slice Ap ps.length cp] y (NewPs ps y)) := fun y hy => l22Parts2_any Ap cp ps y ((hp.below hy (Nat.le_refl _)).more hy.size) hpm hpu
  have hf1 := hf.ts
  clear hx hbv hbp hpu hp
  obtain ⟨A, c, A2, c2, rfl, -, hc, -, hc2⟩ := h
  clear hf
  unfold crV at *
  have b1 := ((Below.refl w.heap.size w).alloc (Nat.le_refl _) (.cells #[.slice A q.ts.length c, .slice A2 q.os.length c2] 26)).alloc (by simp) (.cells #[.slice none 0 0, .slice none 0 0] 26)
  have x0 := (Blk2s.new_ w 26 (.slice A q.ts.length c) (.slice A2 q.os.length c2)).alloc (.cells #[.slice none 0 0, .slice none 0 0] 26)
  have x1 := Blk2s.new_ (w.alloc (.cells #[.slice A q.ts.length c, .slice A2 q.os.length c2] 26)) 26 (.slice none 0 0) (.slice none 0 0)
  rw [World.size_alloc] at x1
  go_enter Tryz.func69, Tryz.ntmps69
  go_upto_region 1 with fail
  obtain ⟨w1, hw1⟩ : ∃ w1, (w.alloc (.cells #[.slice A q.ts.length c, .slice A2 q.os.length c2] 26)).alloc (.cells #[.slice none 0 0, .slice none 0 0] 26) = w1 := ⟨_, rfl⟩
  rw [hw1] at b1 x0 x1 ⊢
  clear hw1
  obtain ⟨y0, y1, -⟩ := id x0.reads
  go_wp2_with fail
  refine (CVal.out _ b1).mono ?_
  rintro e w2 ⟨rfl, d⟩
  replace x0 := x0.later d
  replace x1 := x1.later d
  replace b1 := b1.trans (d.mono b1.size)
  clear y0 y1
  obtain ⟨y0, y1, -⟩ := id x0.reads
  cases bv with
  | false =>
    obtain ⟨rfl, rfl⟩ := HX.out.bad_ fun e => by have := HBV.out.2 e.1; cases this
    clear HX CVal CPar CCop CP2
    obtain ⟨t0, t1, tf⟩ := id x1.reads
    have tf0 := tf 0
    have tf1 := tf 1
    clear tf
    obtain ⟨p0, p1, -⟩ := ((x1.set0 (.slice none 0 0)).set1 (.slice none 0 0)).reads
    have b7 := (b1.setCell (p := ⟨w.heap.size + 1, 0, none⟩) (Nat.le_succ _) (.slice none 0 0)).setCell (p := ⟨w.heap.size + 1, 1, none⟩) (Nat.le_succ _) (.slice none 0 0)
    go_wp2
    exact bodyPost_ret (v := .tuple #[.agg #[.slice none 0 0, .slice none 0 0], .bool false]) (by simp [results, Tryz.results69, go_sem, p0, p1]) rfl ⟨_, _, rfl, OwnCr.none_ _ _, b7⟩
  | true =>
    have HVq := hid (HBV.out.1 rfl)
    go_wp2_with fail
    refine (CPar.out _ b1).mono ?_
    rintro e w2 ⟨rfl, d⟩
    replace x0 := x0.later d
    replace x1 := x1.later d
    replace b1 := b1.trans (d.mono b1.size)
    clear y0 y1
    obtain ⟨y0, y1, -⟩ := id x0.reads
    cases bp with
    | false =>
      obtain ⟨rfl, rfl⟩ := HX.out.bad_ fun e => by have := HBP.out.2 e.2; cases this
      clear HX CVal CPar CCop CP2
      obtain ⟨t0, t1, tf⟩ := id x1.reads
      have tf0 := tf 0
      have tf1 := tf 1
      clear tf
      obtain ⟨p0, p1, -⟩ := ((x1.set0 (.slice none 0 0)).set1 (.slice none 0 0)).reads
      have b7 := (b1.setCell (p := ⟨w.heap.size + 1, 0, none⟩) (Nat.le_succ _) (.slice none 0 0)).setCell (p := ⟨w.heap.size + 1, 1, none⟩) (Nat.le_succ _) (.slice none 0 0)
      go_wp2
      exact bodyPost_ret (v := .tuple #[.agg #[.slice none 0 0, .slice none 0 0], .bool false]) (by simp [results, Tryz.results69, go_sem, p0, p1]) rfl ⟨_, _, rfl, OwnCr.none_ _ _, b7⟩
    | true =>
      have HVp := hid (HBP.out.1 rfl)
      have zc := b1.size
      go_wp2_with fail
      refine (CCop.out _ b1).mono ?_
      rintro e w2 ⟨v2, col, rfl, o2, d⟩
      replace x0 := x0.later d
      replace x1 := x1.later d
      replace b1 := b1.trans (d.mono b1.size)
      clear y0 y1
      obtain ⟨y0, y1, -⟩ := id x0.reads
      obtain ⟨Ao, co, Ab, cb, rfl, -, -, -, -, -, -, -⟩ := o2.form
      unfold crV at o2 ⊢
      have HB2 : Hid (w.heap.size + 1 < w2.heap.size) := x1.lt
      replace o2 := o2.base (B' := w.heap.size) zc
      have d := (Below.refl w2.heap.size w2).alloc (Nat.le_refl _) (.cells #[.slice Ao q.ts.length co, .slice Ab q.os.length cb] 26)
      have x6 := Blk2s.new_ w2 26 (.slice Ao q.ts.length co) (.slice Ab q.os.length cb)
      replace o2 := o2.below d
      replace x0 := x0.later d
      replace x1 := x1.later d
      replace b1 := b1.trans (d.mono b1.size)
      clear y0 y1
      obtain ⟨y0, y1, -⟩ := id x0.reads
      go_upto_region 4 with fail
      obtain ⟨w3, hw3⟩ : ∃ x, w2.alloc (.cells #[.slice Ao q.ts.length co, .slice Ab q.os.length cb] 26) = x := ⟨_, rfl⟩
      obtain ⟨g, hg⟩ : ∃ x, w2.heap.size = x := ⟨_, rfl⟩
      rw [hw3] at x0 x1 b1 y0 y1 x6 o2 ⊢
      rw [hg] at x6 HB2 ⊢
      clear hw3 hg d
      by_cases h12 : q.ts.length < 12
      · obtain ⟨rfl, rfl⟩ := HX.out.yes_ HVq.out HVp.out h12
        have e1 : decide ((12 : Int) ≤ (q.ts.length : Int)) = false := decide_eq_false (by omega)
        have e2 : decide (12 ≤ q.ts.length) = false := decide_eq_false (by omega)
        have hz3 : w.heap.size ≤ w3.heap.size := b1.size
        have HC : Hid (∀ y, Below w3.heap.size w3 y → Calls Tryz.prog 97 #[.slice Ap ps.length cp] y (NewPs ps y)) := fun y hy => CP2.out y (b1.trans (hy.mono hz3))
        have HX6 : Hid (∀ y, Below w3.heap.size w3 y → Blk2s y g 26 (.slice Ao q.ts.length co) (.slice Ab q.os.length cb)) := fun y hy => x6.later hy
        have HO6 := hid o2
        have HG1 : Hid (w.heap.size ≤ g) := by have := HB2.out; show _ ≤ _; omega
        have HG2 : Hid (w.heap.size + 1 ≠ g) := by have := HB2.out; show _ ≠ _; omega
        clear HX CVal CPar CCop CP2 x6 o2 HVq HVp HBV HBP HB2
        go_upto_region 6 with fail
        have D : Below w3.heap.size w3 w3.drew := (Below.refl _ _).drew
        refine wp_region_held_drew (S := fun _ => True) (by kernel_rfl) trivial (fun hHeld => ?_)
        obtain ⟨W, hW⟩ : ∃ x, w3.drew = x := ⟨_, rfl⟩
        rw [hW] at D ⊢
        clear hW y0 y1 e1 e2
        try simp only [Act.put, List.getElem_toArray, List.getElem_cons_succ, List.getElem_cons_zero, List.setIfInBounds_toArray, List.set_cons_zero, List.set_cons_succ]
        refine wpAnyH_take (i := 0) (oi := _) (v := ?_) rfl (by kernel_rfl) (by kernel_rfl) (by kernel_rfl) (fun _ _ _ h => h) (Or.inl ⟨by rfl, ?_⟩) hHeld ?_
        rotate_left
        · (intro w' hSw; (try dsimp only at hSw); go_simp <;> with_reducible rfl)
        try simp only [Act.put, List.getElem_toArray, List.getElem_cons_succ, List.getElem_cons_zero, List.setIfInBounds_toArray, List.set_cons_zero, List.set_cons_succ]
        refine wpAnyH_take (i := 2) (oi := _) (v := ?_) rfl (by kernel_rfl) (by kernel_rfl) (by kernel_rfl) (fun _ _ _ h => h) (Or.inl ⟨by rfl, ?_⟩) hHeld ?_
        rotate_left
        · (intro w' hSw; (try dsimp only at hSw); go_simp <;> with_reducible rfl)
        try simp only [Act.put, List.getElem_toArray, List.getElem_cons_succ, List.getElem_cons_zero, List.setIfInBounds_toArray, List.set_cons_zero, List.set_cons_succ]
        refine wpAnyH_take (i := 4) (oi := _) (v := ?_) rfl (by kernel_rfl) (by kernel_rfl) (by kernel_rfl) (fun _ _ _ h => h) (Or.inl ⟨by rfl, ?_⟩) hHeld ?_
        rotate_left
        · (intro w' hSw; (try dsimp only at hSw); go_simp <;> with_reducible rfl)
        try simp only [Act.put, List.getElem_toArray, List.getElem_cons_succ, List.getElem_cons_zero, List.setIfInBounds_toArray, List.set_cons_zero, List.set_cons_succ]
        refine wpAnyH_take (i := 5) (oi := _) (v := ?_) rfl (by kernel_rfl) (by kernel_rfl) (by kernel_rfl) (fun _ _ _ h => h) (Or.inl ⟨by rfl, ?_⟩) hHeld ?_
        rotate_left
        · (intro w' hSw; (try dsimp only at hSw); go_simp <;> with_reducible rfl)
        try simp only [Act.put, List.getElem_toArray, List.getElem_cons_succ, List.getElem_cons_zero, List.setIfInBounds_toArray, List.set_cons_zero, List.set_cons_succ]
        refine wpAnyH_ready (rs := [1, 3, 6]) (by kernel_rfl) (by simp) (AllReadyH.cons (o := _) rfl (fun K hK => ?_) (AllReadyH.cons (o := _) rfl (fun K hK => ?_) (AllReadyH.cons (o := _) rfl (fun K hK => ?_) AllReadyH.nil)))
        · skip
          try simp only [Act.put, List.getElem_toArray, List.getElem_cons_succ, List.getElem_cons_zero, List.setIfInBounds_toArray, List.set_cons_zero, List.set_cons_succ]
          have yL := (HX6.out _ D).reads.1
          go_simp
          refine hK.out _ _ trivial (fun hHeld => ?_)
          clear hK K
          try simp only [Act.put, List.getElem_toArray, List.getElem_cons_succ, List.getElem_cons_zero, List.setIfInBounds_toArray, List.set_cons_zero, List.set_cons_succ]
          clear yL
          refine wpAnyH_ready (rs := [3, 6]) (by kernel_rfl) (by simp) (AllReadyH.cons (o := _) rfl (fun K hK => ?_) (AllReadyH.cons (o := _) rfl (fun K hK => ?_) AllReadyH.nil))
          · skip
            try simp only [Act.put, List.getElem_toArray, List.getElem_cons_succ, List.getElem_cons_zero, List.setIfInBounds_toArray, List.set_cons_zero, List.set_cons_succ]
            go_simp
            go_at_call 97
            refine (HC.out _ D).mono ?_
            rintro e W ⟨vp, rfl, op', d5⟩
            have op := op'.base D.size
            obtain ⟨Ap9, cp9, rfl, -, -⟩ := op.form
            try replace nv := OwnI.below nv d5 (Nat.le_refl _)
            replace D := D.trans (d5.mono D.size)
            clear op' d5
            refine hK.out _ _ trivial (fun hHeld => ?_)
            clear hK K
            try simp only [Act.put, List.getElem_toArray, List.getElem_cons_succ, List.getElem_cons_zero, List.setIfInBounds_toArray, List.set_cons_zero, List.set_cons_succ]
            refine wpAnyH_ready (rs := [6]) (by kernel_rfl) (by simp) (AllReadyH.cons (o := _) rfl (fun K hK => ?_) AllReadyH.nil)
            try simp only [Act.put, List.getElem_toArray, List.getElem_cons_succ, List.getElem_cons_zero, List.setIfInBounds_toArray, List.set_cons_zero, List.set_cons_succ]
            rw [if_pos (by rfl)]
            obtain ⟨gM, hgM⟩ : ∃ x, W.heap.size = x := ⟨_, rfl⟩
            refine op_make_full _ _ _ 24 rfl w3.heap.size 3 i1 (.int .i64 0) 1 Tryz.underlying24 hj hy0 hy1 .i64 .i64 ps.length (by rfl) (by rfl) (by rw [hy2]; omega) (by unfold maxLen; omega) D.size ?_
            intro W hown hg
            rw [made_ints, hgM] at hown
            rw [hgM]
            clear hgM
            replace D := D.grown hg D.size (fun j hj => by cases hj)
            try replace op := op.keptI hg (fun g e => by cases e)
            have nv : OwnI W w3.heap.size (.slice (some ⟨gM, 0, none⟩) ps.length ps.length) (List.replicate ps.length 0) := by unfold OwnI; rw [List.length_replicate]; exact hown
            clear hown hg
            refine hK.out _ _ trivial (fun hHeld => ?_)
            clear hK K
            try simp only [Act.put, List.getElem_toArray, List.getElem_cons_succ, List.getElem_cons_zero, List.setIfInBounds_toArray, List.set_cons_zero, List.set_cons_succ]
            refine wpAnyH_take (i := 7) (oi := _) (v := ?_) rfl (by kernel_rfl) (by kernel_rfl) (by kernel_rfl) (fun _ _ _ h => h) (Or.inl ⟨by rfl, ?_⟩) hHeld ?_
            rotate_left
            · (intro w' hSw; (try dsimp only at hSw); go_simp <;> with_reducible rfl)
            try simp only [Act.put, List.getElem_toArray, List.getElem_cons_succ, List.getElem_cons_zero, List.setIfInBounds_toArray, List.set_cons_zero, List.set_cons_succ]
            refine wpAnyH_ready (rs := [8]) (by kernel_rfl) (by simp) (AllReadyH.cons (o := _) rfl (fun K hK => ?_) AllReadyH.nil)
            try simp only [Act.put, List.getElem_toArray, List.getElem_cons_succ, List.getElem_cons_zero, List.setIfInBounds_toArray, List.set_cons_zero, List.set_cons_succ]
            obtain ⟨ys, hrow, HP⟩ := cr_more (t := fresh ps) HO6.out (HX6.out _ (Below.refl _ _)) D hz3 ⟨op, nv, fun _ _ => rfl⟩
            have HPP := hid HP
            have rA := row_three_ W (.slice Ap9 ps.length cp9) (.slice (some ⟨gM, 0, none⟩) ps.length ps.length) (.int .i64 0) 33
            have hrow' := World.ownsRow.alloc hrow (.cells #[.slice Ap9 ps.length cp9, .slice (some ⟨gM, 0, none⟩) ps.length ps.length, .int .i64 0] 33)
            replace D := D.trans (((Below.refl W.heap.size W).alloc (Nat.le_refl _) (.cells #[.slice Ap9 ps.length cp9, .slice (some ⟨gM, 0, none⟩) ps.length ps.length, .int .i64 0] 33)).mono D.size)
            clear HP hrow op nv
            go_simp
            refine hK.out _ _ trivial (fun hHeld => ?_)
            clear hK K
            try simp only [Act.put, List.getElem_toArray, List.getElem_cons_succ, List.getElem_cons_zero, List.setIfInBounds_toArray, List.set_cons_zero, List.set_cons_succ]
            refine wpAnyH_ready (rs := [9]) (by kernel_rfl) (by simp) (AllReadyH.cons (o := _) rfl (fun K hK => ?_) AllReadyH.nil)
            try simp only [Act.put, List.getElem_toArray, List.getElem_cons_succ, List.getElem_cons_zero, List.setIfInBounds_toArray, List.set_cons_zero, List.set_cons_succ]
            rw [if_pos (by rfl)]
            refine op_append_row2 _ (by rfl) _ _ 23 (by rfl) w.heap.size 33 i0 (.agg #[.slice none 0 0, .slice none 0 0, .int .i64 0]) 3 56 Tryz.underlying23 hi hz0 hz1 hz2 rfl (by decide) (.slice Ao q.ts.length co) q.ts.length ys (by rfl) hrow' _ (some ⟨W.heap.size, 0, none⟩) 1 1 [.slice Ap9 ps.length cp9, .slice (some ⟨gM, 0, none⟩) ps.length ps.length, .int .i64 0] (by rfl) rA rfl (tx_cells _ _ _ _ _ _ _) (by unfold maxLen; omega) (by omega) (Nat.le_trans hz3 D.size) ?_
            intro v7 W7 hown hg
            obtain ⟨Ao7, co7, col7, rfl, k3, HK, HB7, O8⟩ := HPP.out v7 W7 hown hg
            have k1 := k3.reads.1
            have kf := k3.reads.2.2 0
            have b7 := HB7 w w.heap.size b1 (Nat.le_refl _)
            replace x1 : Blk2s W7 (w.heap.size + 1) 26 (.slice none 0 0) (.slice none 0 0) := HK (by decide) x1.lt x1
            clear hown hg rA hrow' HPP HK HB7 b1
            refine hK.out _ _ trivial (fun hHeld => ?_)
            clear hK K
            try simp only [Act.put, List.getElem_toArray, List.getElem_cons_succ, List.getElem_cons_zero, List.setIfInBounds_toArray, List.set_cons_zero, List.set_cons_succ]
            refine wpAnyH_take (i := 10) (oi := _) (v := ?_) rfl (by kernel_rfl) (by kernel_rfl) (by kernel_rfl) (fun _ _ _ h => h) (Or.inl ⟨by rfl, ?_⟩) hHeld ?_
            rotate_left
            · (intro w' hSw; (try dsimp only at hSw); go_simp <;> with_reducible rfl)
            try simp only [Act.put, List.getElem_toArray, List.getElem_cons_succ, List.getElem_cons_zero, List.setIfInBounds_toArray, List.set_cons_zero, List.set_cons_succ]
            refine wpAnyH_ready (rs := [11]) (by kernel_rfl) (by simp) (AllReadyH.cons (o := _) rfl (fun K hK => ?_) AllReadyH.nil)
            try simp only [Act.put, List.getElem_toArray, List.getElem_cons_succ, List.getElem_cons_zero, List.setIfInBounds_toArray, List.set_cons_zero, List.set_cons_succ]
            go_simp
            refine hK.out _ _ trivial (fun hHeld => ?_)
            clear hK K
            try simp only [Act.put, List.getElem_toArray, List.getElem_cons_succ, List.getElem_cons_zero, List.setIfInBounds_toArray, List.set_cons_zero, List.set_cons_succ]
            refine wpAnyH_done (by kernel_rfl) ?_ _
            have b1 := b7.setCell (p := ⟨g, 0, none⟩) HG1.out (.slice Ao7 (q.ts.length + 1) co7)
            replace x1 := x1.far (p := ⟨g, 0, none⟩) HG2.out (.slice Ao7 (q.ts.length + 1) co7)
            have k9 := k3.set0 (.slice Ao7 (q.ts.length + 1) co7)
            obtain ⟨W9, hW9⟩ : ∃ x, W7.setCell ⟨g, 0, none⟩ (.slice Ao7 (q.ts.length + 1) co7) = x := ⟨_, rfl⟩
            rw [hW9] at b1 x1 k9 O8 ⊢
            have o9 := O8
            obtain ⟨u0, u1, -⟩ := id k9.reads
            clear hHeld k1 kf k3 b7 D hW9 O8 x0
            have x0 := trivial
            obtain ⟨t0, t1, tf⟩ := id x1.reads
            have tf0 := tf 0
            have tf1 := tf 1
            clear tf
            have o10 := (o9.keptT (by decide) (by decide) (by decide) (by decide) (but_set _ (w.heap.size + 1) 0 (.slice Ao7 (q.ts.length + 1) co7)) (blk_type x1)).keptT (by decide) (by decide) (by decide) (by decide) (but_set _ (w.heap.size + 1) 1 (.slice Ab q.os.length cb)) (blk_type (x1.set0 _))
            have b9 := (b1.setCell (p := ⟨w.heap.size + 1, 0, none⟩) (Nat.le_succ _) (.slice Ao7 (q.ts.length + 1) co7)).setCell (p := ⟨w.heap.size + 1, 1, none⟩) (Nat.le_succ _) (.slice Ab q.os.length cb)
            obtain ⟨p0, p1, -⟩ := ((x1.set0 (.slice Ao7 (q.ts.length + 1) co7)).set1 (.slice Ab q.os.length cb)).reads
            clear x0 x1 o9 b1
            go_wp2
            exact bodyPost_ret (v := .tuple #[.agg #[.slice Ao7 (q.ts.length + 1) co7, .slice Ab q.os.length cb], .bool true]) (by simp [results, Tryz.results69, go_sem, p0, p1]) rfl ⟨_, _, rfl, o10, b9⟩
          · skip
            try simp only [Act.put, List.getElem_toArray, List.getElem_cons_succ, List.getElem_cons_zero, List.setIfInBounds_toArray, List.set_cons_zero, List.set_cons_succ]
            rw [if_pos (by rfl)]
            obtain ⟨gM, hgM⟩ : ∃ x, W.heap.size = x := ⟨_, rfl⟩
            refine op_make_full _ _ _ 24 rfl w3.heap.size 3 i1 (.int .i64 0) 1 Tryz.underlying24 hj hy0 hy1 .i64 .i64 ps.length (by rfl) (by rfl) (by rw [hy2]; omega) (by unfold maxLen; omega) D.size ?_
            intro W hown hg
            rw [made_ints, hgM] at hown
            rw [hgM]
            clear hgM
            replace D := D.grown hg D.size (fun j hj => by cases hj)
            try replace op := op.keptI hg (fun g e => by cases e)
            have nv : OwnI W w3.heap.size (.slice (some ⟨gM, 0, none⟩) ps.length ps.length) (List.replicate ps.length 0) := by unfold OwnI; rw [List.length_replicate]; exact hown
            clear hown hg
            refine hK.out _ _ trivial (fun hHeld => ?_)
            clear hK K
            try simp only [Act.put, List.getElem_toArray, List.getElem_cons_succ, List.getElem_cons_zero, List.setIfInBounds_toArray, List.set_cons_zero, List.set_cons_succ]
            refine wpAnyH_ready (rs := [3]) (by kernel_rfl) (by simp) (AllReadyH.cons (o := _) rfl (fun K hK => ?_) AllReadyH.nil)
            try simp only [Act.put, List.getElem_toArray, List.getElem_cons_succ, List.getElem_cons_zero, List.setIfInBounds_toArray, List.set_cons_zero, List.set_cons_succ]
            go_simp
            go_at_call 97
            refine (HC.out _ D).mono ?_
            rintro e W ⟨vp, rfl, op', d5⟩
            have op := op'.base D.size
            obtain ⟨Ap9, cp9, rfl, -, -⟩ := op.form
            try replace nv := OwnI.below nv d5 (Nat.le_refl _)
            replace D := D.trans (d5.mono D.size)
            clear op' d5
            refine hK.out _ _ trivial (fun hHeld => ?_)
            clear hK K
            try simp only [Act.put, List.getElem_toArray, List.getElem_cons_succ, List.getElem_cons_zero, List.setIfInBounds_toArray, List.set_cons_zero, List.set_cons_succ]
            refine wpAnyH_take (i := 7) (oi := _) (v := ?_) rfl (by kernel_rfl) (by kernel_rfl) (by kernel_rfl) (fun _ _ _ h => h) (Or.inl ⟨by rfl, ?_⟩) hHeld ?_
            rotate_left
            · (intro w' hSw; (try dsimp only at hSw); go_simp <;> with_reducible rfl)
            try simp only [Act.put, List.getElem_toArray, List.getElem_cons_succ, List.getElem_cons_zero, List.setIfInBounds_toArray, List.set_cons_zero, List.set_cons_succ]
            refine wpAnyH_ready (rs := [8]) (by kernel_rfl) (by simp) (AllReadyH.cons (o := _) rfl (fun K hK => ?_) AllReadyH.nil)
            try simp only [Act.put, List.getElem_toArray, List.getElem_cons_succ, List.getElem_cons_zero, List.setIfInBounds_toArray, List.set_cons_zero, List.set_cons_succ]
            obtain ⟨ys, hrow, HP⟩ := cr_more (t := fresh ps) HO6.out (HX6.out _ (Below.refl _ _)) D hz3 ⟨op, nv, fun _ _ => rfl⟩
            have HPP := hid HP
            have rA := row_three_ W (.slice Ap9 ps.length cp9) (.slice (some ⟨gM, 0, none⟩) ps.length ps.length) (.int .i64 0) 33
            have hrow' := World.ownsRow.alloc hrow (.cells #[.slice Ap9 ps.length cp9, .slice (some ⟨gM, 0, none⟩) ps.length ps.length, .int .i64 0] 33)
            replace D := D.trans (((Below.refl W.heap.size W).alloc (Nat.le_refl _) (.cells #[.slice Ap9 ps.length cp9, .slice (some ⟨gM, 0, none⟩) ps.length ps.length, .int .i64 0] 33)).mono D.size)
            clear HP hrow op nv
            go_simp
            refine hK.out _ _ trivial (fun hHeld => ?_)
            clear hK K
            try simp only [Act.put, List.getElem_toArray, List.getElem_cons_succ, List.getElem_cons_zero, List.setIfInBounds_toArray, List.set_cons_zero, List.set_cons_succ]
            refine wpAnyH_ready (rs := [9]) (by kernel_rfl) (by simp) (AllReadyH.cons (o := _) rfl (fun K hK => ?_) AllReadyH.nil)
            try simp only [Act.put, List.getElem_toArray, List.getElem_cons_succ, List.getElem_cons_zero, List.setIfInBounds_toArray, List.set_cons_zero, List.set_cons_succ]
            rw [if_pos (by rfl)]
            refine op_append_row2 _ (by rfl) _ _ 23 (by rfl) w.heap.size 33 i0 (.agg #[.slice none 0 0, .slice none 0 0, .int .i64 0]) 3 56 Tryz.underlying23 hi hz0 hz1 hz2 rfl (by decide) (.slice Ao q.ts.length co) q.ts.length ys (by rfl) hrow' _ (some ⟨W.heap.size, 0, none⟩) 1 1 [.slice Ap9 ps.length cp9, .slice (some ⟨gM, 0, none⟩) ps.length ps.length, .int .i64 0] (by rfl) rA rfl (tx_cells _ _ _ _ _ _ _) (by unfold maxLen; omega) (by omega) (Nat.le_trans hz3 D.size) ?_
            intro v7 W7 hown hg
            obtain ⟨Ao7, co7, col7, rfl, k3, HK, HB7, O8⟩ := HPP.out v7 W7 hown hg
            have k1 := k3.reads.1
            have kf := k3.reads.2.2 0
            have b7 := HB7 w w.heap.size b1 (Nat.le_refl _)
            replace x1 : Blk2s W7 (w.heap.size + 1) 26 (.slice none 0 0) (.slice none 0 0) := HK (by decide) x1.lt x1
            clear hown hg rA hrow' HPP HK HB7 b1
            refine hK.out _ _ trivial (fun hHeld => ?_)
            clear hK K
            try simp only [Act.put, List.getElem_toArray, List.getElem_cons_succ, List.getElem_cons_zero, List.setIfInBounds_toArray, List.set_cons_zero, List.set_cons_succ]
            refine wpAnyH_take (i := 10) (oi := _) (v := ?_) rfl (by kernel_rfl) (by kernel_rfl) (by kernel_rfl) (fun _ _ _ h => h) (Or.inl ⟨by rfl, ?_⟩) hHeld ?_
            rotate_left
            · (intro w' hSw; (try dsimp only at hSw); go_simp <;> with_reducible rfl)
            try simp only [Act.put, List.getElem_toArray, List.getElem_cons_succ, List.getElem_cons_zero, List.setIfInBounds_toArray, List.set_cons_zero, List.set_cons_succ]
            refine wpAnyH_ready (rs := [11]) (by kernel_rfl) (by simp) (AllReadyH.cons (o := _) rfl (fun K hK => ?_) AllReadyH.nil)
            try simp only [Act.put, List.getElem_toArray, List.getElem_cons_succ, List.getElem_cons_zero, List.setIfInBounds_toArray, List.set_cons_zero, List.set_cons_succ]
            go_simp
            refine hK.out _ _ trivial (fun hHeld => ?_)
            clear hK K
            try simp only [Act.put, List.getElem_toArray, List.getElem_cons_succ, List.getElem_cons_zero, List.setIfInBounds_toArray, List.set_cons_zero, List.set_cons_succ]
            refine wpAnyH_done (by kernel_rfl) ?_ _
            have b1 := b7.setCell (p := ⟨g, 0, none⟩) HG1.out (.slice Ao7 (q.ts.length + 1) co7)
            replace x1 := x1.far (p := ⟨g, 0, none⟩) HG2.out (.slice Ao7 (q.ts.length + 1) co7)
            have k9 := k3.set0 (.slice Ao7 (q.ts.length + 1) co7)
            obtain ⟨W9, hW9⟩ : ∃ x, W7.setCell ⟨g, 0, none⟩ (.slice Ao7 (q.ts.length + 1) co7) = x := ⟨_, rfl⟩
            rw [hW9] at b1 x1 k9 O8 ⊢
            have o9 := O8
            obtain ⟨u0, u1, -⟩ := id k9.reads
            clear hHeld k1 kf k3 b7 D hW9 O8 x0
            have x0 := trivial
            obtain ⟨t0, t1, tf⟩ := id x1.reads
            have tf0 := tf 0
            have tf1 := tf 1
            clear tf
            have o10 := (o9.keptT (by decide) (by decide) (by decide) (by decide) (but_set _ (w.heap.size + 1) 0 (.slice Ao7 (q.ts.length + 1) co7)) (blk_type x1)).keptT (by decide) (by decide) (by decide) (by decide) (but_set _ (w.heap.size + 1) 1 (.slice Ab q.os.length cb)) (blk_type (x1.set0 _))
            have b9 := (b1.setCell (p := ⟨w.heap.size + 1, 0, none⟩) (Nat.le_succ _) (.slice Ao7 (q.ts.length + 1) co7)).setCell (p := ⟨w.heap.size + 1, 1, none⟩) (Nat.le_succ _) (.slice Ab q.os.length cb)
            obtain ⟨p0, p1, -⟩ := ((x1.set0 (.slice Ao7 (q.ts.length + 1) co7)).set1 (.slice Ab q.os.length cb)).reads
            clear x0 x1 o9 b1
            go_wp2
            exact bodyPost_ret (v := .tuple #[.agg #[.slice Ao7 (q.ts.length + 1) co7, .slice Ab q.os.length cb], .bool true]) (by simp [results, Tryz.results69, go_sem, p0, p1]) rfl ⟨_, _, rfl, o10, b9⟩
        · skip
          try simp only [Act.put, List.getElem_toArray, List.getElem_cons_succ, List.getElem_cons_zero, List.setIfInBounds_toArray, List.set_cons_zero, List.set_cons_succ]
          go_simp
          go_at_call 97
          refine (HC.out _ D).mono ?_
          rintro e W ⟨vp, rfl, op', d5⟩
          have op := op'.base D.size
          obtain ⟨Ap9, cp9, rfl, -, -⟩ := op.form
          try replace nv := OwnI.below nv d5 (Nat.le_refl _)
          replace D := D.trans (d5.mono D.size)
          clear op' d5
          refine hK.out _ _ trivial (fun hHeld => ?_)
          clear hK K
          try simp only [Act.put, List.getElem_toArray, List.getElem_cons_succ, List.getElem_cons_zero, List.setIfInBounds_toArray, List.set_cons_zero, List.set_cons_succ]
          refine wpAnyH_ready (rs := [1, 6]) (by kernel_rfl) (by simp) (AllReadyH.cons (o := _) rfl (fun K hK => ?_) (AllReadyH.cons (o := _) rfl (fun K hK => ?_) AllReadyH.nil))
          · skip
            try simp only [Act.put, List.getElem_toArray, List.getElem_cons_succ, List.getElem_cons_zero, List.setIfInBounds_toArray, List.set_cons_zero, List.set_cons_succ]
            have yL := (HX6.out _ D).reads.1
            go_simp
            refine hK.out _ _ trivial (fun hHeld => ?_)
            clear hK K
            try simp only [Act.put, List.getElem_toArray, List.getElem_cons_succ, List.getElem_cons_zero, List.setIfInBounds_toArray, List.set_cons_zero, List.set_cons_succ]
            clear yL
            refine wpAnyH_ready (rs := [6]) (by kernel_rfl) (by simp) (AllReadyH.cons (o := _) rfl (fun K hK => ?_) AllReadyH.nil)
            try simp only [Act.put, List.getElem_toArray, List.getElem_cons_succ, List.getElem_cons_zero, List.setIfInBounds_toArray, List.set_cons_zero, List.set_cons_succ]
            rw [if_pos (by rfl)]
            obtain ⟨gM, hgM⟩ : ∃ x, W.heap.size = x := ⟨_, rfl⟩
            refine op_make_full _ _ _ 24 rfl w3.heap.size 3 i1 (.int .i64 0) 1 Tryz.underlying24 hj hy0 hy1 .i64 .i64 ps.length (by rfl) (by rfl) (by rw [hy2]; omega) (by unfold maxLen; omega) D.size ?_
            intro W hown hg
            rw [made_ints, hgM] at hown
            rw [hgM]
            clear hgM
            replace D := D.grown hg D.size (fun j hj => by cases hj)
            try replace op := op.keptI hg (fun g e => by cases e)
            have nv : OwnI W w3.heap.size (.slice (some ⟨gM, 0, none⟩) ps.length ps.length) (List.replicate ps.length 0) := by unfold OwnI; rw [List.length_replicate]; exact hown
            clear hown hg
            refine hK.out _ _ trivial (fun hHeld => ?_)
            clear hK K
            try simp only [Act.put, List.getElem_toArray, List.getElem_cons_succ, List.getElem_cons_zero, List.setIfInBounds_toArray, List.set_cons_zero, List.set_cons_succ]
            refine wpAnyH_take (i := 7) (oi := _) (v := ?_) rfl (by kernel_rfl) (by kernel_rfl) (by kernel_rfl) (fun _ _ _ h => h) (Or.inl ⟨by rfl, ?_⟩) hHeld ?_
            rotate_left
            · (intro w' hSw; (try dsimp only at hSw); go_simp <;> with_reducible rfl)
            try simp only [Act.put, List.getElem_toArray, List.getElem_cons_succ, List.getElem_cons_zero, List.setIfInBounds_toArray, List.set_cons_zero, List.set_cons_succ]
            refine wpAnyH_ready (rs := [8]) (by kernel_rfl) (by simp) (AllReadyH.cons (o := _) rfl (fun K hK => ?_) AllReadyH.nil)
            try simp only [Act.put, List.getElem_toArray, List.getElem_cons_succ, List.getElem_cons_zero, List.setIfInBounds_toArray, List.set_cons_zero, List.set_cons_succ]
            obtain ⟨ys, hrow, HP⟩ := cr_more (t := fresh ps) HO6.out (HX6.out _ (Below.refl _ _)) D hz3 ⟨op, nv, fun _ _ => rfl⟩
            have HPP := hid HP
            have rA := row_three_ W (.slice Ap9 ps.length cp9) (.slice (some ⟨gM, 0, none⟩) ps.length ps.length) (.int .i64 0) 33
            have hrow' := World.ownsRow.alloc hrow (.cells #[.slice Ap9 ps.length cp9, .slice (some ⟨gM, 0, none⟩) ps.length ps.length, .int .i64 0] 33)
            replace D := D.trans (((Below.refl W.heap.size W).alloc (Nat.le_refl _) (.cells #[.slice Ap9 ps.length cp9, .slice (some ⟨gM, 0, none⟩) ps.length ps.length, .int .i64 0] 33)).mono D.size)
            clear HP hrow op nv
            go_simp
            refine hK.out _ _ trivial (fun hHeld => ?_)
            clear hK K
            try simp only [Act.put, List.getElem_toArray, List.getElem_cons_succ, List.getElem_cons_zero, List.setIfInBounds_toArray, List.set_cons_zero, List.set_cons_succ]
            refine wpAnyH_ready (rs := [9]) (by kernel_rfl) (by simp) (AllReadyH.cons (o := _) rfl (fun K hK => ?_) AllReadyH.nil)
            try simp only [Act.put, List.getElem_toArray, List.getElem_cons_succ, List.getElem_cons_zero, List.setIfInBounds_toArray, List.set_cons_zero, List.set_cons_succ]
            rw [if_pos (by rfl)]
            refine op_append_row2 _ (by rfl) _ _ 23 (by rfl) w.heap.size 33 i0 (.agg #[.slice none 0 0, .slice none 0 0, .int .i64 0]) 3 56 Tryz.underlying23 hi hz0 hz1 hz2 rfl (by decide) (.slice Ao q.ts.length co) q.ts.length ys (by rfl) hrow' _ (some ⟨W.heap.size, 0, none⟩) 1 1 [.slice Ap9 ps.length cp9, .slice (some ⟨gM, 0, none⟩) ps.length ps.length, .int .i64 0] (by rfl) rA rfl (tx_cells _ _ _ _ _ _ _) (by unfold maxLen; omega) (by omega) (Nat.le_trans hz3 D.size) ?_
            intro v7 W7 hown hg
            obtain ⟨Ao7, co7, col7, rfl, k3, HK, HB7, O8⟩ := HPP.out v7 W7 hown hg
            have k1 := k3.reads.1
            have kf := k3.reads.2.2 0
            have b7 := HB7 w w.heap.size b1 (Nat.le_refl _)
            replace x1 : Blk2s W7 (w.heap.size + 1) 26 (.slice none 0 0) (.slice none 0 0) := HK (by decide) x1.lt x1
            clear hown hg rA hrow' HPP HK HB7 b1
            refine hK.out _ _ trivial (fun hHeld => ?_)
            clear hK K
            try simp only [Act.put, List.getElem_toArray, List.getElem_cons_succ, List.getElem_cons_zero, List.setIfInBounds_toArray, List.set_cons_zero, List.set_cons_succ]
            refine wpAnyH_take (i := 10) (oi := _) (v := ?_) rfl (by kernel_rfl) (by kernel_rfl) (by kernel_rfl) (fun _ _ _ h => h) (Or.inl ⟨by rfl, ?_⟩) hHeld ?_
            rotate_left
            · (intro w' hSw; (try dsimp only at hSw); go_simp <;> with_reducible rfl)
            try simp only [Act.put, List.getElem_toArray, List.getElem_cons_succ, List.getElem_cons_zero, List.setIfInBounds_toArray, List.set_cons_zero, List.set_cons_succ]
            refine wpAnyH_ready (rs := [11]) (by kernel_rfl) (by simp) (AllReadyH.cons (o := _) rfl (fun K hK => ?_) AllReadyH.nil)
            try simp only [Act.put, List.getElem_toArray, List.getElem_cons_succ, List.getElem_cons_zero, List.setIfInBounds_toArray, List.set_cons_zero, List.set_cons_succ]
            go_simp
            refine hK.out _ _ trivial (fun hHeld => ?_)
            clear hK K
            try simp only [Act.put, List.getElem_toArray, List.getElem_cons_succ, List.getElem_cons_zero, List.setIfInBounds_toArray, List.set_cons_zero, List.set_cons_succ]
            refine wpAnyH_done (by kernel_rfl) ?_ _
            have b1 := b7.setCell (p := ⟨g, 0, none⟩) HG1.out (.slice Ao7 (q.ts.length + 1) co7)
            replace x1 := x1.far (p := ⟨g, 0, none⟩) HG2.out (.slice Ao7 (q.ts.length + 1) co7)
            have k9 := k3.set0 (.slice Ao7 (q.ts.length + 1) co7)
            obtain ⟨W9, hW9⟩ : ∃ x, W7.setCell ⟨g, 0, none⟩ (.slice Ao7 (q.ts.length + 1) co7) = x := ⟨_, rfl⟩
            rw [hW9] at b1 x1 k9 O8 ⊢
            have o9 := O8
            obtain ⟨u0, u1, -⟩ := id k9.reads
            clear hHeld k1 kf k3 b7 D hW9 O8 x0
            have x0 := trivial
            obtain ⟨t0, t1, tf⟩ := id x1.reads
            have tf0 := tf 0
            have tf1 := tf 1
            clear tf
            have o10 := (o9.keptT (by decide) (by decide) (by decide) (by decide) (but_set _ (w.heap.size + 1) 0 (.slice Ao7 (q.ts.length + 1) co7)) (blk_type x1)).keptT (by decide) (by decide) (by decide) (by decide) (but_set _ (w.heap.size + 1) 1 (.slice Ab q.os.length cb)) (blk_type (x1.set0 _))
            have b9 := (b1.setCell (p := ⟨w.heap.size + 1, 0, none⟩) (Nat.le_succ _) (.slice Ao7 (q.ts.length + 1) co7)).setCell (p := ⟨w.heap.size + 1, 1, none⟩) (Nat.le_succ _) (.slice Ab q.os.length cb)
            obtain ⟨p0, p1, -⟩ := ((x1.set0 (.slice Ao7 (q.ts.length + 1) co7)).set1 (.slice Ab q.os.length cb)).reads
            clear x0 x1 o9 b1
            go_wp2
            exact bodyPost_ret (v := .tuple #[.agg #[.slice Ao7 (q.ts.length + 1) co7, .slice Ab q.os.length cb], .bool true]) (by simp [results, Tryz.results69, go_sem, p0, p1]) rfl ⟨_, _, rfl, o10, b9⟩
          · skip
            try simp only [Act.put, List.getElem_toArray, List.getElem_cons_succ, List.getElem_cons_zero, List.setIfInBounds_toArray, List.set_cons_zero, List.set_cons_succ]
            rw [if_pos (by rfl)]
            obtain ⟨gM, hgM⟩ : ∃ x, W.heap.size = x := ⟨_, rfl⟩
            refine op_make_full _ _ _ 24 rfl w3.heap.size 3 i1 (.int .i64 0) 1 Tryz.underlying24 hj hy0 hy1 .i64 .i64 ps.length (by rfl) (by rfl) (by rw [hy2]; omega) (by unfold maxLen; omega) D.size ?_
            intro W hown hg
            rw [made_ints, hgM] at hown
            rw [hgM]
            clear hgM
            replace D := D.grown hg D.size (fun j hj => by cases hj)
            try replace op := op.keptI hg (fun g e => by cases e)
            have nv : OwnI W w3.heap.size (.slice (some ⟨gM, 0, none⟩) ps.length ps.length) (List.replicate ps.length 0) := by unfold OwnI; rw [List.length_replicate]; exact hown
            clear hown hg
            refine hK.out _ _ trivial (fun hHeld => ?_)
            clear hK K
            try simp only [Act.put, List.getElem_toArray, List.getElem_cons_succ, List.getElem_cons_zero, List.setIfInBounds_toArray, List.set_cons_zero, List.set_cons_succ]
            refine wpAnyH_take (i := 7) (oi := _) (v := ?_) rfl (by kernel_rfl) (by kernel_rfl) (by kernel_rfl) (fun _ _ _ h => h) (Or.inl ⟨by rfl, ?_⟩) hHeld ?_
            rotate_left
            · (intro w' hSw; (try dsimp only at hSw); go_simp <;> with_reducible rfl)
            try simp only [Act.put, List.getElem_toArray, List.getElem_cons_succ, List.getElem_cons_zero, List.setIfInBounds_toArray, List.set_cons_zero, List.set_cons_succ]
            refine wpAnyH_ready (rs := [1, 8]) (by kernel_rfl) (by simp) (AllReadyH.cons (o := _) rfl (fun K hK => ?_) (AllReadyH.cons (o := _) rfl (fun K hK => ?_) AllReadyH.nil))
            · skip
              try simp only [Act.put, List.getElem_toArray, List.getElem_cons_succ, List.getElem_cons_zero, List.setIfInBounds_toArray, List.set_cons_zero, List.set_cons_succ]
              have yL := (HX6.out _ D).reads.1
              go_simp
              refine hK.out _ _ trivial (fun hHeld => ?_)
              clear hK K
              try simp only [Act.put, List.getElem_toArray, List.getElem_cons_succ, List.getElem_cons_zero, List.setIfInBounds_toArray, List.set_cons_zero, List.set_cons_succ]
              clear yL
              refine wpAnyH_ready (rs := [8]) (by kernel_rfl) (by simp) (AllReadyH.cons (o := _) rfl (fun K hK => ?_) AllReadyH.nil)
              try simp only [Act.put, List.getElem_toArray, List.getElem_cons_succ, List.getElem_cons_zero, List.setIfInBounds_toArray, List.set_cons_zero, List.set_cons_succ]
              obtain ⟨ys, hrow, HP⟩ := cr_more (t := fresh ps) HO6.out (HX6.out _ (Below.refl _ _)) D hz3 ⟨op, nv, fun _ _ => rfl⟩
              have HPP := hid HP
              have rA := row_three_ W (.slice Ap9 ps.length cp9) (.slice (some ⟨gM, 0, none⟩) ps.length ps.length) (.int .i64 0) 33
              have hrow' := World.ownsRow.alloc hrow (.cells #[.slice Ap9 ps.length cp9, .slice (some ⟨gM, 0, none⟩) ps.length ps.length, .int .i64 0] 33)
              replace D := D.trans (((Below.refl W.heap.size W).alloc (Nat.le_refl _) (.cells #[.slice Ap9 ps.length cp9, .slice (some ⟨gM, 0, none⟩) ps.length ps.length, .int .i64 0] 33)).mono D.size)
              clear HP hrow op nv
              go_simp
              refine hK.out _ _ trivial (fun hHeld => ?_)
              clear hK K
              try simp only [Act.put, List.getElem_toArray, List.getElem_cons_succ, List.getElem_cons_zero, List.setIfInBounds_toArray, List.set_cons_zero, List.set_cons_succ]
              refine wpAnyH_ready (rs := [9]) (by kernel_rfl) (by simp) (AllReadyH.cons (o := _) rfl (fun K hK => ?_) AllReadyH.nil)
              try simp only [Act.put, List.getElem_toArray, List.getElem_cons_succ, List.getElem_cons_zero, List.setIfInBounds_toArray, List.set_cons_zero, List.set_cons_succ]
              rw [if_pos (by rfl)]
              refine op_append_row2 _ (by rfl) _ _ 23 (by rfl) w.heap.size 33 i0 (.agg #[.slice none 0 0, .slice none 0 0, .int .i64 0]) 3 56 Tryz.underlying23 hi hz0 hz1 hz2 rfl (by decide) (.slice Ao q.ts.length co) q.ts.length ys (by rfl) hrow' _ (some ⟨W.heap.size, 0, none⟩) 1 1 [.slice Ap9 ps.length cp9, .slice (some ⟨gM, 0, none⟩) ps.length ps.length, .int .i64 0] (by rfl) rA rfl (tx_cells _ _ _ _ _ _ _) (by unfold maxLen; omega) (by omega) (Nat.le_trans hz3 D.size) ?_
              intro v7 W7 hown hg
              obtain ⟨Ao7, co7, col7, rfl, k3, HK, HB7, O8⟩ := HPP.out v7 W7 hown hg
              have k1 := k3.reads.1
              have kf := k3.reads.2.2 0
              have b7 := HB7 w w.heap.size b1 (Nat.le_refl _)
              replace x1 : Blk2s W7 (w.heap.size + 1) 26 (.slice none 0 0) (.slice none 0 0) := HK (by decide) x1.lt x1
              clear hown hg rA hrow' HPP HK HB7 b1
              refine hK.out _ _ trivial (fun hHeld => ?_)
              clear hK K
              try simp only [Act.put, List.getElem_toArray, List.getElem_cons_succ, List.getElem_cons_zero, List.setIfInBounds_toArray, List.set_cons_zero, List.set_cons_succ]
              refine wpAnyH_take (i := 10) (oi := _) (v := ?_) rfl (by kernel_rfl) (by kernel_rfl) (by kernel_rfl) (fun _ _ _ h => h) (Or.inl ⟨by rfl, ?_⟩) hHeld ?_
              rotate_left
              · (intro w' hSw; (try dsimp only at hSw); go_simp <;> with_reducible rfl)
              try simp only [Act.put, List.getElem_toArray, List.getElem_cons_succ, List.getElem_cons_zero, List.setIfInBounds_toArray, List.set_cons_zero, List.set_cons_succ]
              refine wpAnyH_ready (rs := [11]) (by kernel_rfl) (by simp) (AllReadyH.cons (o := _) rfl (fun K hK => ?_) AllReadyH.nil)
              try simp only [Act.put, List.getElem_toArray, List.getElem_cons_succ, List.getElem_cons_zero, List.setIfInBounds_toArray, List.set_cons_zero, List.set_cons_succ]
              go_simp
              refine hK.out _ _ trivial (fun hHeld => ?_)
              clear hK K
              try simp only [Act.put, List.getElem_toArray, List.getElem_cons_succ, List.getElem_cons_zero, List.setIfInBounds_toArray, List.set_cons_zero, List.set_cons_succ]
              refine wpAnyH_done (by kernel_rfl) ?_ _
              have b1 := b7.setCell (p := ⟨g, 0, none⟩) HG1.out (.slice Ao7 (q.ts.length + 1) co7)
              replace x1 := x1.far (p := ⟨g, 0, none⟩) HG2.out (.slice Ao7 (q.ts.length + 1) co7)
              have k9 := k3.set0 (.slice Ao7 (q.ts.length + 1) co7)
              obtain ⟨W9, hW9⟩ : ∃ x, W7.setCell ⟨g, 0, none⟩ (.slice Ao7 (q.ts.length + 1) co7) = x := ⟨_, rfl⟩
              rw [hW9] at b1 x1 k9 O8 ⊢
              have o9 := O8
              obtain ⟨u0, u1, -⟩ := id k9.reads
              clear hHeld k1 kf k3 b7 D hW9 O8 x0
              have x0 := trivial
              obtain ⟨t0, t1, tf⟩ := id x1.reads
              have tf0 := tf 0
              have tf1 := tf 1
              clear tf
              have o10 := (o9.keptT (by decide) (by decide) (by decide) (by decide) (but_set _ (w.heap.size + 1) 0 (.slice Ao7 (q.ts.length + 1) co7)) (blk_type x1)).keptT (by decide) (by decide) (by decide) (by decide) (but_set _ (w.heap.size + 1) 1 (.slice Ab q.os.length cb)) (blk_type (x1.set0 _))
              have b9 := (b1.setCell (p := ⟨w.heap.size + 1, 0, none⟩) (Nat.le_succ _) (.slice Ao7 (q.ts.length + 1) co7)).setCell (p := ⟨w.heap.size + 1, 1, none⟩) (Nat.le_succ _) (.slice Ab q.os.length cb)
              obtain ⟨p0, p1, -⟩ := ((x1.set0 (.slice Ao7 (q.ts.length + 1) co7)).set1 (.slice Ab q.os.length cb)).reads
              clear x0 x1 o9 b1
              go_wp2
              exact bodyPost_ret (v := .tuple #[.agg #[.slice Ao7 (q.ts.length + 1) co7, .slice Ab q.os.length cb], .bool true]) (by simp [results, Tryz.results69, go_sem, p0, p1]) rfl ⟨_, _, rfl, o10, b9⟩
            · skip
              try simp only [Act.put, List.getElem_toArray, List.getElem_cons_succ, List.getElem_cons_zero, List.setIfInBounds_toArray, List.set_cons_zero, List.set_cons_succ]
              obtain ⟨ys, hrow, HP⟩ := cr_more (t := fresh ps) HO6.out (HX6.out _ (Below.refl _ _)) D hz3 ⟨op, nv, fun _ _ => rfl⟩
              have HPP := hid HP
              have rA := row_three_ W (.slice Ap9 ps.length cp9) (.slice (some ⟨gM, 0, none⟩) ps.length ps.length) (.int .i64 0) 33
              have hrow' := World.ownsRow.alloc hrow (.cells #[.slice Ap9 ps.length cp9, .slice (some ⟨gM, 0, none⟩) ps.length ps.length, .int .i64 0] 33)
              replace D := D.trans (((Below.refl W.heap.size W).alloc (Nat.le_refl _) (.cells #[.slice Ap9 ps.length cp9, .slice (some ⟨gM, 0, none⟩) ps.length ps.length, .int .i64 0] 33)).mono D.size)
              clear HP hrow op nv
              go_simp
              refine hK.out _ _ trivial (fun hHeld => ?_)
              clear hK K
              try simp only [Act.put, List.getElem_toArray, List.getElem_cons_succ, List.getElem_cons_zero, List.setIfInBounds_toArray, List.set_cons_zero, List.set_cons_succ]
              refine wpAnyH_ready (rs := [1]) (by kernel_rfl) (by simp) (AllReadyH.cons (o := _) rfl (fun K hK => ?_) AllReadyH.nil)
              try simp only [Act.put, List.getElem_toArray, List.getElem_cons_succ, List.getElem_cons_zero, List.setIfInBounds_toArray, List.set_cons_zero, List.set_cons_succ]
              have yL := (HX6.out _ D).reads.1
              go_simp
              refine hK.out _ _ trivial (fun hHeld => ?_)
              clear hK K
              try simp only [Act.put, List.getElem_toArray, List.getElem_cons_succ, List.getElem_cons_zero, List.setIfInBounds_toArray, List.set_cons_zero, List.set_cons_succ]
              clear yL
              refine wpAnyH_ready (rs := [9]) (by kernel_rfl) (by simp) (AllReadyH.cons (o := _) rfl (fun K hK => ?_) AllReadyH.nil)
              try simp only [Act.put, List.getElem_toArray, List.getElem_cons_succ, List.getElem_cons_zero, List.setIfInBounds_toArray, List.set_cons_zero, List.set_cons_succ]
              rw [if_pos (by rfl)]
              refine op_append_row2 _ (by rfl) _ _ 23 (by rfl) w.heap.size 33 i0 (.agg #[.slice none 0 0, .slice none 0 0, .int .i64 0]) 3 56 Tryz.underlying23 hi hz0 hz1 hz2 rfl (by decide) (.slice Ao q.ts.length co) q.ts.length ys (by rfl) hrow' _ (some ⟨W.heap.size, 0, none⟩) 1 1 [.slice Ap9 ps.length cp9, .slice (some ⟨gM, 0, none⟩) ps.length ps.length, .int .i64 0] (by rfl) rA rfl (tx_cells _ _ _ _ _ _ _) (by unfold maxLen; omega) (by omega) (Nat.le_trans hz3 D.size) ?_
              intro v7 W7 hown hg
              obtain ⟨Ao7, co7, col7, rfl, k3, HK, HB7, O8⟩ := HPP.out v7 W7 hown hg
              have k1 := k3.reads.1
              have kf := k3.reads.2.2 0
              have b7 := HB7 w w.heap.size b1 (Nat.le_refl _)
              replace x1 : Blk2s W7 (w.heap.size + 1) 26 (.slice none 0 0) (.slice none 0 0) := HK (by decide) x1.lt x1
              clear hown hg rA hrow' HPP HK HB7 b1
              refine hK.out _ _ trivial (fun hHeld => ?_)
              clear hK K
              try simp only [Act.put, List.getElem_toArray, List.getElem_cons_succ, List.getElem_cons_zero, List.setIfInBounds_toArray, List.set_cons_zero, List.set_cons_succ]
              refine wpAnyH_take (i := 10) (oi := _) (v := ?_) rfl (by kernel_rfl) (by kernel_rfl) (by kernel_rfl) (fun _ _ _ h => h) (Or.inl ⟨by rfl, ?_⟩) hHeld ?_
              rotate_left
              · (intro w' hSw; (try dsimp only at hSw); go_simp <;> with_reducible rfl)
              try simp only [Act.put, List.getElem_toArray, List.getElem_cons_succ, List.getElem_cons_zero, List.setIfInBounds_toArray, List.set_cons_zero, List.set_cons_succ]
              refine wpAnyH_ready (rs := [11]) (by kernel_rfl) (by simp) (AllReadyH.cons (o := _) rfl (fun K hK => ?_) AllReadyH.nil)
              try simp only [Act.put, List.getElem_toArray, List.getElem_cons_succ, List.getElem_cons_zero, List.setIfInBounds_toArray, List.set_cons_zero, List.set_cons_succ]
              go_simp
              refine hK.out _ _ trivial (fun hHeld => ?_)
              clear hK K
              try simp only [Act.put, List.getElem_toArray, List.getElem_cons_succ, List.getElem_cons_zero, List.setIfInBounds_toArray, List.set_cons_zero, List.set_cons_succ]
              refine wpAnyH_done (by kernel_rfl) ?_ _
              have b1 := b7.setCell (p := ⟨g, 0, none⟩) HG1.out (.slice Ao7 (q.ts.length + 1) co7)
              replace x1 := x1.far (p := ⟨g, 0, none⟩) HG2.out (.slice Ao7 (q.ts.length + 1) co7)
              have k9 := k3.set0 (.slice Ao7 (q.ts.length + 1) co7)
              obtain ⟨W9, hW9⟩ : ∃ x, W7.setCell ⟨g, 0, none⟩ (.slice Ao7 (q.ts.length + 1) co7) = x := ⟨_, rfl⟩
              rw [hW9] at b1 x1 k9 O8 ⊢
              have o9 := O8
              obtain ⟨u0, u1, -⟩ := id k9.reads
              clear hHeld k1 kf k3 b7 D hW9 O8 x0
              have x0 := trivial
              obtain ⟨t0, t1, tf⟩ := id x1.reads
              have tf0 := tf 0
              have tf1 := tf 1
              clear tf
              have o10 := (o9.keptT (by decide) (by decide) (by decide) (by decide) (but_set _ (w.heap.size + 1) 0 (.slice Ao7 (q.ts.length + 1) co7)) (blk_type x1)).keptT (by decide) (by decide) (by decide) (by decide) (but_set _ (w.heap.size + 1) 1 (.slice Ab q.os.length cb)) (blk_type (x1.set0 _))
              have b9 := (b1.setCell (p := ⟨w.heap.size + 1, 0, none⟩) (Nat.le_succ _) (.slice Ao7 (q.ts.length + 1) co7)).setCell (p := ⟨w.heap.size + 1, 1, none⟩) (Nat.le_succ _) (.slice Ab q.os.length cb)
              obtain ⟨p0, p1, -⟩ := ((x1.set0 (.slice Ao7 (q.ts.length + 1) co7)).set1 (.slice Ab q.os.length cb)).reads
              clear x0 x1 o9 b1
              go_wp2
              exact bodyPost_ret (v := .tuple #[.agg #[.slice Ao7 (q.ts.length + 1) co7, .slice Ab q.os.length cb], .bool true]) (by simp [results, Tryz.results69, go_sem, p0, p1]) rfl ⟨_, _, rfl, o10, b9⟩
        · skip
          try simp only [Act.put, List.getElem_toArray, List.getElem_cons_succ, List.getElem_cons_zero, List.setIfInBounds_toArray, List.set_cons_zero, List.set_cons_succ]
          rw [if_pos (by rfl)]
          obtain ⟨gM, hgM⟩ : ∃ x, W.heap.size = x := ⟨_, rfl⟩
          refine op_make_full _ _ _ 24 rfl w3.heap.size 3 i1 (.int .i64 0) 1 Tryz.underlying24 hj hy0 hy1 .i64 .i64 ps.length (by rfl) (by rfl) (by rw [hy2]; omega) (by unfold maxLen; omega) D.size ?_
          intro W hown hg
          rw [made_ints, hgM] at hown
          rw [hgM]
          clear hgM
          replace D := D.grown hg D.size (fun j hj => by cases hj)
          try replace op := op.keptI hg (fun g e => by cases e)
          have nv : OwnI W w3.heap.size (.slice (some ⟨gM, 0, none⟩) ps.length ps.length) (List.replicate ps.length 0) := by unfold OwnI; rw [List.length_replicate]; exact hown
          clear hown hg
          refine hK.out _ _ trivial (fun hHeld => ?_)
          clear hK K
          try simp only [Act.put, List.getElem_toArray, List.getElem_cons_succ, List.getElem_cons_zero, List.setIfInBounds_toArray, List.set_cons_zero, List.set_cons_succ]
          refine wpAnyH_ready (rs := [1, 3]) (by kernel_rfl) (by simp) (AllReadyH.cons (o := _) rfl (fun K hK => ?_) (AllReadyH.cons (o := _) rfl (fun K hK => ?_) AllReadyH.nil))
          · skip
            try simp only [Act.put, List.getElem_toArray, List.getElem_cons_succ, List.getElem_cons_zero, List.setIfInBounds_toArray, List.set_cons_zero, List.set_cons_succ]
            have yL := (HX6.out _ D).reads.1
            go_simp
            refine hK.out _ _ trivial (fun hHeld => ?_)
            clear hK K
            try simp only [Act.put, List.getElem_toArray, List.getElem_cons_succ, List.getElem_cons_zero, List.setIfInBounds_toArray, List.set_cons_zero, List.set_cons_succ]
            clear yL
            refine wpAnyH_ready (rs := [3]) (by kernel_rfl) (by simp) (AllReadyH.cons (o := _) rfl (fun K hK => ?_) AllReadyH.nil)
            try simp only [Act.put, List.getElem_toArray, List.getElem_cons_succ, List.getElem_cons_zero, List.setIfInBounds_toArray, List.set_cons_zero, List.set_cons_succ]
            go_simp
            go_at_call 97
            refine (HC.out _ D).mono ?_
            rintro e W ⟨vp, rfl, op', d5⟩
            have op := op'.base D.size
            obtain ⟨Ap9, cp9, rfl, -, -⟩ := op.form
            try replace nv := OwnI.below nv d5 (Nat.le_refl _)
            replace D := D.trans (d5.mono D.size)
            clear op' d5
            refine hK.out _ _ trivial (fun hHeld => ?_)
            clear hK K
            try simp only [Act.put, List.getElem_toArray, List.getElem_cons_succ, List.getElem_cons_zero, List.setIfInBounds_toArray, List.set_cons_zero, List.set_cons_succ]
            refine wpAnyH_take (i := 7) (oi := _) (v := ?_) rfl (by kernel_rfl) (by kernel_rfl) (by kernel_rfl) (fun _ _ _ h => h) (Or.inl ⟨by rfl, ?_⟩) hHeld ?_
            rotate_left
            · (intro w' hSw; (try dsimp only at hSw); go_simp <;> with_reducible rfl)
            try simp only [Act.put, List.getElem_toArray, List.getElem_cons_succ, List.getElem_cons_zero, List.setIfInBounds_toArray, List.set_cons_zero, List.set_cons_succ]
            refine wpAnyH_ready (rs := [8]) (by kernel_rfl) (by simp) (AllReadyH.cons (o := _) rfl (fun K hK => ?_) AllReadyH.nil)
            try simp only [Act.put, List.getElem_toArray, List.getElem_cons_succ, List.getElem_cons_zero, List.setIfInBounds_toArray, List.set_cons_zero, List.set_cons_succ]
            obtain ⟨ys, hrow, HP⟩ := cr_more (t := fresh ps) HO6.out (HX6.out _ (Below.refl _ _)) D hz3 ⟨op, nv, fun _ _ => rfl⟩
            have HPP := hid HP
            have rA := row_three_ W (.slice Ap9 ps.length cp9) (.slice (some ⟨gM, 0, none⟩) ps.length ps.length) (.int .i64 0) 33
            have hrow' := World.ownsRow.alloc hrow (.cells #[.slice Ap9 ps.length cp9, .slice (some ⟨gM, 0, none⟩) ps.length ps.length, .int .i64 0] 33)
            replace D := D.trans (((Below.refl W.heap.size W).alloc (Nat.le_refl _) (.cells #[.slice Ap9 ps.length cp9, .slice (some ⟨gM, 0, none⟩) ps.length ps.length, .int .i64 0] 33)).mono D.size)
            clear HP hrow op nv
            go_simp
            refine hK.out _ _ trivial (fun hHeld => ?_)
            clear hK K
            try simp only [Act.put, List.getElem_toArray, List.getElem_cons_succ, List.getElem_cons_zero, List.setIfInBounds_toArray, List.set_cons_zero, List.set_cons_succ]
            refine wpAnyH_ready (rs := [9]) (by kernel_rfl) (by simp) (AllReadyH.cons (o := _) rfl (fun K hK => ?_) AllReadyH.nil)
            try simp only [Act.put, List.getElem_toArray, List.getElem_cons_succ, List.getElem_cons_zero, List.setIfInBounds_toArray, List.set_cons_zero, List.set_cons_succ]
            rw [if_pos (by rfl)]
            refine op_append_row2 _ (by rfl) _ _ 23 (by rfl) w.heap.size 33 i0 (.agg #[.slice none 0 0, .slice none 0 0, .int .i64 0]) 3 56 Tryz.underlying23 hi hz0 hz1 hz2 rfl (by decide) (.slice Ao q.ts.length co) q.ts.length ys (by rfl) hrow' _ (some ⟨W.heap.size, 0, none⟩) 1 1 [.slice Ap9 ps.length cp9, .slice (some ⟨gM, 0, none⟩) ps.length ps.length, .int .i64 0] (by rfl) rA rfl (tx_cells _ _ _ _ _ _ _) (by unfold maxLen; omega) (by omega) (Nat.le_trans hz3 D.size) ?_
            intro v7 W7 hown hg
            obtain ⟨Ao7, co7, col7, rfl, k3, HK, HB7, O8⟩ := HPP.out v7 W7 hown hg
            have k1 := k3.reads.1
            have kf := k3.reads.2.2 0
            have b7 := HB7 w w.heap.size b1 (Nat.le_refl _)
            replace x1 : Blk2s W7 (w.heap.size + 1) 26 (.slice none 0 0) (.slice none 0 0) := HK (by decide) x1.lt x1
            clear hown hg rA hrow' HPP HK HB7 b1
            refine hK.out _ _ trivial (fun hHeld => ?_)
            clear hK K
            try simp only [Act.put, List.getElem_toArray, List.getElem_cons_succ, List.getElem_cons_zero, List.setIfInBounds_toArray, List.set_cons_zero, List.set_cons_succ]
            refine wpAnyH_take (i := 10) (oi := _) (v := ?_) rfl (by kernel_rfl) (by kernel_rfl) (by kernel_rfl) (fun _ _ _ h => h) (Or.inl ⟨by rfl, ?_⟩) hHeld ?_
            rotate_left
            · (intro w' hSw; (try dsimp only at hSw); go_simp <;> with_reducible rfl)
            try simp only [Act.put, List.getElem_toArray, List.getElem_cons_succ, List.getElem_cons_zero, List.setIfInBounds_toArray, List.set_cons_zero, List.set_cons_succ]
            refine wpAnyH_ready (rs := [11]) (by kernel_rfl) (by simp) (AllReadyH.cons (o := _) rfl (fun K hK => ?_) AllReadyH.nil)
            try simp only [Act.put, List.getElem_toArray, List.getElem_cons_succ, List.getElem_cons_zero, List.setIfInBounds_toArray, List.set_cons_zero, List.set_cons_succ]
            go_simp
            refine hK.out _ _ trivial (fun hHeld => ?_)
            clear hK K
            try simp only [Act.put, List.getElem_toArray, List.getElem_cons_succ, List.getElem_cons_zero, List.setIfInBounds_toArray, List.set_cons_zero, List.set_cons_succ]
            refine wpAnyH_done (by kernel_rfl) ?_ _
            have b1 := b7.setCell (p := ⟨g, 0, none⟩) HG1.out (.slice Ao7 (q.ts.length + 1) co7)
            replace x1 := x1.far (p := ⟨g, 0, none⟩) HG2.out (.slice Ao7 (q.ts.length + 1) co7)
            have k9 := k3.set0 (.slice Ao7 (q.ts.length + 1) co7)
            obtain ⟨W9, hW9⟩ : ∃ x, W7.setCell ⟨g, 0, none⟩ (.slice Ao7 (q.ts.length + 1) co7) = x := ⟨_, rfl⟩
            rw [hW9] at b1 x1 k9 O8 ⊢
            have o9 := O8
            obtain ⟨u0, u1, -⟩ := id k9.reads
            clear hHeld k1 kf k3 b7 D hW9 O8 x0
            have x0 := trivial
            obtain ⟨t0, t1, tf⟩ := id x1.reads
            have tf0 := tf 0
            have tf1 := tf 1
            clear tf
            have o10 := (o9.keptT (by decide) (by decide) (by decide) (by decide) (but_set _ (w.heap.size + 1) 0 (.slice Ao7 (q.ts.length + 1) co7)) (blk_type x1)).keptT (by decide) (by decide) (by decide) (by decide) (but_set _ (w.heap.size + 1) 1 (.slice Ab q.os.length cb)) (blk_type (x1.set0 _))
            have b9 := (b1.setCell (p := ⟨w.heap.size + 1, 0, none⟩) (Nat.le_succ _) (.slice Ao7 (q.ts.length + 1) co7)).setCell (p := ⟨w.heap.size + 1, 1, none⟩) (Nat.le_succ _) (.slice Ab q.os.length cb)
            obtain ⟨p0, p1, -⟩ := ((x1.set0 (.slice Ao7 (q.ts.length + 1) co7)).set1 (.slice Ab q.os.length cb)).reads
            clear x0 x1 o9 b1
            go_wp2
            exact bodyPost_ret (v := .tuple #[.agg #[.slice Ao7 (q.ts.length + 1) co7, .slice Ab q.os.length cb], .bool true]) (by simp [results, Tryz.results69, go_sem, p0, p1]) rfl ⟨_, _, rfl, o10, b9⟩
          · skip
            try simp only [Act.put, List.getElem_toArray, List.getElem_cons_succ, List.getElem_cons_zero, List.setIfInBounds_toArray, List.set_cons_zero, List.set_cons_succ]
            go_simp
            go_at_call 97
            refine (HC.out _ D).mono ?_
            rintro e W ⟨vp, rfl, op', d5⟩
            have op := op'.base D.size
            obtain ⟨Ap9, cp9, rfl, -, -⟩ := op.form
            try replace nv := OwnI.below nv d5 (Nat.le_refl _)
            replace D := D.trans (d5.mono D.size)
            clear op' d5
            refine hK.out _ _ trivial (fun hHeld => ?_)
            clear hK K
            try simp only [Act.put, List.getElem_toArray, List.getElem_cons_succ, List.getElem_cons_zero, List.setIfInBounds_toArray, List.set_cons_zero, List.set_cons_succ]
            refine wpAnyH_take (i := 7) (oi := _) (v := ?_) rfl (by kernel_rfl) (by kernel_rfl) (by kernel_rfl) (fun _ _ _ h => h) (Or.inl ⟨by rfl, ?_⟩) hHeld ?_
            rotate_left
            · (intro w' hSw; (try dsimp only at hSw); go_simp <;> with_reducible rfl)
            try simp only [Act.put, List.getElem_toArray, List.getElem_cons_succ, List.getElem_cons_zero, List.setIfInBounds_toArray, List.set_cons_zero, List.set_cons_succ]
            refine wpAnyH_ready (rs := [1, 8]) (by kernel_rfl) (by simp) (AllReadyH.cons (o := _) rfl (fun K hK => ?_) (AllReadyH.cons (o := _) rfl (fun K hK => ?_) AllReadyH.nil))
            · skip
              try simp only [Act.put, List.getElem_toArray, List.getElem_cons_succ, List.getElem_cons_zero, List.setIfInBounds_toArray, List.set_cons_zero, List.set_cons_succ]
              have yL := (HX6.out _ D).reads.1
              go_simp
              refine hK.out _ _ trivial (fun hHeld => ?_)
              clear hK K
              try simp only [Act.put, List.getElem_toArray, List.getElem_cons_succ, List.getElem_cons_zero, List.setIfInBounds_toArray, List.set_cons_zero, List.set_cons_succ]
              clear yL
              refine wpAnyH_ready (rs := [8]) (by kernel_rfl) (by simp) (AllReadyH.cons (o := _) rfl (fun K hK => ?_) AllReadyH.nil)
              try simp only [Act.put, List.getElem_toArray, List.getElem_cons_succ, List.getElem_cons_zero, List.setIfInBounds_toArray, List.set_cons_zero, List.set_cons_succ]
              obtain ⟨ys, hrow, HP⟩ := cr_more (t := fresh ps) HO6.out (HX6.out _ (Below.refl _ _)) D hz3 ⟨op, nv, fun _ _ => rfl⟩
              have HPP := hid HP
              have rA := row_three_ W (.slice Ap9 ps.length cp9) (.slice (some ⟨gM, 0, none⟩) ps.length ps.length) (.int .i64 0) 33
              have hrow' := World.ownsRow.alloc hrow (.cells #[.slice Ap9 ps.length cp9, .slice (some ⟨gM, 0, none⟩) ps.length ps.length, .int .i64 0] 33)
              replace D := D.trans (((Below.refl W.heap.size W).alloc (Nat.le_refl _) (.cells #[.slice Ap9 ps.length cp9, .slice (some ⟨gM, 0, none⟩) ps.length ps.length, .int .i64 0] 33)).mono D.size)
              clear HP hrow op nv
              go_simp
              refine hK.out _ _ trivial (fun hHeld => ?_)
              clear hK K
              try simp only [Act.put, List.getElem_toArray, List.getElem_cons_succ, List.getElem_cons_zero, List.setIfInBounds_toArray, List.set_cons_zero, List.set_cons_succ]
              refine wpAnyH_ready (rs := [9]) (by kernel_rfl) (by simp) (AllReadyH.cons (o := _) rfl (fun K hK => ?_) AllReadyH.nil)
              try simp only [Act.put, List.getElem_toArray, List.getElem_cons_succ, List.getElem_cons_zero, List.setIfInBounds_toArray, List.set_cons_zero, List.set_cons_succ]
              rw [if_pos (by rfl)]
              refine op_append_row2 _ (by rfl) _ _ 23 (by rfl) w.heap.size 33 i0 (.agg #[.slice none 0 0, .slice none 0 0, .int .i64 0]) 3 56 Tryz.underlying23 hi hz0 hz1 hz2 rfl (by decide) (.slice Ao q.ts.length co) q.ts.length ys (by rfl) hrow' _ (some ⟨W.heap.size, 0, none⟩) 1 1 [.slice Ap9 ps.length cp9, .slice (some ⟨gM, 0, none⟩) ps.length ps.length, .int .i64 0] (by rfl) rA rfl (tx_cells _ _ _ _ _ _ _) (by unfold maxLen; omega) (by omega) (Nat.le_trans hz3 D.size) ?_
              intro v7 W7 hown hg
              obtain ⟨Ao7, co7, col7, rfl, k3, HK, HB7, O8⟩ := HPP.out v7 W7 hown hg
              have k1 := k3.reads.1
              have kf := k3.reads.2.2 0
              have b7 := HB7 w w.heap.size b1 (Nat.le_refl _)
              replace x1 : Blk2s W7 (w.heap.size + 1) 26 (.slice none 0 0) (.slice none 0 0) := HK (by decide) x1.lt x1
              clear hown hg rA hrow' HPP HK HB7 b1
              refine hK.out _ _ trivial (fun hHeld => ?_)
              clear hK K
              try simp only [Act.put, List.getElem_toArray, List.getElem_cons_succ, List.getElem_cons_zero, List.setIfInBounds_toArray, List.set_cons_zero, List.set_cons_succ]
              refine wpAnyH_take (i := 10) (oi := _) (v := ?_) rfl (by kernel_rfl) (by kernel_rfl) (by kernel_rfl) (fun _ _ _ h => h) (Or.inl ⟨by rfl, ?_⟩) hHeld ?_
              rotate_left
              · (intro w' hSw; (try dsimp only at hSw); go_simp <;> with_reducible rfl)
              try simp only [Act.put, List.getElem_toArray, List.getElem_cons_succ, List.getElem_cons_zero, List.setIfInBounds_toArray, List.set_cons_zero, List.set_cons_succ]
              refine wpAnyH_ready (rs := [11]) (by kernel_rfl) (by simp) (AllReadyH.cons (o := _) rfl (fun K hK => ?_) AllReadyH.nil)
              try simp only [Act.put, List.getElem_toArray, List.getElem_cons_succ, List.getElem_cons_zero, List.setIfInBounds_toArray, List.set_cons_zero, List.set_cons_succ]
              go_simp
              refine hK.out _ _ trivial (fun hHeld => ?_)
              clear hK K
              try simp only [Act.put, List.getElem_toArray, List.getElem_cons_succ, List.getElem_cons_zero, List.setIfInBounds_toArray, List.set_cons_zero, List.set_cons_succ]
              refine wpAnyH_done (by kernel_rfl) ?_ _
              have b1 := b7.setCell (p := ⟨g, 0, none⟩) HG1.out (.slice Ao7 (q.ts.length + 1) co7)
              replace x1 := x1.far (p := ⟨g, 0, none⟩) HG2.out (.slice Ao7 (q.ts.length + 1) co7)
              have k9 := k3.set0 (.slice Ao7 (q.ts.length + 1) co7)
              obtain ⟨W9, hW9⟩ : ∃ x, W7.setCell ⟨g, 0, none⟩ (.slice Ao7 (q.ts.length + 1) co7) = x := ⟨_, rfl⟩
              rw [hW9] at b1 x1 k9 O8 ⊢
              have o9 := O8
              obtain ⟨u0, u1, -⟩ := id k9.reads
              clear hHeld k1 kf k3 b7 D hW9 O8 x0
              have x0 := trivial
              obtain ⟨t0, t1, tf⟩ := id x1.reads
              have tf0 := tf 0
              have tf1 := tf 1
              clear tf
              have o10 := (o9.keptT (by decide) (by decide) (by decide) (by decide) (but_set _ (w.heap.size + 1) 0 (.slice Ao7 (q.ts.length + 1) co7)) (blk_type x1)).keptT (by decide) (by decide) (by decide) (by decide) (but_set _ (w.heap.size + 1) 1 (.slice Ab q.os.length cb)) (blk_type (x1.set0 _))
              have b9 := (b1.setCell (p := ⟨w.heap.size + 1, 0, none⟩) (Nat.le_succ _) (.slice Ao7 (q.ts.length + 1) co7)).setCell (p := ⟨w.heap.size + 1, 1, none⟩) (Nat.le_succ _) (.slice Ab q.os.length cb)
              obtain ⟨p0, p1, -⟩ := ((x1.set0 (.slice Ao7 (q.ts.length + 1) co7)).set1 (.slice Ab q.os.length cb)).reads
              clear x0 x1 o9 b1
              go_wp2
              exact bodyPost_ret (v := .tuple #[.agg #[.slice Ao7 (q.ts.length + 1) co7, .slice Ab q.os.length cb], .bool true]) (by simp [results, Tryz.results69, go_sem, p0, p1]) rfl ⟨_, _, rfl, o10, b9⟩
            · skip
              try simp only [Act.put, List.getElem_toArray, List.getElem_cons_succ, List.getElem_cons_zero, List.setIfInBounds_toArray, List.set_cons_zero, List.set_cons_succ]
              obtain ⟨ys, hrow, HP⟩ := cr_more (t := fresh ps) HO6.out (HX6.out _ (Below.refl _ _)) D hz3 ⟨op, nv, fun _ _ => rfl⟩
              have HPP := hid HP
              have rA := row_three_ W (.slice Ap9 ps.length cp9) (.slice (some ⟨gM, 0, none⟩) ps.length ps.length) (.int .i64 0) 33
              have hrow' := World.ownsRow.alloc hrow (.cells #[.slice Ap9 ps.length cp9, .slice (some ⟨gM, 0, none⟩) ps.length ps.length, .int .i64 0] 33)
              replace D := D.trans (((Below.refl W.heap.size W).alloc (Nat.le_refl _) (.cells #[.slice Ap9 ps.length cp9, .slice (some ⟨gM, 0, none⟩) ps.length ps.length, .int .i64 0] 33)).mono D.size)
              clear HP hrow op nv
              go_simp
              refine hK.out _ _ trivial (fun hHeld => ?_)
              clear hK K
              try simp only [Act.put, List.getElem_toArray, List.getElem_cons_succ, List.getElem_cons_zero, List.setIfInBounds_toArray, List.set_cons_zero, List.set_cons_succ]
              refine wpAnyH_ready (rs := [1]) (by kernel_rfl) (by simp) (AllReadyH.cons (o := _) rfl (fun K hK => ?_) AllReadyH.nil)
              try simp only [Act.put, List.getElem_toArray, List.getElem_cons_succ, List.getElem_cons_zero, List.setIfInBounds_toArray, List.set_cons_zero, List.set_cons_succ]
              have yL := (HX6.out _ D).reads.1
              go_simp
              refine hK.out _ _ trivial (fun hHeld => ?_)
              clear hK K
              try simp only [Act.put, List.getElem_toArray, List.getElem_cons_succ, List.getElem_cons_zero, List.setIfInBounds_toArray, List.set_cons_zero, List.set_cons_succ]
              clear yL
              refine wpAnyH_ready (rs := [9]) (by kernel_rfl) (by simp) (AllReadyH.cons (o := _) rfl (fun K hK => ?_) AllReadyH.nil)
              try simp only [Act.put, List.getElem_toArray, List.getElem_cons_succ, List.getElem_cons_zero, List.setIfInBounds_toArray, List.set_cons_zero, List.set_cons_succ]
              rw [if_pos (by rfl)]
              refine op_append_row2 _ (by rfl) _ _ 23 (by rfl) w.heap.size 33 i0 (.agg #[.slice none 0 0, .slice none 0 0, .int .i64 0]) 3 56 Tryz.underlying23 hi hz0 hz1 hz2 rfl (by decide) (.slice Ao q.ts.length co) q.ts.length ys (by rfl) hrow' _ (some ⟨W.heap.size, 0, none⟩) 1 1 [.slice Ap9 ps.length cp9, .slice (some ⟨gM, 0, none⟩) ps.length ps.length, .int .i64 0] (by rfl) rA rfl (tx_cells _ _ _ _ _ _ _) (by unfold maxLen; omega) (by omega) (Nat.le_trans hz3 D.size) ?_
              intro v7 W7 hown hg
              obtain ⟨Ao7, co7, col7, rfl, k3, HK, HB7, O8⟩ := HPP.out v7 W7 hown hg
              have k1 := k3.reads.1
              have kf := k3.reads.2.2 0
              have b7 := HB7 w w.heap.size b1 (Nat.le_refl _)
              replace x1 : Blk2s W7 (w.heap.size + 1) 26 (.slice none 0 0) (.slice none 0 0) := HK (by decide) x1.lt x1
              clear hown hg rA hrow' HPP HK HB7 b1
              refine hK.out _ _ trivial (fun hHeld => ?_)
              clear hK K
              try simp only [Act.put, List.getElem_toArray, List.getElem_cons_succ, List.getElem_cons_zero, List.setIfInBounds_toArray, List.set_cons_zero, List.set_cons_succ]
              refine wpAnyH_take (i := 10) (oi := _) (v := ?_) rfl (by kernel_rfl) (by kernel_rfl) (by kernel_rfl) (fun _ _ _ h => h) (Or.inl ⟨by rfl, ?_⟩) hHeld ?_
              rotate_left
              · (intro w' hSw; (try dsimp only at hSw); go_simp <;> with_reducible rfl)
              try simp only [Act.put, List.getElem_toArray, List.getElem_cons_succ, List.getElem_cons_zero, List.setIfInBounds_toArray, List.set_cons_zero, List.set_cons_succ]
              refine wpAnyH_ready (rs := [11]) (by kernel_rfl) (by simp) (AllReadyH.cons (o := _) rfl (fun K hK => ?_) AllReadyH.nil)
              try simp only [Act.put, List.getElem_toArray, List.getElem_cons_succ, List.getElem_cons_zero, List.setIfInBounds_toArray, List.set_cons_zero, List.set_cons_succ]
              go_simp
              refine hK.out _ _ trivial (fun hHeld => ?_)
              clear hK K
              try simp only [Act.put, List.getElem_toArray, List.getElem_cons_succ, List.getElem_cons_zero, List.setIfInBounds_toArray, List.set_cons_zero, List.set_cons_succ]
              refine wpAnyH_done (by kernel_rfl) ?_ _
              have b1 := b7.setCell (p := ⟨g, 0, none⟩) HG1.out (.slice Ao7 (q.ts.length + 1) co7)
              replace x1 := x1.far (p := ⟨g, 0, none⟩) HG2.out (.slice Ao7 (q.ts.length + 1) co7)
              have k9 := k3.set0 (.slice Ao7 (q.ts.length + 1) co7)
              obtain ⟨W9, hW9⟩ : ∃ x, W7.setCell ⟨g, 0, none⟩ (.slice Ao7 (q.ts.length + 1) co7) = x := ⟨_, rfl⟩
              rw [hW9] at b1 x1 k9 O8 ⊢
              have o9 := O8
              obtain ⟨u0, u1, -⟩ := id k9.reads
              clear hHeld k1 kf k3 b7 D hW9 O8 x0
              have x0 := trivial
              obtain ⟨t0, t1, tf⟩ := id x1.reads
              have tf0 := tf 0
              have tf1 := tf 1
              clear tf
              have o10 := (o9.keptT (by decide) (by decide) (by decide) (by decide) (but_set _ (w.heap.size + 1) 0 (.slice Ao7 (q.ts.length + 1) co7)) (blk_type x1)).keptT (by decide) (by decide) (by decide) (by decide) (but_set _ (w.heap.size + 1) 1 (.slice Ab q.os.length cb)) (blk_type (x1.set0 _))
              have b9 := (b1.setCell (p := ⟨w.heap.size + 1, 0, none⟩) (Nat.le_succ _) (.slice Ao7 (q.ts.length + 1) co7)).setCell (p := ⟨w.heap.size + 1, 1, none⟩) (Nat.le_succ _) (.slice Ab q.os.length cb)
              obtain ⟨p0, p1, -⟩ := ((x1.set0 (.slice Ao7 (q.ts.length + 1) co7)).set1 (.slice Ab q.os.length cb)).reads
              clear x0 x1 o9 b1
              go_wp2
              exact bodyPost_ret (v := .tuple #[.agg #[.slice Ao7 (q.ts.length + 1) co7, .slice Ab q.os.length cb], .bool true]) (by simp [results, Tryz.results69, go_sem, p0, p1]) rfl ⟨_, _, rfl, o10, b9⟩
      · obtain ⟨rfl, rfl⟩ := HX.out.full_ HVq.out HVp.out h12
        have e1 : decide ((12 : Int) ≤ (x.ts.length : Int)) = true := decide_eq_true (by omega)
        have e2 : decide (12 ≤ x.ts.length) = true := decide_eq_true (by omega)
        obtain ⟨u0, u1, -⟩ := id x6.reads
        have o9 := o2
        clear HX CVal CPar CCop CP2 HVq HVp HBV HBP HB2 h12 o2
        obtain ⟨t0, t1, tf⟩ := id x1.reads
        have tf0 := tf 0
        have tf1 := tf 1
        clear tf
        have o10 := (o9.keptT (by decide) (by decide) (by decide) (by decide) (but_set _ (w.heap.size + 1) 0 (.slice Ao x.ts.length co)) (blk_type x1)).keptT (by decide) (by decide) (by decide) (by decide) (but_set _ (w.heap.size + 1) 1 (.slice Ab x.os.length cb)) (blk_type (x1.set0 _))
        have b9 := (b1.setCell (p := ⟨w.heap.size + 1, 0, none⟩) (Nat.le_succ _) (.slice Ao x.ts.length co)).setCell (p := ⟨w.heap.size + 1, 1, none⟩) (Nat.le_succ _) (.slice Ab x.os.length cb)
        obtain ⟨p0, p1, -⟩ := ((x1.set0 (.slice Ao x.ts.length co)).set1 (.slice Ab x.os.length cb)).reads
        clear x0 x1 o9 b1
        go_wp2
        exact bodyPost_ret (v := .tuple #[.agg #[.slice Ao x.ts.length co, .slice Ab x.os.length cb], .bool false]) (by simp [results, Tryz.results69, go_sem, p0, p1]) rfl ⟨_, _, rfl, o10, b9⟩
end Go.Proofs.YteaibflloeipaaaGreatDoor
/- Laws on coordinators: a coordinator is boxed. -/
/- On to the world behind D. -/
/- An exact law begins: the argument's box, its size, a copy for the model. -/
/- The program's own copy of the argument is boxed. -/
/- The program's copy is as the argument; the region draws. -/
/- Laws on functions that answer numbers. -/
/- What the boxes hold is read again. -/
/- The coordinator with the slices P4 and P5 is boxed as P6, in block P7, behind it the world P3; ahead of region P1. -/
/- The draw, the program's answer, the model's, and that they are the same: behind it w5, all facts on it by way of dx. -/
/-
  Walks: a transaction times out, the part of a shard, a vote counted, by the model.
-/
namespace Go.Proofs.YteaibflloeipaaaGreatDoor
open Go.RowKit Wo Pu Rf Co

set_option linter.unusedVariables false in
set_option linter.unusedSimpArgs false in
theorem Co.Late.bad_ {q x : Crd} {t : Int} {b : Bool} (h : Late q t x b) (hn : ¬ CV q) : x = none_ ∧ b = false := by
  cases h with
  | bad _ => exact ⟨rfl, rfl⟩
  | no h1 _ => exact absurd h1 hn
  | yes _ _ _ _ h1 => exact absurd h1 hn
set_option linter.unusedVariables false in
set_option linter.unusedSimpArgs false in
theorem Co.Late.no_ {q x : Crd} {t : Int} {b : Bool} (h : Late q t x b) (h1 : CV q) (h2 : ∀ n (h : n < q.ts.length), t = (n : Int) → q.ts[n].d ≠ 0) : x = q ∧ b = false := by
  cases h with
  | bad hn => exact absurd h1 hn
  | no _ _ => exact ⟨rfl, rfl⟩
  | yes n h3 h4 h5 _ => exact absurd h5 (h2 n h3 h4)
set_option linter.unusedVariables false in
set_option linter.unusedSimpArgs false in
theorem Co.Late.yes_ {q x : Crd} {b : Bool} {n : Nat} (h : Late q (n : Int) x b) (h1 : CV q) (hn : n < q.ts.length) (hd : q.ts[n].d = 0) : x = lateC q n hn ∧ b = true := by
  cases h with
  | bad h2 => exact absurd h1 h2
  | no _ h2 => exact absurd hd (h2 n hn rfl)
  | yes m h3 h4 h5 _ =>
    have e : m = n := by omega
    subst e
    exact ⟨rfl, rfl⟩
set_option linter.unusedVariables false in
set_option linter.unusedSimpArgs false in
theorem ty_ne {w : World} {g g2 : Nat} {T T' : TypeId} {cs cs' : Array Value} {fr fr' : Nat × Nat} (h : w.heap[g]? = some (.cells cs T fr)) (h' : w.heap[g2]? = some (.cells cs' T' fr')) (hT : T ≠ T') : g ≠ g2 := fun e => by
  subst e
  rw [h] at h'
  injection h' with h3
  injection h3 with _ h3
  exact hT h3
section
variable {col : Nat → Nat} {w : World} {B g c n k N : Nat} {b : Value} {q : Crd}
set_option linter.unusedVariables false in
set_option linter.unusedSimpArgs false in
theorem OwnCr.parts (h : OwnCr col w B (.agg #[.slice (some ⟨g, 0, none⟩) N c, b]) q) : OwnTxs col w B (.slice (some ⟨g, 0, none⟩) N c) q.ts ∧ OwnI w B b q.os ∧ ColV col 0 b := by
  obtain ⟨a0, b0, e, h1, h2, h3⟩ := h
  injection e with e
  obtain ⟨rfl, rfl⟩ : (.slice (some ⟨g, 0, none⟩) N c) = a0 ∧ b = b0 := by
    have := congrArg Array.toList e
    simpa using this
  exact ⟨h1, h2, h3⟩
set_option linter.unusedVariables false in
set_option linter.unusedSimpArgs false in
theorem OwnCr.head (h : OwnCr col w B (.agg #[.slice (some ⟨g, 0, none⟩) N c, b]) q) (hN : N = q.ts.length) (hn : n < q.ts.length) : ∃ cs fr, w.heap[g]? = some (.cells cs 33 fr) := by
  subst hN
  obtain ⟨xs, h1, -⟩ := h.parts.1
  exact row_typed h1 g rfl
set_option linter.unusedVariables false in
set_option linter.unusedSimpArgs false in
/-- The decision of transaction n is stored. -/
theorem cr_dec (h : OwnCr col w B (.agg #[.slice (some ⟨g, 0, none⟩) N c, b]) q) (hN : N = q.ts.length) (hn : n < q.ts.length) (x : Int) :
    w.cell? ⟨g, n * 3 + 2, none⟩ = some (.int .i64 q.ts[n].d) ∧ w.frozen? ⟨g, n * 3 + 2, none⟩ = false ∧ B ≤ g ∧ OwnCr col (w.setCell ⟨g, n * 3 + 2, none⟩ (.int .i64 x)) B (.agg #[.slice (some ⟨g, 0, none⟩) N c, b]) ⟨q.ts.set n ⟨q.ts[n].ps, q.ts[n].vs, x⟩, q.os⟩ := by
  subst hN
  obtain ⟨h1, h2, h3⟩ := h.parts
  have hty := h.head rfl hn
  obtain ⟨q0, q1, q2⟩ := h1.dec hn x
  obtain ⟨xs, r1, -⟩ := h1
  refine ⟨q0, q1, (World.ownsRow.lt r1 g rfl).1, _, _, rfl, q2, row_far_type h2 (by decide) (but_set w g _ _) (row_typed r1), h3⟩
set_option linter.unusedVariables false in
set_option linter.unusedSimpArgs false in
/-- A vote of transaction n is stored. -/
theorem cr_vote (h : OwnCr col w B (.agg #[.slice (some ⟨g, 0, none⟩) N c, b]) q) (hN : N = q.ts.length) (hn : n < q.ts.length) (hk : k < q.ts[n].vs.length) :
    ∃ g2 c2, w.cell? ⟨g, n * 3 + 1, none⟩ = some (.slice (some ⟨g2, 0, none⟩) q.ts[n].vs.length c2) ∧ w.cell? ⟨g2, k, none⟩ = some (.int .i64 q.ts[n].vs[k]) ∧ w.frozen? ⟨g2, k, none⟩ = false ∧ B ≤ g2 ∧ (∃ cs fr, w.heap[g2]? = some (.cells cs 3 fr)) ∧
      ∀ x : Int, OwnCr col (w.setCell ⟨g2, k, none⟩ (.int .i64 x)) B (.agg #[.slice (some ⟨g, 0, none⟩) N c, b]) ⟨q.ts.set n ⟨q.ts[n].ps, q.ts[n].vs.set k x, q.ts[n].d⟩, q.os⟩ := by
  subst hN
  obtain ⟨h1, h2, h3⟩ := h.parts
  have h1' := h1
  obtain ⟨g2, c2, q0, q1, q2, q3, q4, q5, q6, q7⟩ := h1.vote hn hk
  have hty : ∃ cs fr, w.heap[g2]? = some (.cells cs 3 fr) := by
    obtain ⟨xs, r1, r2, -⟩ := h1'
    obtain ⟨a', b', t0, t1, t2, -, t4, -⟩ := r2 n hn
    have e := (World.ownsRow.cellAt r1 (n * 3 + 1) (by have := r1.1; omega)).trans t1
    rw [q0] at e
    injection e with e
    subst e
    exact row_typed t4 g2 rfl
  refine ⟨g2, c2, q0, q1, q2, q3, hty, fun x => ⟨_, _, rfl, q7 x, ?_, h3⟩⟩
  exact row_same h2 fun j hj => Below.heap_setCell w _ _ j (fun e => by have e1 : j = g2 := e; have := h3 j hj; rw [e1, q5] at this; omega)
set_option linter.unusedVariables false in
set_option linter.unusedSimpArgs false in
/-- The votes of transaction n, read. -/
theorem cr_votes (h : OwnCr col w B (.agg #[.slice (some ⟨g, 0, none⟩) N c, b]) q) (hN : N = q.ts.length) (hn : n < q.ts.length) : ∃ A2 c2, w.cell? ⟨g, n * 3 + 1, none⟩ = some (.slice A2 q.ts[n].vs.length c2) ∧ Row w w.heap.size A2 (ints q.ts[n].vs) := by
  subst hN
  obtain ⟨xs, r1, r2, -⟩ := h.parts.1
  obtain ⟨a', b', t0, t1, t2, t3⟩ := r2 n hn
  obtain ⟨A, c1, A2, c2, rfl, rfl, -, -, -, s6⟩ := t3.form
  exact ⟨A2, c2, (World.ownsRow.cellAt r1 (n * 3 + 1) (by have := r1.1; omega)).trans t1, s6⟩
set_option linter.unusedVariables false in
set_option linter.unusedSimpArgs false in
theorem cr_head {col : Nat → Nat} {w : World} {B N m : Nat} {Ao Ab : Option Addr} {co cb : Nat} {q : Crd} (h : OwnCr col w B (.agg #[.slice Ao N co, .slice Ab m cb]) q) {n : Nat} (hn : n < q.ts.length) : ∃ g, Ao = some ⟨g, 0, none⟩ ∧ N = q.ts.length := by
  obtain ⟨a0, b0, e, h1, h2, h3⟩ := h
  injection e with e
  obtain ⟨rfl, rfl⟩ : (.slice Ao N co) = a0 ∧ (.slice Ab m cb) = b0 := by
    have := congrArg Array.toList e
    simpa using this
  obtain ⟨g, c, e, -, -⟩ := h1.at hn
  injection e with e1 e2
  exact ⟨g, e1, e2⟩
end
set_option linter.unusedVariables false in
/-- It is at place z, or -1. -/
def Ix (ps : List Part) (s z : Int) : Prop := (∃ (k : Nat) (h : k < ps.length), z = (k : Int) ∧ ps[k].s = s ∧ ∀ j (hj : j < ps.length), j < k → ps[j].s ≠ s) ∨ (z = -1 ∧ ∀ j (h : j < ps.length), ps[j].s ≠ s)
set_option linter.unusedVariables false in
set_option linter.unusedSimpArgs false in
theorem ix_ex (ps : List Part) (s : Int) : ∃ z, Ix ps s z := by
  by_cases h : ∃ k, ∃ h : k < ps.length, ps[k].s = s
  · have : ∀ m, (∀ j (hj : j < ps.length), j < m → ps[j].s ≠ s) ∨ ∃ (k : Nat) (h : k < ps.length), ps[k].s = s ∧ ∀ j (hj : j < ps.length), j < k → ps[j].s ≠ s := by
      intro m
      induction m with
      | zero => exact .inl fun j _ hj => absurd hj (Nat.not_lt_zero _)
      | succ m ih =>
        rcases ih with ih | ih
        · by_cases hm : ∃ h : m < ps.length, ps[m].s = s
          · obtain ⟨h1, h2⟩ := hm
            exact .inr ⟨m, h1, h2, ih⟩
          · refine .inl fun j hj hjm e => ?_
            by_cases e2 : j = m
            · subst e2; exact hm ⟨hj, e⟩
            · exact ih j hj (by omega) e
        · exact .inr ih
    rcases this ps.length with h1 | ⟨k, h1, h2, h3⟩
    · obtain ⟨k, hk, e⟩ := h
      exact absurd e (h1 k hk hk)
    · exact ⟨_, .inl ⟨k, h1, rfl, h2, h3⟩⟩
  · exact ⟨-1, .inr ⟨rfl, fun j hj e => h ⟨j, hj, e⟩⟩⟩
set_option linter.unusedVariables false in
def NoS (ps : List Part) (s : Int) (k : Nat) : Prop := ∀ j (h : j < ps.length), j < k → ps[j].s ≠ s
set_option linter.unusedVariables false in
set_option linter.unusedSimpArgs false in
theorem NoS.zero (ps : List Part) (s : Int) : NoS ps s 0 := fun _ _ h => absurd h (Nat.not_lt_zero _)
set_option linter.unusedVariables false in
set_option linter.unusedSimpArgs false in
theorem NoS.next {ps : List Part} {s : Int} {k : Nat} (h : NoS ps s k) (hk : k < ps.length) (hv : ¬ ps[k].s = s) : NoS ps s (k + 1) := fun j hj hl => by
  by_cases e : j = k
  · subst e; exact hv
  · exact h j hj (by omega)
set_option linter.unusedVariables false in
set_option linter.unusedSimpArgs false in
theorem NoS.at {ps : List Part} {s z : Int} {k : Nat} (h : NoS ps s k) (hk : k < ps.length) (hv : ps[k].s = s) (hz : Ix ps s z) : z = (k : Int) := by
  rcases hz with ⟨m, h1, h2, h3, h4⟩ | ⟨-, h1⟩
  · rcases Nat.lt_trichotomy m k with e | e | e
    · exact absurd h3 (h m h1 e)
    · rw [h2, e]
    · exact absurd hv (h4 k hk e)
  · exact absurd hv (h1 k hk)
set_option linter.unusedVariables false in
set_option linter.unusedSimpArgs false in
theorem NoS.all {ps : List Part} {s z : Int} (h : NoS ps s ps.length) (hz : Ix ps s z) : z = -1 := by
  rcases hz with ⟨m, h1, h2, h3, h4⟩ | ⟨h1, -⟩
  · exact absurd h3 (h m h1 h1)
  · exact h1
set_option linter.unusedVariables false in
set_option linter.unusedSimpArgs false in
set_option maxHeartbeats 4000000 in
theorem l22Shard_is (z : Int) (A : Option Addr) (c : Nat) (ps : List Part) (s : Int) (w : World) (B : Nat) (h : Parts w B A ps) (hm : ps.length ≤ 1048600) (hz : Ix ps s z) :
    Calls Tryz.prog 86 #[.slice A ps.length c, .int .i64 s] w (Same (.int .i64 z) w) := by
  have HZ := hid hz
  clear hz
  go_enter Tryz.func86, Tryz.ntmps86
  go_wp2_with fail
  go_loop [5] (fun i => ∃ k : Nat, k ≤ ps.length ∧ i = .int .i64 k ∧ Hid (NoS ps s k)) (fun i => ps.length - (intOf i).toNat)
  case atStart => exact ⟨0, Nat.zero_le _, rfl, .zero ps s⟩
  case round =>
    obtain ⟨k, hk, rfl, H⟩ := hrel
    by_cases hlt : k < ps.length
    · obtain ⟨p, ad, A', c', ho, rfl, ha, g0, -, -, -⟩ := h.part hlt
      have q0 : (0 : Int) ≤ (k : Int) := by omega
      have q1 : (k : Int) < (ps.length : Int) := by omega
      by_cases hv : ps[k].s = s
      · have e0 : (p.s == s) = true := by rw [beq_iff_eq, ← ho]; exact hv
        have F := hid (H.out.at hlt hv HZ.out)
        clear H hv ho
        go_wp2
        go_ret
        rw [F.out]
        exact ⟨rfl, rfl⟩
      · have e0 : (p.s == s) = false := by rw [beq_eq_false_iff_ne, ← ho]; exact hv
        have HN := hid (H.out.next hlt hv)
        clear H hv ho
        go_wp2
        go_round
        case rel => exact ⟨k + 1, by omega, by go_num, HN⟩
        case measure => simp [intOf]; omega
    · have hk' : k = ps.length := by omega
      subst hk'
      have F := hid (H.out.all HZ.out)
      clear H
      go_wp2
      go_ret
      rw [F.out]
      exact ⟨rfl, rfl⟩
set_option linter.unusedSimpArgs false in
set_option linter.unusedVariables false in
set_option maxRecDepth 100000 in
set_option maxHeartbeats 16000000 in
theorem specCoordinatorTimeout_is (x : Crd) (b : Bool) (v : Value) (q : Crd) (t : Int) (w : World) (h : Crdd w w.heap.size v q) (hf : FitC q) (hx : Late q t x b) :
    Calls Tryz.prog 71 #[v, .int .i64 t] w (NewCrB x b w) := by
  obtain ⟨bv, hbv⟩ := bool_ofP' (CV q)
  obtain ⟨bi, hbi⟩ := bool_of (0 ≤ t ∧ t ≤ (q.ts.length : Int) - 1)
  have HX := hid hx
  have HBV := hid hbv
  have HBI := hid hbi
  have CVal : Hid (∀ y, Below w.heap.size w y → Calls Tryz.prog 37 #[v] y (Ret (.bool bv) y)) := fun y hy => specCoordinatorValid_is bv v q y (h.on hy hy.size) hf hbv
  have CCop : Hid (∀ y, Below w.heap.size w y → Calls Tryz.prog 59 #[v] y (NewCr q y)) := fun y hy => l22Copy_any v q y (h.on hy hy.size) hf
  have CI : Hid (∀ y, Calls Tryz.prog 44 #[.int .i64 t, .int .i64 0, .int .i64 ((q.ts.length : Int) - 1)] y (Ret (.bool bi) y)) := fun y => (l6In_is bi _ _ _ y hbi).mono fun _ _ h => h.ret
  have hf1 := hf.ts
  have qw : IntKind.i64.wrap ((q.ts.length : Int) - 1) = (q.ts.length : Int) - 1 := IntWalk.i64_in _ (by omega)
  clear hx hbv hbi
  obtain ⟨A, c, A2, c2, rfl, hT, hc, -, hc2⟩ := h
  clear hf
  unfold crV at *
  have b1 := ((Below.refl w.heap.size w).alloc (Nat.le_refl _) (.cells #[.slice A q.ts.length c, .slice A2 q.os.length c2] 26)).alloc (by simp) (.cells #[.slice none 0 0, .slice none 0 0] 26)
  have x0 := (Blk2s.new_ w 26 (.slice A q.ts.length c) (.slice A2 q.os.length c2)).alloc (.cells #[.slice none 0 0, .slice none 0 0] 26)
  have x1 := Blk2s.new_ (w.alloc (.cells #[.slice A q.ts.length c, .slice A2 q.os.length c2] 26)) 26 (.slice none 0 0) (.slice none 0 0)
  rw [World.size_alloc] at x1
  go_enter Tryz.func71, Tryz.ntmps71
  go_upto_region 1 with fail
  obtain ⟨w1, hw1⟩ : ∃ w1, (w.alloc (.cells #[.slice A q.ts.length c, .slice A2 q.os.length c2] 26)).alloc (.cells #[.slice none 0 0, .slice none 0 0] 26) = w1 := ⟨_, rfl⟩
  rw [hw1] at b1 x0 x1 ⊢
  clear hw1
  obtain ⟨y0, y1, -⟩ := id x0.reads
  go_wp2_with fail
  refine (CVal.out _ b1).mono ?_
  rintro e w2 ⟨rfl, d⟩
  replace x0 := x0.later d
  replace x1 := x1.later d
  replace b1 := b1.trans (d.mono b1.size)
  clear y0 y1
  obtain ⟨y0, y1, -⟩ := id x0.reads
  cases bv with
  | false =>
    obtain ⟨rfl, rfl⟩ := HX.out.bad_ fun e => by have := HBV.out.2 e; cases this
    clear HX CVal CCop CI
    obtain ⟨t0, t1, tf⟩ := id x1.reads
    have tf0 := tf 0
    have tf1 := tf 1
    clear tf
    obtain ⟨p0, p1, -⟩ := ((x1.set0 (.slice none 0 0)).set1 (.slice none 0 0)).reads
    have b7 := (b1.setCell (p := ⟨w.heap.size + 1, 0, none⟩) (Nat.le_succ _) (.slice none 0 0)).setCell (p := ⟨w.heap.size + 1, 1, none⟩) (Nat.le_succ _) (.slice none 0 0)
    go_wp2
    exact bodyPost_ret (v := .tuple #[.agg #[.slice none 0 0, .slice none 0 0], .bool false]) (by simp [results, Tryz.results71, go_sem, p0, p1]) rfl ⟨_, _, rfl, OwnCr.none_ _ _, b7⟩
  | true =>
    have HVq := hid (HBV.out.1 rfl)
    have zc := b1.size
    go_wp2_with fail
    refine (CCop.out _ b1).mono ?_
    rintro e w2 ⟨v2, col, rfl, o2, d⟩
    replace x0 := x0.later d
    replace x1 := x1.later d
    replace b1 := b1.trans (d.mono b1.size)
    clear y0 y1
    obtain ⟨y0, y1, -⟩ := id x0.reads
    obtain ⟨Ao, co, Ab, cb, rfl, -, -, -, -, -, -, -⟩ := o2.form
    unfold crV at o2 ⊢
    have HB2 : Hid (w.heap.size + 1 < w2.heap.size) := x1.lt
    replace o2 := o2.base (B' := w.heap.size) zc
    have d := (Below.refl w2.heap.size w2).alloc (Nat.le_refl _) (.cells #[.slice Ao q.ts.length co, .slice Ab q.os.length cb] 26)
    have x6 := Blk2s.new_ w2 26 (.slice Ao q.ts.length co) (.slice Ab q.os.length cb)
    replace o2 := o2.below d
    replace x0 := x0.later d
    replace x1 := x1.later d
    replace b1 := b1.trans (d.mono b1.size)
    clear y0 y1
    obtain ⟨y0, y1, -⟩ := id x0.reads
    go_upto_region 4 with fail
    obtain ⟨w3, hw3⟩ : ∃ x, w2.alloc (.cells #[.slice Ao q.ts.length co, .slice Ab q.os.length cb] 26) = x := ⟨_, rfl⟩
    obtain ⟨g, hg⟩ : ∃ x, w2.heap.size = x := ⟨_, rfl⟩
    rw [hw3] at x0 x1 b1 y0 y1 x6 o2 ⊢
    rw [hg] at x6 HB2 ⊢
    clear hw3 hg d CVal CCop
    go_wp2_with fail
    refine (CI.out _).mono ?_
    rintro e w4 ⟨rfl, d⟩
    replace x0 := x0.later d
    replace x1 := x1.later d
    replace b1 := b1.trans (d.mono b1.size)
    clear y0 y1
    obtain ⟨y0, y1, -⟩ := id x0.reads
    replace o2 := o2.below d
    replace x6 := x6.later d
    clear d CI
    cases bi with
    | false =>
      obtain ⟨rfl, rfl⟩ := HX.out.no_ HVq.out fun n hn e => absurd (HBI.out.2 ⟨by omega, by omega⟩) (by decide)
      clear HX HVq HBV HBI HB2
      obtain ⟨u0, u1, -⟩ := id x6.reads
      have o9 := o2
      clear o2
      obtain ⟨t0, t1, tf⟩ := id x1.reads
      have tf0 := tf 0
      have tf1 := tf 1
      clear tf
      have o10 := (o9.keptT (by decide) (by decide) (by decide) (by decide) (but_set _ (w.heap.size + 1) 0 (.slice Ao x.ts.length co)) (blk_type x1)).keptT (by decide) (by decide) (by decide) (by decide) (but_set _ (w.heap.size + 1) 1 (.slice Ab x.os.length cb)) (blk_type (x1.set0 _))
      have b9 := (b1.setCell (p := ⟨w.heap.size + 1, 0, none⟩) (Nat.le_succ _) (.slice Ao x.ts.length co)).setCell (p := ⟨w.heap.size + 1, 1, none⟩) (Nat.le_succ _) (.slice Ab x.os.length cb)
      obtain ⟨p0, p1, -⟩ := ((x1.set0 (.slice Ao x.ts.length co)).set1 (.slice Ab x.os.length cb)).reads
      clear x0 x1 o9 b1
      go_wp2
      exact bodyPost_ret (v := .tuple #[.agg #[.slice Ao x.ts.length co, .slice Ab x.os.length cb], .bool false]) (by simp [results, Tryz.results71, go_sem, p0, p1]) rfl ⟨_, _, rfl, o10, b9⟩
    | true =>
      have hti := HBI.out.1 rfl
      obtain ⟨n, rfl⟩ := Int.eq_ofNat_of_zero_le hti.1
      have hn : n < q.ts.length := by omega
      have k0 : (0 : Int) ≤ (n : Int) := by omega
      have k1 : (n : Int) < (q.ts.length : Int) := by omega
      obtain ⟨t, ad, A', c', A9, c9, ho, rfl, had, g0, g1, g2, -⟩ := (hT.below b1 (Nat.le_refl _)).tx hn
      by_cases hd : t.d = 0
      · obtain ⟨rfl, rfl⟩ := HX.out.yes_ HVq.out hn (by rw [ho]; exact hd)
        have e0 : (t.d != 0) = false := by rw [bne_eq_false_iff_eq]; exact hd
        obtain ⟨gT, rfl, -⟩ := cr_head o2 hn
        obtain ⟨hx1, hx2, hgB, hx3⟩ := cr_dec o2 rfl hn 3
        obtain ⟨cs, fr, hty⟩ := o2.head rfl hn
        have n1 := ty_ne x1 hty (by decide)
        have n6 := ty_ne x6 hty (by decide)
        obtain ⟨u0, u1, -⟩ := id x6.reads
        clear HX HVq HBV HBI HB2 hd o2 hti
        go_upto_region 7 with fail
        have x1' := x1.far (p := ⟨gT, n * 3 + 2, none⟩) n1 (.int .i64 3)
        have x6' := x6.far (p := ⟨gT, n * 3 + 2, none⟩) n6 (.int .i64 3)
        have b1' := b1.setCell (p := ⟨gT, n * 3 + 2, none⟩) hgB (.int .i64 3)
        have ho' : q.ts[n] = t := ho
        clear x1 x6 b1 u0 u1 y0 y1 x0 g0 g1 g2 hx1 hx2
        obtain ⟨W, hW⟩ : ∃ x, w4.setCell ⟨gT, n * 3 + 2, none⟩ (.int .i64 3) = x := ⟨_, rfl⟩
        rw [hW] at x1' x6' b1' hx3 ⊢
        clear hW
        have x1 := x1'
        have b1 := b1'
        obtain ⟨u0, u1, -⟩ := id x6'.reads
        have o9 : OwnCr col W w.heap.size (.agg #[.slice (some ⟨gT, 0, none⟩) q.ts.length co, .slice Ab q.os.length cb]) (lateC q n hn) := hx3
        have x0 := trivial
        clear hx3 x1' b1' x6'
        obtain ⟨t0, t1, tf⟩ := id x1.reads
        have tf0 := tf 0
        have tf1 := tf 1
        clear tf
        have o10 := (o9.keptT (by decide) (by decide) (by decide) (by decide) (but_set _ (w.heap.size + 1) 0 (.slice (some ⟨gT, 0, none⟩) q.ts.length co)) (blk_type x1)).keptT (by decide) (by decide) (by decide) (by decide) (but_set _ (w.heap.size + 1) 1 (.slice Ab q.os.length cb)) (blk_type (x1.set0 _))
        have b9 := (b1.setCell (p := ⟨w.heap.size + 1, 0, none⟩) (Nat.le_succ _) (.slice (some ⟨gT, 0, none⟩) q.ts.length co)).setCell (p := ⟨w.heap.size + 1, 1, none⟩) (Nat.le_succ _) (.slice Ab q.os.length cb)
        obtain ⟨p0, p1, -⟩ := ((x1.set0 (.slice (some ⟨gT, 0, none⟩) q.ts.length co)).set1 (.slice Ab q.os.length cb)).reads
        clear x0 x1 o9 b1
        go_wp2
        exact bodyPost_ret (v := .tuple #[.agg #[.slice (some ⟨gT, 0, none⟩) q.ts.length co, .slice Ab q.os.length cb], .bool true]) (by simp [results, Tryz.results71, go_sem, p0, p1]) rfl ⟨_, _, rfl, o10, b9⟩
      · obtain ⟨rfl, rfl⟩ := HX.out.no_ HVq.out fun m hm e => by
          have e2 : n = m := by omega
          subst e2
          rw [ho]
          exact hd
        have e0 : (t.d != 0) = true := by rw [bne_iff_ne]; exact hd
        clear HX HVq HBV HBI HB2 hd hti
        obtain ⟨u0, u1, -⟩ := id x6.reads
        have o9 := o2
        clear o2
        obtain ⟨t0, t1, tf⟩ := id x1.reads
        have tf0 := tf 0
        have tf1 := tf 1
        clear tf
        have o10 := (o9.keptT (by decide) (by decide) (by decide) (by decide) (but_set _ (w.heap.size + 1) 0 (.slice Ao x.ts.length co)) (blk_type x1)).keptT (by decide) (by decide) (by decide) (by decide) (but_set _ (w.heap.size + 1) 1 (.slice Ab x.os.length cb)) (blk_type (x1.set0 _))
        have b9 := (b1.setCell (p := ⟨w.heap.size + 1, 0, none⟩) (Nat.le_succ _) (.slice Ao x.ts.length co)).setCell (p := ⟨w.heap.size + 1, 1, none⟩) (Nat.le_succ _) (.slice Ab x.os.length cb)
        obtain ⟨p0, p1, -⟩ := ((x1.set0 (.slice Ao x.ts.length co)).set1 (.slice Ab x.os.length cb)).reads
        clear x0 x1 o9 b1
        go_wp2
        exact bodyPost_ret (v := .tuple #[.agg #[.slice Ao x.ts.length co, .slice Ab x.os.length cb], .bool false]) (by simp [results, Tryz.results71, go_sem, p0, p1]) rfl ⟨_, _, rfl, o10, b9⟩
end Go.Proofs.YteaibflloeipaaaGreatDoor
/- Laws on coordinators: a coordinator is boxed. -/
/- On to the world behind D. -/
/- An exact law begins: the argument's box, its size, a copy for the model. -/
/- The program's own copy of the argument is boxed. -/
/- The program's copy is as the argument; the region draws. -/
/- Laws on functions that answer numbers. -/
/- What the boxes hold is read again. -/
/- The coordinator with the slices P4 and P5 is boxed as P6, in block P7, behind it the world P3; ahead of region P1. -/
/- The draw, the program's answer, the model's, and that they are the same: behind it w5, all facts on it by way of dx. -/
/-
  Walks: a vote, by the model.
-/
namespace Go.Proofs.YteaibflloeipaaaGreatDoor
open Go.RowKit Wo Pu Rf Co

set_option linter.unusedVariables false in
set_option linter.unusedSimpArgs false in
theorem Co.Counted.bad_ {q x : Crd} {t s : Int} {y b : Bool} (h : Counted q t s y x b) (hn : ¬ CV q) : x = none_ ∧ b = false := by
  cases h with
  | bad _ => exact ⟨rfl, rfl⟩
  | no h1 _ => exact absurd h1 hn
  | yes _ _ _ h1 => exact absurd h1 hn
set_option linter.unusedVariables false in
set_option linter.unusedSimpArgs false in
theorem Co.Counted.no_ {q x : Crd} {t s : Int} {y b : Bool} (h : Counted q t s y x b) (h1 : CV q) (h2 : ∀ n k, ¬ Awaits q t s n k) : x = q ∧ b = false := by
  cases h with
  | bad hn => exact absurd h1 hn
  | no _ _ => exact ⟨rfl, rfl⟩
  | yes n k h3 _ => exact absurd h3 (h2 n k)
set_option linter.unusedVariables false in
set_option linter.unusedSimpArgs false in
theorem Co.Counted.yes_ {q x : Crd} {t s : Int} {y b : Bool} {n k : Nat} (h : Counted q t s y x b) (h1 : CV q) (a : Awaits q t s n k) : x = (if y then yesC q n k a.hi else noC q n k a.hi) ∧ b = true := by
  cases h with
  | bad h2 => exact absurd h1 h2
  | no _ h2 => exact absurd a (h2 n k)
  | yes n' k' a' _ =>
    obtain ⟨e1, e2⟩ := a'.one h1 a
    subst e1
    subst e2
    exact ⟨rfl, rfl⟩
set_option linter.unusedVariables false in
/-- The first j of the votes are for it. -/
def OneTo (vs : List Int) (j : Nat) : Prop := ∀ i (h : i < vs.length), i < j → vs[i] = 1
set_option linter.unusedVariables false in
set_option linter.unusedSimpArgs false in
theorem OneTo.zero (vs : List Int) : OneTo vs 0 := fun _ _ h => absurd h (Nat.not_lt_zero _)
set_option linter.unusedVariables false in
set_option linter.unusedSimpArgs false in
theorem OneTo.next {vs : List Int} {j : Nat} (h : OneTo vs j) (hj : j < vs.length) (hv : vs[j] = 1) : OneTo vs (j + 1) := fun i hi hl => by
  by_cases e : i = j
  · subst e; exact hv
  · exact h i hi (by omega)
set_option linter.unusedVariables false in
set_option linter.unusedSimpArgs false in
theorem OneTo.all {vs : List Int} (h : OneTo vs vs.length) : vs.all (· == 1) = true := List.all_eq_true.2 fun v hv => by
  obtain ⟨i, hi, rfl⟩ := List.getElem_of_mem hv
  rw [beq_iff_eq]
  exact h i hi hi
set_option linter.unusedVariables false in
set_option linter.unusedSimpArgs false in
theorem not_all {vs : List Int} {j : Nat} (hj : j < vs.length) (hv : ¬ vs[j] = 1) : vs.all (· == 1) = false := by
  rw [← Bool.not_eq_true]
  exact fun e => hv (by simpa using List.all_eq_true.1 e _ (List.getElem_mem hj))
/- The coordinator in its box is stored as the answer. -/
set_option linter.unusedVariables false in
set_option linter.unusedSimpArgs false in
/-- One transaction more in the order. -/
theorem cr_order_ {col : Nat → Nat} {W2 : World} {B h1 g gT N co m cb : Nat} {n : Int} {Ab : Option Addr} {q : Crd} (h : OwnCr col W2 B (.agg #[.slice (some ⟨gT, 0, none⟩) N co, .slice Ab m cb]) q) (x1 : Blk2s W2 h1 26 (.slice none 0 0) (.slice none 0 0)) (x6 : Blk2s W2 g 26 (.slice (some ⟨gT, 0, none⟩) N co) (.slice Ab m cb)) (hg1 : h1 ≠ g) (hg2 : B ≤ g) (z : B ≤ W2.heap.size) :
    ∀ v7 w7, w7.ownsRow B 3 1 v7 (q.os.length + 1) (ints q.os ++ [.int .i64 n]) → (W2.alloc (.cells #[.int .i64 n] 3)).grownBy w7 (Value.slice Ab m cb).ownBlock → (v7.ownBlock = (Value.slice Ab m cb).ownBlock ∨ v7.ownBlock = some (W2.alloc (.cells #[.int .i64 n] 3)).heap.size) →
      ∃ A7 c7 col7, v7 = .slice A7 (q.os.length + 1) c7 ∧ (∃ v, w7.cell? ⟨g, 1, none⟩ = some v) ∧ w7.frozen? ⟨g, 1, none⟩ = false ∧
        Blk2s (w7.setCell ⟨g, 1, none⟩ (.slice A7 (q.os.length + 1) c7)) h1 26 (.slice none 0 0) (.slice none 0 0) ∧ Blk2s (w7.setCell ⟨g, 1, none⟩ (.slice A7 (q.os.length + 1) c7)) g 26 (.slice (some ⟨gT, 0, none⟩) N co) (.slice A7 (q.os.length + 1) c7) ∧
        Below B W2 (w7.setCell ⟨g, 1, none⟩ (.slice A7 (q.os.length + 1) c7)) ∧ OwnCr col7 (w7.setCell ⟨g, 1, none⟩ (.slice A7 (q.os.length + 1) c7)) B (.agg #[.slice (some ⟨gT, 0, none⟩) N co, .slice A7 (q.os.length + 1) c7]) ⟨q.ts, q.os ++ [n]⟩ := by
  intro v7 w7 hown hg hat
  obtain ⟨e1, h2, h3⟩ := h.parts
  have al := (Below.refl W2.heap.size W2).alloc (Nat.le_refl _) (.cells #[.int .i64 n] 3)
  have h2' := World.ownsRow.alloc h2 (.cells #[.int .i64 n] 3)
  have k1 := (x1.later al).grown hg (blk_ne_row (x1.later al) h2' (by decide))
  have k6 := (x6.later al).grown hg (blk_ne_row (x6.later al) h2' (by decide))
  have b7 := ((Below.refl B W2).trans (al.mono z)).grown hg (Nat.le_trans z al.size) (fun j hj => (World.ownsRow.lt h2' j hj).1)
  have o7 : OwnI w7 B v7 (q.os ++ [n]) := OwnI.app hown
  obtain ⟨A7, c7, e, -, -⟩ := o7.form
  rw [List.length_append, List.length_singleton] at e
  subst e
  have hor : ∀ k, k < W2.heap.size → col k ≠ 0 → w7.heap[k]? = W2.heap[k]? := fun k hk hc => (hg.block k (Nat.lt_of_lt_of_le hk al.size) (fun e => hc (h3 k e.symm))).trans (al.block k hk)
  have t7 : OwnTxs (tint W2 col 0) w7 B (.slice (some ⟨gT, 0, none⟩) N co) q.ts := by
    obtain ⟨xs, r1, r2, r3⟩ := e1
    refine ⟨xs, row_same r1 fun j hj => hor j (World.ownsRow.lt r1 j hj).2 (by rw [r3 j hj]; decide), fun j hj => ?_, tint_old r1 r3⟩
    obtain ⟨a, b, s0, s1, s2, s3⟩ := r2 j hj
    exact ⟨a, b, s0, s1, s2, s3.map fun e sz n u ys he hr hc => ⟨row_same hr fun i hi => hor i (World.ownsRow.lt hr i hi).2 (by rw [hc i hi]; omega), tint_old hr hc⟩⟩
  have c0 : ColV (tint W2 col 0) 0 (.slice A7 (q.os.length + 1) c7) := fun k hk => by
    rw [hk] at hat
    rcases hat with e | e
    · exact tint_old h2 h3 k e.symm
    · injection e with e
      unfold tint
      rw [if_neg (by rw [e]; simp)]
  refine ⟨A7, c7, tint W2 col 0, rfl, ⟨_, k6.reads.2.1⟩, k6.reads.2.2 1, k1.far (by show h1 ≠ g; exact hg1) _, k6.set1 _, b7.setCell (by show B ≤ g; exact hg2) _, _, _, rfl, t7.keptT (by decide) (by decide) (by decide) (by decide) (but_set w7 g 1 _) (blk_type k6), row_far_type o7 (by decide) (but_set w7 g 1 _) (blk_type k6), c0⟩
set_option linter.unusedVariables false in
set_option linter.unusedSimpArgs false in
theorem cr_order {col : Nat → Nat} {w W2 : World} {g gT N co m cb : Nat} {n : Int} {Ab : Option Addr} {q : Crd} (h : OwnCr col W2 w.heap.size (.agg #[.slice (some ⟨gT, 0, none⟩) N co, .slice Ab m cb]) q) (x1 : Blk2s W2 (w.heap.size + 1) 26 (.slice none 0 0) (.slice none 0 0)) (x6 : Blk2s W2 g 26 (.slice (some ⟨gT, 0, none⟩) N co) (.slice Ab m cb)) (hg2 : w.heap.size + 1 < g) (b1 : Below w.heap.size w W2) :
    ∀ v7 w7, w7.ownsRow w.heap.size 3 1 v7 (q.os.length + 1) (ints q.os ++ [.int .i64 n]) → (W2.alloc (.cells #[.int .i64 n] 3)).grownBy w7 (Value.slice Ab m cb).ownBlock → (v7.ownBlock = (Value.slice Ab m cb).ownBlock ∨ v7.ownBlock = some (W2.alloc (.cells #[.int .i64 n] 3)).heap.size) →
      ∃ A7 c7 col7, v7 = .slice A7 (q.os.length + 1) c7 ∧ (∃ v, w7.cell? ⟨g, 1, none⟩ = some v) ∧ w7.frozen? ⟨g, 1, none⟩ = false ∧
        Blk2s (w7.setCell ⟨g, 1, none⟩ (.slice A7 (q.os.length + 1) c7)) (w.heap.size + 1) 26 (.slice none 0 0) (.slice none 0 0) ∧ Blk2s (w7.setCell ⟨g, 1, none⟩ (.slice A7 (q.os.length + 1) c7)) g 26 (.slice (some ⟨gT, 0, none⟩) N co) (.slice A7 (q.os.length + 1) c7) ∧
        Below w.heap.size w (w7.setCell ⟨g, 1, none⟩ (.slice A7 (q.os.length + 1) c7)) ∧ OwnCr col7 (w7.setCell ⟨g, 1, none⟩ (.slice A7 (q.os.length + 1) c7)) w.heap.size (.agg #[.slice (some ⟨gT, 0, none⟩) N co, .slice A7 (q.os.length + 1) c7]) ⟨q.ts, q.os ++ [n]⟩ := by
  intro v7 w7 hown hg hat
  obtain ⟨A7, c7, col7, e, q1, q2, q3, q4, q5, q6⟩ := cr_order_ h x1 x6 (by omega) (by omega) b1.size v7 w7 hown hg hat
  exact ⟨A7, c7, col7, e, q1, q2, q3, q4, b1.trans q5, q6⟩
/- A vote X is stored: W is the world behind it. -/
set_option linter.unusedSimpArgs false in
set_option linter.unusedVariables false in
set_option maxRecDepth 100000 in
set_option maxHeartbeats 16000000 in
theorem l22Vote_any (x : Crd) (v : Value) (q : Crd) (n k : Nat) (y : Bool) (w : World) (h : Crdd w w.heap.size v q) (hf : FitC q) (hn : n < q.ts.length) (hk : k < q.ts[n].vs.length) (hd : q.ts[n].d = 0) (hx : x = if y then yesC q n k hn else noC q n k hn) :
    Calls Tryz.prog 107 #[v, .int .i64 n, .int .i64 k, .bool y] w (NewCr x w) := by
  have HX := hid hx
  clear hx
  obtain ⟨i1, hj, hy0, hy1, hy2⟩ := info_of info_int
  have CCop : Hid (∀ y, Below w.heap.size w y → Calls Tryz.prog 59 #[v] y (NewCr q y)) := fun y hy => l22Copy_any v q y (h.on hy hy.size) hf
  have hf1 := hf.ts
  have hf2 := hf.os
  have hfv := (hf.ps _ (List.getElem_mem hn)).2
  obtain ⟨A, c, A2, c2, rfl, -, hc, -, hc2⟩ := h
  clear hf
  unfold crV at *
  have b1 := ((Below.refl w.heap.size w).alloc (Nat.le_refl _) (.cells #[.slice A q.ts.length c, .slice A2 q.os.length c2] 26)).alloc (by simp) (.cells #[.slice none 0 0, .slice none 0 0] 26)
  have x0 := (Blk2s.new_ w 26 (.slice A q.ts.length c) (.slice A2 q.os.length c2)).alloc (.cells #[.slice none 0 0, .slice none 0 0] 26)
  have x1 := Blk2s.new_ (w.alloc (.cells #[.slice A q.ts.length c, .slice A2 q.os.length c2] 26)) 26 (.slice none 0 0) (.slice none 0 0)
  rw [World.size_alloc] at x1
  go_enter Tryz.func107, Tryz.ntmps107
  go_upto_region 1 with fail
  obtain ⟨w1, hw1⟩ : ∃ w1, (w.alloc (.cells #[.slice A q.ts.length c, .slice A2 q.os.length c2] 26)).alloc (.cells #[.slice none 0 0, .slice none 0 0] 26) = w1 := ⟨_, rfl⟩
  rw [hw1] at b1 x0 x1 ⊢
  clear hw1
  obtain ⟨y0, y1, -⟩ := id x0.reads
  have zc := b1.size
  go_wp2_with fail
  refine (CCop.out _ b1).mono ?_
  rintro e w2 ⟨v2, col, rfl, o2, d⟩
  replace x0 := x0.later d
  replace x1 := x1.later d
  replace b1 := b1.trans (d.mono b1.size)
  clear y0 y1
  obtain ⟨y0, y1, -⟩ := id x0.reads
  obtain ⟨Ao, co, Ab, cb, rfl, -, -, -, -, -, -, -⟩ := o2.form
  unfold crV at o2 ⊢
  have HB2 : Hid (w.heap.size + 1 < w2.heap.size) := x1.lt
  replace o2 := o2.base (B' := w.heap.size) zc
  have d := (Below.refl w2.heap.size w2).alloc (Nat.le_refl _) (.cells #[.slice Ao q.ts.length co, .slice Ab q.os.length cb] 26)
  have x6 := Blk2s.new_ w2 26 (.slice Ao q.ts.length co) (.slice Ab q.os.length cb)
  replace o2 := o2.below d
  replace x0 := x0.later d
  replace x1 := x1.later d
  replace b1 := b1.trans (d.mono b1.size)
  clear y0 y1
  obtain ⟨y0, y1, -⟩ := id x0.reads
  go_upto_region 2 with fail
  obtain ⟨w3, hw3⟩ : ∃ x, w2.alloc (.cells #[.slice Ao q.ts.length co, .slice Ab q.os.length cb] 26) = x := ⟨_, rfl⟩
  obtain ⟨g, hg⟩ : ∃ x, w2.heap.size = x := ⟨_, rfl⟩
  rw [hw3] at x0 x1 b1 y0 y1 x6 o2 ⊢
  rw [hg] at x6 HB2 ⊢
  clear hw3 hg d CCop y0 y1
  cases y with
  | false =>
    obtain rfl : x = noC q n k hn := by rw [HX.out]; rfl
    obtain ⟨gT, rfl, hNN⟩ := cr_head o2 hn
    clear hNN
    obtain ⟨g2, c9, q0, q1, q2, q3, ⟨cs2, fr2, hty2⟩, HV⟩ := cr_vote o2 rfl hn hk
    have o3 := HV (-1)
    have n1 := ty_ne x1 hty2 (by decide)
    have n6 := ty_ne x6 hty2 (by decide)
    obtain ⟨u0, u1, -⟩ := id x6.reads
    have k0 : (0 : Int) ≤ (n : Int) := by omega
    have k1 : (n : Int) < (q.ts.length : Int) := by omega
    have k2 : (0 : Int) ≤ (k : Int) := by omega
    have k3 : (k : Int) < (q.ts[n].vs.length : Int) := by omega
    have x1' := x1.far (p := ⟨g2, k, none⟩) n1 (.int .i64 (-1))
    have x6' := x6.far (p := ⟨g2, k, none⟩) n6 (.int .i64 (-1))
    have b1' := b1.setCell (p := ⟨g2, k, none⟩) q3 (.int .i64 (-1))
    clear HV hty2 n1 n6
    go_upto_region 4 with fail
    clear x1 x6 b1 u0 u1 q0 q1 q2 q3 o2
    obtain ⟨W, hW⟩ : ∃ x, w3.setCell ⟨g2, k, none⟩ (.int .i64 (-1)) = x := ⟨_, rfl⟩
    rw [hW] at x1' x6' b1' o3 ⊢
    clear hW
    obtain ⟨u0, u1, -⟩ := id x6'.reads
    obtain ⟨q4, q5, q6, o4⟩ := cr_dec o3 (by simp) (n := n) (by simpa using hn) 3
    obtain ⟨cs, fr, hty⟩ := o3.head (by simp) (n := n) (by simpa using hn)
    have n1 := ty_ne x1' hty (by decide)
    have n6 := ty_ne x6' hty (by decide)
    have x1 := x1'.far (p := ⟨gT, n * 3 + 2, none⟩) n1 (.int .i64 3)
    have x6 := x6'.far (p := ⟨gT, n * 3 + 2, none⟩) n6 (.int .i64 3)
    have b1 := b1'.setCell (p := ⟨gT, n * 3 + 2, none⟩) q6 (.int .i64 3)
    have e9 : (⟨(q.ts.set n ⟨q.ts[n].ps, q.ts[n].vs.set k (-1), q.ts[n].d⟩).set n ⟨((q.ts.set n ⟨q.ts[n].ps, q.ts[n].vs.set k (-1), q.ts[n].d⟩)[n]'(by simpa using hn)).ps, ((q.ts.set n ⟨q.ts[n].ps, q.ts[n].vs.set k (-1), q.ts[n].d⟩)[n]'(by simpa using hn)).vs, 3⟩, q.os⟩ : Crd) = noC q n k hn := by
      unfold noC noTx
      simp
    have o9 := o4
    simp only at o9
    rw [e9] at o9
    clear o4 e9 o3 x1' x6' b1' hty n1 n6
    simp only at q4 q5
    go_upto_region 5 with fail
    clear u0 u1 q4 q5
    obtain ⟨W2, hW⟩ : ∃ x, W.setCell ⟨gT, n * 3 + 2, none⟩ (.int .i64 3) = x := ⟨_, rfl⟩
    rw [hW] at x1 x6 b1 o9 ⊢
    clear hW
    obtain ⟨u0, u1, -⟩ := id x6.reads
    obtain ⟨t0, t1, tf⟩ := id x1.reads
    have tf0 := tf 0
    have tf1 := tf 1
    clear tf
    have o10 := (o9.keptT (by decide) (by decide) (by decide) (by decide) (but_set _ (w.heap.size + 1) 0 (.slice (some ⟨gT, 0, none⟩) q.ts.length co)) (blk_type x1)).keptT (by decide) (by decide) (by decide) (by decide) (but_set _ (w.heap.size + 1) 1 (.slice Ab q.os.length cb)) (blk_type (x1.set0 _))
    have b9 := (b1.setCell (p := ⟨w.heap.size + 1, 0, none⟩) (Nat.le_succ _) (.slice (some ⟨gT, 0, none⟩) q.ts.length co)).setCell (p := ⟨w.heap.size + 1, 1, none⟩) (Nat.le_succ _) (.slice Ab q.os.length cb)
    obtain ⟨p0, p1, -⟩ := ((x1.set0 (.slice (some ⟨gT, 0, none⟩) q.ts.length co)).set1 (.slice Ab q.os.length cb)).reads
    clear x0 x1 o9 b1
    go_wp2
    exact bodyPost_ret (v := .agg #[.slice (some ⟨gT, 0, none⟩) q.ts.length co, .slice Ab q.os.length cb]) (by simp [results, Tryz.results107, go_sem, p0, p1]) rfl ⟨_, _, rfl, o10, b9⟩
  | true =>
    replace HX : Hid (x = yesC q n k hn) := HX.out.trans (if_pos rfl)
    obtain ⟨gT, rfl, hNN⟩ := cr_head o2 hn
    clear hNN
    obtain ⟨g2, c9, q0, q1, q2, q3, ⟨cs2, fr2, hty2⟩, HV⟩ := cr_vote o2 rfl hn hk
    have o3 := HV (1)
    have n1 := ty_ne x1 hty2 (by decide)
    have n6 := ty_ne x6 hty2 (by decide)
    obtain ⟨u0, u1, -⟩ := id x6.reads
    have k0 : (0 : Int) ≤ (n : Int) := by omega
    have k1 : (n : Int) < (q.ts.length : Int) := by omega
    have k2 : (0 : Int) ≤ (k : Int) := by omega
    have k3 : (k : Int) < (q.ts[n].vs.length : Int) := by omega
    have x1' := x1.far (p := ⟨g2, k, none⟩) n1 (.int .i64 (1))
    have x6' := x6.far (p := ⟨g2, k, none⟩) n6 (.int .i64 (1))
    have b1' := b1.setCell (p := ⟨g2, k, none⟩) q3 (.int .i64 (1))
    clear HV hty2 n1 n6
    go_upto_region 7 with fail
    clear x1 x6 b1 u0 u1 q0 q1 q2 q3 o2
    obtain ⟨W, hW⟩ : ∃ x, w3.setCell ⟨g2, k, none⟩ (.int .i64 (1)) = x := ⟨_, rfl⟩
    rw [hW] at x1' x6' b1' o3 ⊢
    clear hW
    obtain ⟨u0, u1, -⟩ := id x6'.reads
    obtain ⟨AV, cV, q0, q1⟩ := cr_votes o3 (by simp) (n := n) (by simpa using hn)
    have HX1 := hid x1'
    have HX6 := hid x6'
    have HB1 := hid b1'
    have HO3 := hid o3
    simp only [List.getElem_set_self, List.length_set] at q0 q1
    obtain ⟨vs, hvs⟩ : ∃ vs, q.ts[n].vs.set k 1 = vs := ⟨_, rfl⟩
    have hvl : vs.length = q.ts[n].vs.length := by rw [← hvs, List.length_set]
    rw [hvs] at q1
    rw [← hvl] at q0 hfv
    have HVS := hid hvs
    have HD := hid hd
    clear x1' x6' b1' o3 hvs hvl k2 k3 hk hd
    go_wp2_with fail
    go_loop [10] (fun i => ∃ j : Nat, j ≤ vs.length ∧ i = .int .i64 j ∧ Hid (OneTo vs j)) (fun i => vs.length - (intOf i).toNat)
    case atStart => exact ⟨0, Nat.zero_le _, rfl, .zero vs⟩
    case round =>
      obtain ⟨j, hj9, rfl, H⟩ := hrel
      by_cases hlt : j < vs.length
      · obtain ⟨ad, rfl, hbl, hc9⟩ := q1.int_ hlt
        have j0 : (0 : Int) ≤ (j : Int) := by omega
        have j1 : (j : Int) < (vs.length : Int) := by omega
        by_cases hv : vs[j] = 1
        · have e0 : (vs[j] != 1) = false := by rw [bne_eq_false_iff_eq]; exact hv
          have HN := hid (H.out.next hlt hv)
          clear H hv
          go_wp2
          go_round
          case rel => exact ⟨j + 1, by omega, by go_num, HN⟩
          case measure => simp [intOf]; omega
        · have e0 : (vs[j] != 1) = true := by rw [bne_iff_ne]; exact hv
          have hna := not_all hlt hv
          have hxx : x = ⟨q.ts.set n ⟨q.ts[n].ps, q.ts[n].vs.set k 1, q.ts[n].d⟩, q.os⟩ := by
            rw [HX.out]
            unfold yesC yesTx
            rw [HVS.out, if_neg (by rw [hna]; decide), if_neg (by rw [hna]; decide), HD.out]
          have o9 := HO3.out
          rw [← hxx] at o9
          have x1 := HX1.out
          have b1 := HB1.out
          clear H hv hna hxx HX1 HX6 HB1 HO3
          obtain ⟨t0, t1, tf⟩ := id x1.reads
          have tf0 := tf 0
          have tf1 := tf 1
          clear tf
          have o10 := (o9.keptT (by decide) (by decide) (by decide) (by decide) (but_set _ (w.heap.size + 1) 0 (.slice (some ⟨gT, 0, none⟩) q.ts.length co)) (blk_type x1)).keptT (by decide) (by decide) (by decide) (by decide) (but_set _ (w.heap.size + 1) 1 (.slice Ab q.os.length cb)) (blk_type (x1.set0 _))
          have b9 := (b1.setCell (p := ⟨w.heap.size + 1, 0, none⟩) (Nat.le_succ _) (.slice (some ⟨gT, 0, none⟩) q.ts.length co)).setCell (p := ⟨w.heap.size + 1, 1, none⟩) (Nat.le_succ _) (.slice Ab q.os.length cb)
          obtain ⟨p0, p1, -⟩ := ((x1.set0 (.slice (some ⟨gT, 0, none⟩) q.ts.length co)).set1 (.slice Ab q.os.length cb)).reads
          clear x0 x1 o9 b1
          go_wp2
          exact bodyPost_ret (v := .agg #[.slice (some ⟨gT, 0, none⟩) q.ts.length co, .slice Ab q.os.length cb]) (by simp [results, Tryz.results107, go_sem, p0, p1]) rfl ⟨_, _, rfl, o10, b9⟩
      · have hk' : j = vs.length := by omega
        subst hk'
        have hall := H.out.all
        have hxx : x = ⟨(q.ts.set n ⟨q.ts[n].ps, q.ts[n].vs.set k 1, q.ts[n].d⟩).set n ⟨q.ts[n].ps, q.ts[n].vs.set k 1, 2⟩, q.os ++ [(n : Int)]⟩ := by
          rw [HX.out]
          unfold yesC yesTx
          rw [HVS.out, if_pos hall, if_pos hall, List.set_set]
        obtain ⟨q4, q5, q6, o4⟩ := cr_dec HO3.out (by simp) (n := n) (by simpa using hn) 2
        obtain ⟨cs, fr, hty⟩ := HO3.out.head (by simp) (n := n) (by simpa using hn)
        have n1 := ty_ne HX1.out hty (by decide)
        have n6 := ty_ne HX6.out hty (by decide)
        have x1 := HX1.out.far (p := ⟨gT, n * 3 + 2, none⟩) n1 (.int .i64 2)
        have x6 := HX6.out.far (p := ⟨gT, n * 3 + 2, none⟩) n6 (.int .i64 2)
        have b1 := HB1.out.setCell (p := ⟨gT, n * 3 + 2, none⟩) q6 (.int .i64 2)
        simp only [List.getElem_set_self] at o4 q4
        clear H hall HX1 HX6 HB1 HO3 hty n1 n6 q1 HX HVS hlt hj9
        go_upto_region 13 with fail
        obtain ⟨W2, hW⟩ : ∃ x, W.setCell ⟨gT, n * 3 + 2, none⟩ (.int .i64 2) = x := ⟨_, rfl⟩
        rw [hW] at x1 x6 b1 o4 ⊢
        clear hW u0 u1 q4 q5 q6 q0
        obtain ⟨u0, u1, uf⟩ := id x6.reads
        obtain ⟨oT, oI, oC⟩ := o4.parts
        have rI := World.ownsRow.alloc oI (.cells #[.int .i64 n] 3)
        have zI := b1.size
        have HP : Hid (∀ v7 w7, w7.ownsRow w.heap.size 3 1 v7 (q.os.length + 1) (ints q.os ++ [.int .i64 n]) → (W2.alloc (.cells #[.int .i64 n] 3)).grownBy w7 (Value.slice Ab q.os.length cb).ownBlock → (v7.ownBlock = (Value.slice Ab q.os.length cb).ownBlock ∨ v7.ownBlock = some (W2.alloc (.cells #[.int .i64 n] 3)).heap.size) →
            ∃ A7 c7 col7, v7 = .slice A7 (q.os.length + 1) c7 ∧ (∃ v, w7.cell? ⟨g, 1, none⟩ = some v) ∧ w7.frozen? ⟨g, 1, none⟩ = false ∧
              Blk2s (w7.setCell ⟨g, 1, none⟩ (.slice A7 (q.os.length + 1) c7)) (w.heap.size + 1) 26 (.slice none 0 0) (.slice none 0 0) ∧ Blk2s (w7.setCell ⟨g, 1, none⟩ (.slice A7 (q.os.length + 1) c7)) g 26 (.slice (some ⟨gT, 0, none⟩) q.ts.length co) (.slice A7 (q.os.length + 1) c7) ∧
              Below w.heap.size w (w7.setCell ⟨g, 1, none⟩ (.slice A7 (q.os.length + 1) c7)) ∧ OwnCr col7 (w7.setCell ⟨g, 1, none⟩ (.slice A7 (q.os.length + 1) c7)) w.heap.size (.agg #[.slice (some ⟨gT, 0, none⟩) q.ts.length co, .slice A7 (q.os.length + 1) c7]) x) := by
          rw [hxx]
          exact cr_order o4 x1 x6 (by have := HB2.out; omega) b1
        clear hxx x1 b1 oT oI oC o4 x6
        have ui := uf 1
        clear uf
        go_upto_region 14 with (at_builtin; go_must (refine wpList_append_own_at _ rfl _ _ 24 rfl w.heap.size 3 i1 (.int .i64 0) 1 8 Tryz.underlying24 hj hy0 hy1 hy2 rfl (by decide) (.slice Ab q.os.length cb) q.os.length _ rfl rI ⟨W2.heap.size, 0, none⟩ 1 1 [.int .i64 n] rfl rfl (cell_one_new _ _ _) (one_int _) (by unfold maxLen; omega) (by omega) (by simp; omega) ?_); intro v7 w7 hown hg _ hat; obtain ⟨A7, c7, col7, rfl, ⟨v4, t4⟩, f4, x1, x6, b1, o9⟩ := HP.out _ _ hown hg hat)
        clear HP rI hown hg u0 u1 ui
        obtain ⟨W3, hW⟩ : ∃ x, w7.setCell ⟨g, 1, none⟩ (.slice A7 (q.os.length + 1) c7) = x := ⟨_, rfl⟩
        rw [hW] at x1 x6 b1 o9 ⊢
        clear hW t4 f4
        obtain ⟨u0, u1, -⟩ := id x6.reads
        obtain ⟨t0, t1, tf⟩ := id x1.reads
        have tf0 := tf 0
        have tf1 := tf 1
        clear tf
        have o10 := (o9.keptT (by decide) (by decide) (by decide) (by decide) (but_set _ (w.heap.size + 1) 0 (.slice (some ⟨gT, 0, none⟩) q.ts.length co)) (blk_type x1)).keptT (by decide) (by decide) (by decide) (by decide) (but_set _ (w.heap.size + 1) 1 (.slice A7 (q.os.length + 1) c7)) (blk_type (x1.set0 _))
        have b9 := (b1.setCell (p := ⟨w.heap.size + 1, 0, none⟩) (Nat.le_succ _) (.slice (some ⟨gT, 0, none⟩) q.ts.length co)).setCell (p := ⟨w.heap.size + 1, 1, none⟩) (Nat.le_succ _) (.slice A7 (q.os.length + 1) c7)
        obtain ⟨p0, p1, -⟩ := ((x1.set0 (.slice (some ⟨gT, 0, none⟩) q.ts.length co)).set1 (.slice A7 (q.os.length + 1) c7)).reads
        clear x0 x1 o9 b1
        go_wp2
        exact bodyPost_ret (v := .agg #[.slice (some ⟨gT, 0, none⟩) q.ts.length co, .slice A7 (q.os.length + 1) c7]) (by simp [results, Tryz.results107, go_sem, p0, p1]) rfl ⟨_, _, rfl, o10, b9⟩
/- The end of a refusal: a copy is answered. -/
set_option linter.unusedSimpArgs false in
set_option linter.unusedVariables false in
set_option maxRecDepth 100000 in
set_option maxHeartbeats 16000000 in
theorem specCoordinatorVote_is (x : Crd) (b : Bool) (v : Value) (q : Crd) (t s : Int) (y : Bool) (w : World) (h : Crdd w w.heap.size v q) (hf : FitC q) (hx : Counted q t s y x b) :
    Calls Tryz.prog 72 #[v, .int .i64 t, .int .i64 s, .bool y] w (NewCrB x b w) := by
  obtain ⟨bv, hbv⟩ := bool_ofP' (CV q)
  obtain ⟨bi, hbi⟩ := bool_of (0 ≤ t ∧ t ≤ (q.ts.length : Int) - 1)
  have HX := hid hx
  have HBV := hid hbv
  have HBI := hid hbi
  have HF := hid hf
  have CVal : Hid (∀ y, Below w.heap.size w y → Calls Tryz.prog 37 #[v] y (Ret (.bool bv) y)) := fun y hy => specCoordinatorValid_is bv v q y (h.on hy hy.size) hf hbv
  have CCop : Hid (∀ y, Below w.heap.size w y → Calls Tryz.prog 59 #[v] y (NewCr q y)) := fun y hy => l22Copy_any v q y (h.on hy hy.size) hf
  have CI : Hid (∀ y, Calls Tryz.prog 44 #[.int .i64 t, .int .i64 0, .int .i64 ((q.ts.length : Int) - 1)] y (Ret (.bool bi) y)) := fun y => (l6In_is bi _ _ _ y hbi).mono fun _ _ h => h.ret
  have hf1 := hf.ts
  have qw : IntKind.i64.wrap ((q.ts.length : Int) - 1) = (q.ts.length : Int) - 1 := IntWalk.i64_in _ (by omega)
  have HV0 : Hid (∀ y, Below w.heap.size w y → Crdd y y.heap.size v q) := fun y hy => h.on hy hy.size
  clear hx hbv hbi
  obtain ⟨A, c, A2, c2, rfl, hT, hc, -, hc2⟩ := h
  clear hf
  unfold crV at *
  have b1 := ((Below.refl w.heap.size w).alloc (Nat.le_refl _) (.cells #[.slice A q.ts.length c, .slice A2 q.os.length c2] 26)).alloc (by simp) (.cells #[.slice none 0 0, .slice none 0 0] 26)
  have x0 := (Blk2s.new_ w 26 (.slice A q.ts.length c) (.slice A2 q.os.length c2)).alloc (.cells #[.slice none 0 0, .slice none 0 0] 26)
  have x1 := Blk2s.new_ (w.alloc (.cells #[.slice A q.ts.length c, .slice A2 q.os.length c2] 26)) 26 (.slice none 0 0) (.slice none 0 0)
  rw [World.size_alloc] at x1
  go_enter Tryz.func72, Tryz.ntmps72
  go_upto_region 1 with fail
  obtain ⟨w1, hw1⟩ : ∃ w1, (w.alloc (.cells #[.slice A q.ts.length c, .slice A2 q.os.length c2] 26)).alloc (.cells #[.slice none 0 0, .slice none 0 0] 26) = w1 := ⟨_, rfl⟩
  rw [hw1] at b1 x0 x1 ⊢
  clear hw1
  obtain ⟨y0, y1, -⟩ := id x0.reads
  go_wp2_with fail
  refine (CVal.out _ b1).mono ?_
  rintro e w2 ⟨rfl, d⟩
  replace x0 := x0.later d
  replace x1 := x1.later d
  replace b1 := b1.trans (d.mono b1.size)
  clear y0 y1
  obtain ⟨y0, y1, -⟩ := id x0.reads
  clear d
  cases bv with
  | false =>
    obtain ⟨rfl, rfl⟩ := HX.out.bad_ fun e => by have := HBV.out.2 e; cases this
    clear HX CVal CCop CI
    obtain ⟨t0, t1, tf⟩ := id x1.reads
    have tf0 := tf 0
    have tf1 := tf 1
    clear tf
    obtain ⟨p0, p1, -⟩ := ((x1.set0 (.slice none 0 0)).set1 (.slice none 0 0)).reads
    have b7 := (b1.setCell (p := ⟨w.heap.size + 1, 0, none⟩) (Nat.le_succ _) (.slice none 0 0)).setCell (p := ⟨w.heap.size + 1, 1, none⟩) (Nat.le_succ _) (.slice none 0 0)
    go_wp2
    exact bodyPost_ret (v := .tuple #[.agg #[.slice none 0 0, .slice none 0 0], .bool false]) (by simp [results, Tryz.results72, go_sem, p0, p1]) rfl ⟨_, _, rfl, OwnCr.none_ _ _, b7⟩
  | true =>
    have HVq := hid (HBV.out.1 rfl)
    clear CVal
    go_wp2_with fail
    refine (CI.out _).mono ?_
    rintro e w2 ⟨rfl, d⟩
    replace x0 := x0.later d
    replace x1 := x1.later d
    replace b1 := b1.trans (d.mono b1.size)
    clear y0 y1
    obtain ⟨y0, y1, -⟩ := id x0.reads
    clear d CI
    cases bi with
    | false =>
      have HNo : Hid (x = q ∧ b = false) := HX.out.no_ HVq.out fun n k a => by
        have h1 := a.hi
        have h2 := a.ht
        exact absurd (HBI.out.2 ⟨by omega, by omega⟩) (by decide)
      obtain ⟨rfl, rfl⟩ := HNo.out
      have zc := b1.size
      clear HX HVq HBV
      go_wp2_with fail
      refine (CCop.out _ b1).mono ?_
      rintro e w2 ⟨v2, col, rfl, o2, d⟩
      replace x0 := x0.later d
      replace x1 := x1.later d
      replace b1 := b1.trans (d.mono b1.size)
      clear y0 y1
      obtain ⟨y0, y1, -⟩ := id x0.reads
      obtain ⟨Ao, co, Ab, cb, rfl, -, -, -, -, -, -, -⟩ := o2.form
      unfold crV at o2 ⊢
      have o9 := o2.base (B' := w.heap.size) zc
      clear o2 d CCop zc
      obtain ⟨t0, t1, tf⟩ := id x1.reads
      have tf0 := tf 0
      have tf1 := tf 1
      clear tf
      have o10 := (o9.keptT (by decide) (by decide) (by decide) (by decide) (but_set _ (w.heap.size + 1) 0 (.slice Ao x.ts.length co)) (blk_type x1)).keptT (by decide) (by decide) (by decide) (by decide) (but_set _ (w.heap.size + 1) 1 (.slice Ab x.os.length cb)) (blk_type (x1.set0 _))
      have b9 := (b1.setCell (p := ⟨w.heap.size + 1, 0, none⟩) (Nat.le_succ _) (.slice Ao x.ts.length co)).setCell (p := ⟨w.heap.size + 1, 1, none⟩) (Nat.le_succ _) (.slice Ab x.os.length cb)
      obtain ⟨p0, p1, -⟩ := ((x1.set0 (.slice Ao x.ts.length co)).set1 (.slice Ab x.os.length cb)).reads
      clear x0 x1 o9 b1
      go_wp2
      exact bodyPost_ret (v := .tuple #[.agg #[.slice Ao x.ts.length co, .slice Ab x.os.length cb], .bool false]) (by simp [results, Tryz.results72, go_sem, p0, p1]) rfl ⟨_, _, rfl, o10, b9⟩
    | true =>
      have hti := HBI.out.1 rfl
      obtain ⟨n, rfl⟩ := Int.eq_ofNat_of_zero_le hti.1
      have hn : n < q.ts.length := by omega
      have k0 : (0 : Int) ≤ (n : Int) := by omega
      have k1 : (n : Int) < (q.ts.length : Int) := by omega
      clear hti HBI
      obtain ⟨t, ad, A', c', A9, c9, ho, rfl, had, g0, g1, g2, -, -, g5, g6⟩ := (hT.below b1 (Nat.le_refl _)).tx hn
      have htv := HVq.out.txs t (by rw [← ho]; exact List.getElem_mem hn)
      have hps := (HF.out.ps t (by rw [← ho]; exact List.getElem_mem hn)).1
      obtain ⟨z, hz⟩ := ix_ex t.ps s
      have CS := hid (l22Shard_is z A' c' t.ps s w2 w.heap.size g5 (by omega) hz)
      have HO := hid ho
      have HZ := hid hz
      clear hz g5 hps
      go_wp2_with fail
      refine CS.out.mono ?_
      rintro e w3 ⟨rfl, rfl⟩
      clear CS
      rcases HZ.out with ⟨k, hk, rfl, hks, -⟩ | ⟨rfl, hnk⟩
      · have hkv : k < t.vs.length := by rw [htv.len]; exact hk
        have k2 : (0 : Int) ≤ (k : Int) := by omega
        have k3 : (k : Int) < (t.vs.length : Int) := by omega
        have k4 : ¬ ((k : Int) < 0) := by omega
        have k5 : decide ((k : Int) < 0) = false := decide_eq_false k4
        obtain ⟨ad2, rfl, hbl, hcv⟩ := g6.int_ hkv
        by_cases hd : t.d = 0
        · have e0 : (t.d != 0) = false := by rw [bne_eq_false_iff_eq]; exact hd
          by_cases hv0 : t.vs[k] = 0
          · have e1 : (t.vs[k] != 0) = false := by rw [bne_eq_false_iff_eq]; exact hv0
            have haw : Awaits q (n : Int) s n k := by
              refine ⟨⟨hn, ?_, ?_, ?_⟩, rfl, ?_, ?_⟩
              · rw [ho]; exact hd
              · rw [ho]; exact hkv
              · simp only [ho]; exact hv0
              · rw [ho]; exact hk
              · simp only [ho]; exact hks
            obtain ⟨hxx, rfl⟩ := HX.out.yes_ HVq.out haw
            have CVo := hid fun w9 hw9 => l22Vote_any x (.agg #[.slice (some ad) q.ts.length c, .slice A2 q.os.length c2]) q n k y w9 (HV0.out w9 hw9) HF.out hn (by rw [ho]; exact hkv) (by rw [ho]; exact hd) hxx
            clear HX HVq HBV hd hv0 hxx haw CCop ho htv HZ
            have zc := b1.size
            go_wp2_with fail
            refine (CVo.out _ b1).mono ?_
            rintro e w2 ⟨v2, col, rfl, o2, d⟩
            replace x0 := x0.later d
            replace x1 := x1.later d
            replace b1 := b1.trans (d.mono b1.size)
            clear y0 y1
            obtain ⟨y0, y1, -⟩ := id x0.reads
            obtain ⟨Ao, co, Ab, cb, rfl, -, -, -, -, -, -, -⟩ := o2.form
            unfold crV at o2 ⊢
            have o9 := o2.base (B' := w.heap.size) zc
            clear o2 d CVo zc g0 g1 g2 hcv
            obtain ⟨t0, t1, tf⟩ := id x1.reads
            have tf0 := tf 0
            have tf1 := tf 1
            clear tf
            have o10 := (o9.keptT (by decide) (by decide) (by decide) (by decide) (but_set _ (w.heap.size + 1) 0 (.slice Ao x.ts.length co)) (blk_type x1)).keptT (by decide) (by decide) (by decide) (by decide) (but_set _ (w.heap.size + 1) 1 (.slice Ab x.os.length cb)) (blk_type (x1.set0 _))
            have b9 := (b1.setCell (p := ⟨w.heap.size + 1, 0, none⟩) (Nat.le_succ _) (.slice Ao x.ts.length co)).setCell (p := ⟨w.heap.size + 1, 1, none⟩) (Nat.le_succ _) (.slice Ab x.os.length cb)
            obtain ⟨p0, p1, -⟩ := ((x1.set0 (.slice Ao x.ts.length co)).set1 (.slice Ab x.os.length cb)).reads
            clear x0 x1 o9 b1
            go_wp2
            exact bodyPost_ret (v := .tuple #[.agg #[.slice Ao x.ts.length co, .slice Ab x.os.length cb], .bool true]) (by simp [results, Tryz.results72, go_sem, p0, p1]) rfl ⟨_, _, rfl, o10, b9⟩
          · have e1 : (t.vs[k] != 0) = true := by rw [bne_iff_ne]; exact hv0
            have HNo : Hid (x = q ∧ b = false) := HX.out.no_ HVq.out fun n' k' a => by
              have e := a.ht
              have e2 : n' = n := by omega
              subst e2
              have h1 := a.hs
              have h2 := a.v0
              have h3 := a.kp
              simp only [ho] at h1 h2 h3
              have e3 : k' = k := parts_one htv.parts h3 hk (h1.trans hks.symm)
              subst e3
              exact hv0 h2
            clear hv0 hd ho htv HZ
            obtain ⟨rfl, rfl⟩ := HNo.out
            have zc := b1.size
            clear HX HVq HBV
            go_wp2_with fail
            refine (CCop.out _ b1).mono ?_
            rintro e w2 ⟨v2, col, rfl, o2, d⟩
            replace x0 := x0.later d
            replace x1 := x1.later d
            replace b1 := b1.trans (d.mono b1.size)
            clear y0 y1
            obtain ⟨y0, y1, -⟩ := id x0.reads
            obtain ⟨Ao, co, Ab, cb, rfl, -, -, -, -, -, -, -⟩ := o2.form
            unfold crV at o2 ⊢
            have o9 := o2.base (B' := w.heap.size) zc
            clear o2 d CCop zc
            obtain ⟨t0, t1, tf⟩ := id x1.reads
            have tf0 := tf 0
            have tf1 := tf 1
            clear tf
            have o10 := (o9.keptT (by decide) (by decide) (by decide) (by decide) (but_set _ (w.heap.size + 1) 0 (.slice Ao x.ts.length co)) (blk_type x1)).keptT (by decide) (by decide) (by decide) (by decide) (but_set _ (w.heap.size + 1) 1 (.slice Ab x.os.length cb)) (blk_type (x1.set0 _))
            have b9 := (b1.setCell (p := ⟨w.heap.size + 1, 0, none⟩) (Nat.le_succ _) (.slice Ao x.ts.length co)).setCell (p := ⟨w.heap.size + 1, 1, none⟩) (Nat.le_succ _) (.slice Ab x.os.length cb)
            obtain ⟨p0, p1, -⟩ := ((x1.set0 (.slice Ao x.ts.length co)).set1 (.slice Ab x.os.length cb)).reads
            clear x0 x1 o9 b1
            go_wp2
            exact bodyPost_ret (v := .tuple #[.agg #[.slice Ao x.ts.length co, .slice Ab x.os.length cb], .bool false]) (by simp [results, Tryz.results72, go_sem, p0, p1]) rfl ⟨_, _, rfl, o10, b9⟩
        · have e0 : (t.d != 0) = true := by rw [bne_iff_ne]; exact hd
          have HNo : Hid (x = q ∧ b = false) := HX.out.no_ HVq.out fun n' k' a => by
            have e := a.ht
            have e2 : n' = n := by omega
            subst e2
            have h1 := a.d0
            rw [ho] at h1
            exact hd h1
          clear hd ho htv HZ
          obtain ⟨rfl, rfl⟩ := HNo.out
          have zc := b1.size
          clear HX HVq HBV
          go_wp2_with fail
          refine (CCop.out _ b1).mono ?_
          rintro e w2 ⟨v2, col, rfl, o2, d⟩
          replace x0 := x0.later d
          replace x1 := x1.later d
          replace b1 := b1.trans (d.mono b1.size)
          clear y0 y1
          obtain ⟨y0, y1, -⟩ := id x0.reads
          obtain ⟨Ao, co, Ab, cb, rfl, -, -, -, -, -, -, -⟩ := o2.form
          unfold crV at o2 ⊢
          have o9 := o2.base (B' := w.heap.size) zc
          clear o2 d CCop zc
          obtain ⟨t0, t1, tf⟩ := id x1.reads
          have tf0 := tf 0
          have tf1 := tf 1
          clear tf
          have o10 := (o9.keptT (by decide) (by decide) (by decide) (by decide) (but_set _ (w.heap.size + 1) 0 (.slice Ao x.ts.length co)) (blk_type x1)).keptT (by decide) (by decide) (by decide) (by decide) (but_set _ (w.heap.size + 1) 1 (.slice Ab x.os.length cb)) (blk_type (x1.set0 _))
          have b9 := (b1.setCell (p := ⟨w.heap.size + 1, 0, none⟩) (Nat.le_succ _) (.slice Ao x.ts.length co)).setCell (p := ⟨w.heap.size + 1, 1, none⟩) (Nat.le_succ _) (.slice Ab x.os.length cb)
          obtain ⟨p0, p1, -⟩ := ((x1.set0 (.slice Ao x.ts.length co)).set1 (.slice Ab x.os.length cb)).reads
          clear x0 x1 o9 b1
          go_wp2
          exact bodyPost_ret (v := .tuple #[.agg #[.slice Ao x.ts.length co, .slice Ab x.os.length cb], .bool false]) (by simp [results, Tryz.results72, go_sem, p0, p1]) rfl ⟨_, _, rfl, o10, b9⟩
      · have HNo : Hid (x = q ∧ b = false) := HX.out.no_ HVq.out fun n' k' a => by
          have e := a.ht
          have e2 : n' = n := by omega
          subst e2
          have h1 := a.hs
          have h3 := a.kp
          simp only [ho] at h1 h3
          exact hnk k' h3 h1
        clear hnk ho htv HZ
        obtain ⟨rfl, rfl⟩ := HNo.out
        have zc := b1.size
        clear HX HVq HBV
        go_wp2_with fail
        refine (CCop.out _ b1).mono ?_
        rintro e w2 ⟨v2, col, rfl, o2, d⟩
        replace x0 := x0.later d
        replace x1 := x1.later d
        replace b1 := b1.trans (d.mono b1.size)
        clear y0 y1
        obtain ⟨y0, y1, -⟩ := id x0.reads
        obtain ⟨Ao, co, Ab, cb, rfl, -, -, -, -, -, -, -⟩ := o2.form
        unfold crV at o2 ⊢
        have o9 := o2.base (B' := w.heap.size) zc
        clear o2 d CCop zc
        obtain ⟨t0, t1, tf⟩ := id x1.reads
        have tf0 := tf 0
        have tf1 := tf 1
        clear tf
        have o10 := (o9.keptT (by decide) (by decide) (by decide) (by decide) (but_set _ (w.heap.size + 1) 0 (.slice Ao x.ts.length co)) (blk_type x1)).keptT (by decide) (by decide) (by decide) (by decide) (but_set _ (w.heap.size + 1) 1 (.slice Ab x.os.length cb)) (blk_type (x1.set0 _))
        have b9 := (b1.setCell (p := ⟨w.heap.size + 1, 0, none⟩) (Nat.le_succ _) (.slice Ao x.ts.length co)).setCell (p := ⟨w.heap.size + 1, 1, none⟩) (Nat.le_succ _) (.slice Ab x.os.length cb)
        obtain ⟨p0, p1, -⟩ := ((x1.set0 (.slice Ao x.ts.length co)).set1 (.slice Ab x.os.length cb)).reads
        clear x0 x1 o9 b1
        go_wp2
        exact bodyPost_ret (v := .tuple #[.agg #[.slice Ao x.ts.length co, .slice Ab x.os.length cb], .bool false]) (by simp [results, Tryz.results72, go_sem, p0, p1]) rfl ⟨_, _, rfl, o10, b9⟩
end Go.Proofs.YteaibflloeipaaaGreatDoor
/- Laws on coordinators: a coordinator is boxed. -/
/- On to the world behind D. -/
/- An exact law begins: the argument's box, its size, a copy for the model. -/
/- The program's own copy of the argument is boxed. -/
/- The program's copy is as the argument; the region draws. -/
/- Laws on functions that answer numbers. -/
/- What the boxes hold is read again. -/
/- The coordinator with the slices P4 and P5 is boxed as P6, in block P7, behind it the world P3; ahead of region P1. -/
/- The draw, the program's answer, the model's, and that they are the same: behind it w5, all facts on it by way of dx. -/
/-
  Walk: drawn parts.
-/
namespace Go.Proofs.YteaibflloeipaaaGreatDoor
open Go.RowKit Wo Pu Rf Co

/-- Parts with few updates. -/
def SmP (ps : List Part) : Prop := ∀ p ∈ ps, p.us.length ≤ 4
theorem SmP.nil : SmP [] := fun p hp => by cases hp
theorem SmP.snoc {ps : List Part} {p : Part} (h : SmP ps) (hp : p.us.length ≤ 4) : SmP (ps ++ [p]) := fun x hx => by
  rcases List.mem_append.1 hx with hx | hx
  · exact h x hx
  · rw [List.mem_singleton] at hx; subst hx; exact hp
def PtsDrawn (R : Nat) (q : Int) (w : World) (e : Ending) (w' : World) : Prop := ∃ v ps, e = .returned v ∧ OwnPs (fun _ => 0) 0 w' w.heap.size v ps ∧ ps.length ≤ 5 ∧ SmP ps ∧ Rd w' R (q + 200) ∧ But R w w'
/-- What has been drawn: the slice v holds the parts. -/
def PtE (w : World) (R : Nat) (q : Int) (v : Value) (ps : List Part) (wr : World) : Prop := OwnPs (fun _ => 0) 0 wr w.heap.size v ps ∧ R < w.heap.size ∧ Rd wr R q ∧ But R w wr
theorem PtE.but {w wr w' : World} {R : Nat} {q q' : Int} {v : Value} {ps : List Part} (h : PtE w R q v ps wr) (hR : Rd w' R q') (hT : But R wr w') : PtE w R q' v ps w' := by
  obtain ⟨h1, h2, h3, h4⟩ := h
  exact ⟨h1.but hT h2, h2, hR, h4.trans hT⟩
theorem PtE.more {w wr : World} {R : Nat} {q q' : Int} {v : Value} {ps : List Part} (h : PtE w R q v ps wr) (hq : q ≤ q') : PtE w R q' v ps wr := ⟨h.1, h.2.1, h.2.2.1.more hq, h.2.2.2⟩
/-- One part more. -/
theorem PtE.add {w wr w4 : World} {R c : Nat} {q q' : Int} {A : Option Addr} {v : Value} {ps : List Part} {p : Part} (h : PtE w R q v ps wr) (hR : Rd w4 R q') (hT : But R wr w4) (hu : OwnUps w4 wr.heap.size (.slice A p.us.length c) p.us) (hc : p.us.length ≤ c) :
    ∃ ys, (w4.alloc (.cells #[.int .i64 p.s, .slice A p.us.length c] 40)).ownsRow w.heap.size 40 2 v ps.length ys ∧ w.heap.size ≤ (w4.alloc (.cells #[.int .i64 p.s, .slice A p.us.length c] 40)).heap.size ∧ ∀ v' w1, w1.ownsRow w.heap.size 40 2 v' (ps.length + 1) (ys ++ [.int .i64 p.s, .slice A p.us.length c]) →
      (w4.alloc (.cells #[.int .i64 p.s, .slice A p.us.length c] 40)).grownBy w1 v.ownBlock → ∃ A' c', v' = .slice A' (ps.length + 1) c' ∧ PtE w R q' (.slice A' (ps.length + 1) c') (ps ++ [p]) w1 := by
  obtain ⟨h1, h2, h3, h4⟩ := h
  have hsz : w.heap.size ≤ wr.heap.size := h4.size
  obtain ⟨ys, hrow, H⟩ := h1.more_ (fun hr => own_but hr hT h2) hsz hu hc
  have al := (Below.refl w4.heap.size w4).alloc (Nat.le_refl _) (.cells #[.int .i64 p.s, .slice A p.us.length c] 40)
  have hrow' := World.ownsRow.alloc hrow (.cells #[.int .i64 p.s, .slice A p.us.length c] 40)
  have hz4 : w.heap.size ≤ (w4.alloc (.cells #[.int .i64 p.s, .slice A p.us.length c] 40)).heap.size := Nat.le_trans hsz (Nat.le_trans hT.size al.size)
  refine ⟨ys, hrow', hz4, fun v' w1 hown hg => ?_⟩
  have O := H v' w1 hown hg
  obtain ⟨A', c', e, -, -⟩ := O.form
  rw [List.length_append, List.length_singleton] at e
  subst e
  have hlt := World.ownsRow.lt hrow'
  have Bb : Below w.heap.size (w4.alloc (.cells #[.int .i64 p.s, .slice A p.us.length c] 40)) w1 := (Below.refl w.heap.size _).grown hg hz4 (fun j hj => (hlt j hj).1)
  exact ⟨A', c', rfl, O, h2, (hR.below al hR.lt).below Bb h2, World.grownBy.andThen ((h4.trans hT).trans (.of_below al)) hg (fun j hj => .inl (hlt j hj).1)⟩
theorem row_four_ (w : World) (v0 v1 v2 v3 : Value) (t : TypeId) : Row (w.alloc (.cells #[v0, v1, v2, v3] t)) (w.alloc (.cells #[v0, v1, v2, v3] t)).heap.size (some ⟨w.heap.size, 0, none⟩) [v0, v1, v2, v3] :=
  .inr ⟨_, rfl, by simp, World.news_of_block (cs := #[v0, v1, v2, v3]) (heap_alloc_new w _)⟩
/- A part with shard SS and drawn updates is appended to the parts PS; S tells of the world W. -/
/- The last pick, and perhaps a part without updates; PS are the parts so far. -/
theorem OwnUps.nil_none_ (w : World) (B : Nat) : OwnUps w B (.slice none 0 0) [] := ⟨rfl, .inl ⟨rfl, rfl⟩⟩
set_option linter.unusedSimpArgs false in
set_option linter.unusedVariables false in
set_option maxRecDepth 100000 in
set_option maxHeartbeats 16000000 in
theorem l92Parts_any (R : Nat) (q : Int) (w : World) (hR : Rd w R q) (hq : q ≤ 600000000) :
    Calls Tryz.prog 70 #[.pointer (some ⟨R, 0, none⟩)] w (PtsDrawn R q w) := by
  obtain ⟨i0, hi, hz0, hz1, hz2⟩ := info_of info_part
  have hRl := hR.lt
  have al := (Below.refl w.heap.size w).alloc (Nat.le_refl _) (.cells #[] 40)
  have S0 : PtE w R (q + 31 * (0 : Nat)) (.slice (some ⟨w.heap.size, 0, none⟩) 0 0) [] (w.alloc (.cells #[] 40)) := ⟨OwnPs.nil_new (Nat.le_refl _), hRl, (hR.below al hRl).more (by omega), .of_below al⟩
  clear al
  go_enter Tryz.func70, Tryz.ntmps70
  go_wp2_with fail
  go_loopw [3, 4] (fun o i wr => ∃ (k : Nat) (ps : List Part) (Ao : Option Addr) (co : Nat), k ≤ 3 ∧ i = .int .i64 k ∧ o = .slice Ao ps.length co ∧ ps.length ≤ k ∧ Hid (SmP ps) ∧ PtE w R (q + 31 * k) (.slice Ao ps.length co) ps wr) (fun _ i _ => 3 - (intOf i).toNat)
  case atStart => exact ⟨0, [], _, _, Nat.zero_le _, rfl, rfl, Nat.le_refl _, .nil, S0⟩
  case round =>
    clear S0
    obtain ⟨k, ps, Ao, co, hk, rfl, rfl, hpl, HSM, S⟩ := hrel
    by_cases hlt : k < 3
    · have q1 : (k : Int) < 3 := by omega
      go_wp2_with fail
      refine (pick_any R _ 2 wr S.2.2.1 (by omega) (by omega) (by omega)).mono ?_
      rintro e w3 ⟨d, rfl, d0, d1, R3, T3⟩
      replace S := S.but R3 T3
      clear R3 T3
      by_cases hd : d = 0
      · have e0 : (d == 0) = true := by rw [hd]; rfl
        clear hd
        have r4 := row_four_ w3 (.int .i64 (-1)) (.int .i64 0) (.int .i64 1) (.int .i64 2) 3
        have al := (Below.refl (w3).heap.size w3).alloc (Nat.le_refl _) (.cells #[.int .i64 (-1), .int .i64 0, .int .i64 1, .int .i64 2] 3)
        have hA4 : ∀ ad, (some ⟨(w3).heap.size, 0, none⟩ : Option Addr) = some ad → ad.block ≠ R := fun ad e => by
          injection e with e
          rw [← e]
          have := S.2.2.1.lt
          show (w3).heap.size ≠ R
          omega
        have CU := hid (l92Updates_any R (q + 31 * (k : Int) + 1) (some ⟨(w3).heap.size, 0, none⟩) 4 [-1, 0, 1, 2] _ (S.2.2.1.below al S.2.2.1.lt) (by omega) r4 hA4)
        clear r4 hA4
        go_wp2_with fail
        refine CU.out.mono ?_
        rintro e w5 ⟨vu, us, rfl, ou, hu4, R5, T5⟩
        obtain ⟨Au, cu, rfl, -, hcu⟩ := ou.form
        have ou' := ou.base (B' := (w3).heap.size) al.size
        obtain ⟨ys, hrow, hz5, HP⟩ := S.add (p := ⟨(k : Int), us⟩) R5 ((But.of_below al).trans T5) ou' hcu
        have HPP := hid HP
        have rA := row_two_ w5 (.int .i64 ((k : Int))) (.slice Au us.length cu) 40
        clear HP ou ou' CU al T5 R5
        go_wp2_with (at_builtin; go_must (refine wpList_append_row _ rfl _ _ 31 rfl w.heap.size 40 i0 (.agg #[.int .i64 0, .slice none 0 0]) 2 32 Tryz.underlying31 hi hz0 hz1 hz2 rfl (by decide) _ (ps).length ys rfl hrow _ (some ⟨w5.heap.size, 0, none⟩) 1 1 [.int .i64 ((k : Int)), .slice Au us.length cu] rfl rA rfl (part_cells _ _ _ _) (by unfold maxLen; omega) (by omega) hz5 ?_); intro v7 w7 hown hg; obtain ⟨A7, c7, rfl, S7⟩ := HPP.out v7 w7 hown hg; clear hown hg)
        clear HPP rA hrow hz5
        have HS9 : Hid (SmP (ps ++ [⟨(k : Int), us⟩])) := HSM.out.snoc hu4
        have hl9 : (ps ++ [(⟨(k : Int), us⟩ : Part)]).length = ps.length + 1 := by simp
        go_roundw
        case rel => exact ⟨k + 1, _, A7, c7, by omega, by go_num, by rw [hl9], by rw [hl9]; omega, HS9, by rw [hl9]; exact S7.more (by push_cast; omega)⟩
        case measure => simp [intOf]; omega
      · have e0 : (d == 0) = false := by rw [beq_eq_false_iff_ne]; exact hd
        clear hd
        go_wp2_with fail
        go_roundw
        case rel => exact ⟨k + 1, ps, Ao, co, by omega, by go_num, rfl, by omega, HSM, S.more (by push_cast; omega)⟩
        case measure => simp [intOf]; omega
    · have hk' : k = 3 := by omega
      subst hk'
      by_cases h0 : ps.length = 0
      · have e0 : ((ps.length : Int) == 0) = true := by rw [beq_iff_eq]; omega
        have HZ0 := hid h0
        clear h0
        go_wp2_with fail
        refine (pick_any R _ 3 wr S.2.2.1 (by omega) (by omega) (by omega)).mono ?_
        rintro e w3 ⟨d, rfl, d0, d1, R3, T3⟩
        replace S := S.but R3 T3
        clear R3 T3
        have r4 := row_four_ w3 (.int .i64 (-1)) (.int .i64 0) (.int .i64 1) (.int .i64 2) 3
        have al := (Below.refl (w3).heap.size w3).alloc (Nat.le_refl _) (.cells #[.int .i64 (-1), .int .i64 0, .int .i64 1, .int .i64 2] 3)
        have hA4 : ∀ ad, (some ⟨(w3).heap.size, 0, none⟩ : Option Addr) = some ad → ad.block ≠ R := fun ad e => by
          injection e with e
          rw [← e]
          have := S.2.2.1.lt
          show (w3).heap.size ≠ R
          omega
        have CU := hid (l92Updates_any R (q + 31 * (3 : Nat) + 1) (some ⟨(w3).heap.size, 0, none⟩) 4 [-1, 0, 1, 2] _ (S.2.2.1.below al S.2.2.1.lt) (by omega) r4 hA4)
        clear r4 hA4
        go_wp2_with fail
        refine CU.out.mono ?_
        rintro e w5 ⟨vu, us, rfl, ou, hu4, R5, T5⟩
        obtain ⟨Au, cu, rfl, -, hcu⟩ := ou.form
        have ou' := ou.base (B' := (w3).heap.size) al.size
        obtain ⟨ys, hrow, hz5, HP⟩ := S.add (p := ⟨d, us⟩) R5 ((But.of_below al).trans T5) ou' hcu
        have HPP := hid HP
        have rA := row_two_ w5 (.int .i64 (d)) (.slice Au us.length cu) 40
        clear HP ou ou' CU al T5 R5
        go_wp2_with (at_builtin; go_must (refine wpList_append_row _ rfl _ _ 31 rfl w.heap.size 40 i0 (.agg #[.int .i64 0, .slice none 0 0]) 2 32 Tryz.underlying31 hi hz0 hz1 hz2 rfl (by decide) _ (ps).length ys rfl hrow _ (some ⟨w5.heap.size, 0, none⟩) 1 1 [.int .i64 (d), .slice Au us.length cu] rfl rA rfl (part_cells _ _ _ _) (by unfold maxLen; omega) (by omega) hz5 ?_); intro v7 w7 hown hg; obtain ⟨A7, c7, rfl, S7⟩ := HPP.out v7 w7 hown hg; clear hown hg)
        clear HPP rA hrow hz5
        replace HSM : Hid (SmP (ps ++ [⟨d, us⟩])) := HSM.out.snoc hu4
        have hl9 : (ps ++ [(⟨d, us⟩ : Part)]).length = ps.length + 1 := by simp
        obtain ⟨ps9, hps⟩ : ∃ ps9, ps9 = ps ++ [(⟨d, us⟩ : Part)] := ⟨_, rfl⟩
        rw [← hps] at S7 HSM hl9
        clear S hps
        have hl8 : ps9.length ≤ 4 := by omega
        rw [← hl9] at S7 ⊢
        have S := S7
        clear S7 hl9
        go_wp2_with fail
        refine (pick_any R _ 24 _ S.2.2.1 (by omega) (by omega) (by omega)).mono ?_
        rintro e w8 ⟨d, rfl, d0, d1, R8, T8⟩
        replace S := S.but R8 T8
        clear R8 T8
        by_cases h9 : d = 0
        · have e9 : (d == 0) = true := by rw [h9]; rfl
          clear h9
          go_wp2_with fail
          refine (pick_any R _ 4 _ S.2.2.1 (by omega) (by omega) (by omega)).mono ?_
          rintro e w9 ⟨d9, rfl, d90, d91, R9, T9⟩
          replace S := S.but R9 T9
          clear R9 T9
          obtain ⟨ys, hrow, hz5, HP⟩ := S.add (p := ⟨d9, []⟩) (A := none) (c := 0) S.2.2.1 (.refl R w9) (OwnUps.nil_none_ w9 w9.heap.size) (Nat.le_refl _)
          have HPP := hid HP
          have rA := row_two_ w9 (.int .i64 d9) (.slice none 0 0) 40
          clear HP
          go_wp2_with (at_builtin; go_must (refine wpList_append_row _ rfl _ _ 31 rfl w.heap.size 40 i0 (.agg #[.int .i64 0, .slice none 0 0]) 2 32 Tryz.underlying31 hi hz0 hz1 hz2 rfl (by decide) _ (ps9).length ys rfl hrow _ (some ⟨w9.heap.size, 0, none⟩) 1 1 [.int .i64 d9, .slice none 0 0] rfl rA rfl (part_cells _ _ _ _) (by unfold maxLen; omega) (by omega) hz5 ?_); intro v7 w7 hown hg; obtain ⟨A7, c7, rfl, S7⟩ := HPP.out v7 w7 hown hg; clear hown hg)
          go_ret
          exact ⟨_, _, rfl, S7.1, by rw [List.length_append]; simp; omega, HSM.out.snoc (Nat.zero_le _), S7.2.2.1.more (by push_cast; omega), S7.2.2.2⟩
        · have e9 : (d == 0) = false := by rw [beq_eq_false_iff_ne]; exact h9
          clear h9
          go_wp2_with fail
          go_ret
          exact ⟨_, _, rfl, S.1, by omega, HSM.out, S.2.2.1.more (by push_cast; omega), S.2.2.2⟩
      · have e0 : ((ps.length : Int) == 0) = false := by rw [beq_eq_false_iff_ne]; omega
        clear h0
        go_wp2_with fail
        refine (pick_any R _ 24 _ S.2.2.1 (by omega) (by omega) (by omega)).mono ?_
        rintro e w8 ⟨d, rfl, d0, d1, R8, T8⟩
        replace S := S.but R8 T8
        clear R8 T8
        by_cases h9 : d = 0
        · have e9 : (d == 0) = true := by rw [h9]; rfl
          clear h9
          go_wp2_with fail
          refine (pick_any R _ 4 _ S.2.2.1 (by omega) (by omega) (by omega)).mono ?_
          rintro e w9 ⟨d9, rfl, d90, d91, R9, T9⟩
          replace S := S.but R9 T9
          clear R9 T9
          obtain ⟨ys, hrow, hz5, HP⟩ := S.add (p := ⟨d9, []⟩) (A := none) (c := 0) S.2.2.1 (.refl R w9) (OwnUps.nil_none_ w9 w9.heap.size) (Nat.le_refl _)
          have HPP := hid HP
          have rA := row_two_ w9 (.int .i64 d9) (.slice none 0 0) 40
          clear HP
          go_wp2_with (at_builtin; go_must (refine wpList_append_row _ rfl _ _ 31 rfl w.heap.size 40 i0 (.agg #[.int .i64 0, .slice none 0 0]) 2 32 Tryz.underlying31 hi hz0 hz1 hz2 rfl (by decide) _ (ps).length ys rfl hrow _ (some ⟨w9.heap.size, 0, none⟩) 1 1 [.int .i64 d9, .slice none 0 0] rfl rA rfl (part_cells _ _ _ _) (by unfold maxLen; omega) (by omega) hz5 ?_); intro v7 w7 hown hg; obtain ⟨A7, c7, rfl, S7⟩ := HPP.out v7 w7 hown hg; clear hown hg)
          go_ret
          exact ⟨_, _, rfl, S7.1, by rw [List.length_append]; simp; omega, HSM.out.snoc (Nat.zero_le _), S7.2.2.1.more (by push_cast; omega), S7.2.2.2⟩
        · have e9 : (d == 0) = false := by rw [beq_eq_false_iff_ne]; exact h9
          clear h9
          go_wp2_with fail
          go_ret
          exact ⟨_, _, rfl, S.1, by omega, HSM.out, S.2.2.1.more (by push_cast; omega), S.2.2.2⟩
end Go.Proofs.YteaibflloeipaaaGreatDoor
