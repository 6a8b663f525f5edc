/- The coordinator with the slices $SA and $SB is stored as the answer, with the word $BB. -/
/- Laws on coordinators: a coordinator is boxed. -/
/- On to the world behind D. -/
/- An exact law begins: the argument's box, its size, a copy for the model. -/
/- The program's own copy of the argument is boxed. -/
/- The program's copy is as the argument; the region draws. -/
/- Laws on functions that answer numbers. -/
/- What the boxes hold is read again. -/
/- The coordinator with the slices P4 and P5 is boxed as P6, in block P7, behind it the world P3; ahead of region P1. -/
/- The draw, the program's answer, the model's, and that they are the same: behind it w5, all facts on it by way of dx. -/
/-
  Walk: a coordinator in new memory, by the model.
-/
import Derived.Test.YtjplondblkkpmaaG0C
namespace Go.Proofs.Ytjplondblkkpmaa
open Go.RowKit Wo Pu Rf Co

/-- What the loop over transactions has laid: the argument's box, the result's, the copy's at g with the transactions out and the order os. -/
def CpC (w : World) (A : Option Addr) (n c : Nat) (A2 : Option Addr) (n2 c2 g : Nat) (col : Nat → Nat) (a b : Value) (out : List Tx) (os : List Int) (wr : World) : Prop :=
  Blk2s wr w.heap.size 26 (.slice A n c) (.slice A2 n2 c2) ∧ Blk2s wr (w.heap.size + 1) 26 (.slice none 0 0) (.slice none 0 0) ∧ Blk2s wr g 26 a b ∧ w.heap.size + 1 < g ∧ OwnTxs col wr w.heap.size a out ∧ (OwnI wr w.heap.size b os ∧ ColV col 0 b) ∧ Below w.heap.size w wr
section
variable {w wr w4 : World} {A A2 : Option Addr} {n c n2 c2 g : Nat} {col : Nat → Nat} {a b a' b' : Value} {out : List Tx} {os : List Int}
theorem CpC.later (h : CpC w A n c A2 n2 c2 g col a b out os wr) (hb : Below wr.heap.size wr w4) : CpC w A n c A2 n2 c2 g col a b out os w4 := by
  obtain ⟨h1, h2, h3, h4, h5, h6, h7⟩ := h
  exact ⟨h1.later hb, h2.later hb, h3.later hb, h4, h5.below hb, ⟨h6.1.below hb (Nat.le_refl _), h6.2⟩, h7.trans (hb.mono h7.size)⟩
theorem CpC.put {t : Tx} (h : CpC w A n c A2 n2 c2 g col a b out os wr) (D : Below wr.heap.size wr w4) (hx : TxOf (fun _ => 0) 0 w4 wr.heap.size a' b' t) :
    ∃ ys, w4.ownsRow w.heap.size 33 3 a out.length ys ∧ ∀ v' w1, w1.ownsRow w.heap.size 33 3 v' (out.length + 1) (ys ++ [a', b', .int .i64 t.d]) →
      (w4.alloc (.cells #[a', b', .int .i64 t.d] 33)).grownBy w1 a.ownBlock → ∃ Ao co col', v' = .slice Ao (out.length + 1) co ∧ (w1.cell? ⟨g, 0, none⟩ = some a ∧ w1.frozen? ⟨g, 0, none⟩ = false) ∧ Below w.heap.size w w1 ∧
        CpC w A n c A2 n2 c2 g col' (.slice Ao (out.length + 1) co) b (out ++ [t]) os (w1.setCell ⟨g, 0, none⟩ (.slice Ao (out.length + 1) co)) := by
  obtain ⟨h1, h2, h3, h4, h5, h6, h7⟩ := h
  obtain ⟨ys, hrow, H⟩ := h5.more D h7.size hx
  refine ⟨ys, hrow, fun v' w1 hown hg => ?_⟩
  have O := H v' w1 hown hg
  have al := (Below.refl w4.heap.size w4).alloc (Nat.le_refl _) (.cells #[a', b', .int .i64 t.d] 33)
  have hrow' := World.ownsRow.alloc hrow (.cells #[a', b', .int .i64 t.d] 33)
  have D' := D.trans (al.mono D.size)
  have k1 := (h1.later D').grown hg (blk_ne_row (h1.later D') hrow' (by decide))
  have k2 := (h2.later D').grown hg (blk_ne_row (h2.later D') hrow' (by decide))
  have k3 := (h3.later D').grown hg (blk_ne_row (h3.later D') hrow' (by decide))
  have bb := (h7.trans (D'.mono h7.size)).grown hg (by have := h7.size; have := D'.size; omega) (fun j hj => (World.ownsRow.lt hrow' j hj).1)
  have k6 : OwnI w1 w.heap.size b os := row_far_type (h6.1.below D' (Nat.le_refl _)) (by decide) hg fun g e => row_typed hrow' g e
  have k7 : ColV (paint w1 (tint wr col (out.length + 2))) 0 b := paint_col k6 (.inr (.inr rfl)) (tint_old h6.1 h6.2)
  obtain ⟨Ao, co, e, -, -⟩ := O.form
  rw [List.length_append, List.length_singleton] at e
  subst e
  refine ⟨Ao, co, _, rfl, ⟨k3.reads.1, k3.reads.2.2 0⟩, bb, k1.far (by show w.heap.size ≠ g; omega) _, k2.far (by show w.heap.size + 1 ≠ g; omega) _, k3.set0 _, h4, O.keptT (by decide) (by decide) (by decide) (by decide) (but_set w1 g 0 _) (blk_type k3), ⟨row_far_type k6 (by decide) (but_set w1 g 0 _) (blk_type k3), k7⟩, bb.setCell (by show w.heap.size ≤ g; omega) _⟩
end
set_option linter.unusedSimpArgs false in
set_option linter.unusedVariables false in
set_option maxRecDepth 100000 in
set_option maxHeartbeats 16000000 in
theorem l22Copy_any (v : Value) (q : Crd) (w : World) (h : Crdd w w.heap.size v q) (hf : FitC q) :
    Calls Try.prog 76 #[v] w (NewCr q w) := by
  obtain ⟨i0, hi, hz0, hz1, hz2⟩ := info_of info_txn
  obtain ⟨i1, hj, hy0, hy1, hy2⟩ := info_of info_int
  obtain ⟨A, c, A2, c2, rfl, h0, hc, h2, hc2⟩ := h
  have HF := hid hf
  have hf1 := hf.ts
  have hf2 := hf.os
  clear hf
  unfold crV
  have b0 := ((Below.refl w.heap.size w).alloc (Nat.le_refl _) (.cells #[.slice A q.ts.length c, .slice A2 q.os.length c2] 26)).alloc (by simp) (.cells #[.slice none 0 0, .slice none 0 0] 26)
  have x0 := (Blk2s.new_ w 26 (.slice A q.ts.length c) (.slice A2 q.os.length c2)).alloc (.cells #[.slice none 0 0, .slice none 0 0] 26)
  have x1 := Blk2s.new_ (w.alloc (.cells #[.slice A q.ts.length c, .slice A2 q.os.length c2] 26)) 26 (.slice none 0 0) (.slice none 0 0)
  rw [World.size_alloc] at x1
  go_enter Try.func76, Try.ntmps76
  go_upto_region 1 with fail
  obtain ⟨w1, hw1⟩ : ∃ w1, (w.alloc (.cells #[.slice A q.ts.length c, .slice A2 q.os.length c2] 26)).alloc (.cells #[.slice none 0 0, .slice none 0 0] 26) = w1 := ⟨_, rfl⟩
  rw [hw1] at b0 x0 x1 ⊢
  clear hw1
  have z1 := b0.size
  have al := ((Below.refl w1.heap.size w1).alloc (Nat.le_refl _) (.cells #[] 33)).alloc (by simp) (.cells #[] 3)
  obtain ⟨-, y1, -⟩ := id (x0.later al).reads
  have r2 := (h2.below b0 (Nat.le_refl _)).below al z1
  have oT : ((w1.alloc (.cells #[] 33)).alloc (.cells #[] 3)).ownsRow w.heap.size 33 3 (.slice (some ⟨w1.heap.size, 0, none⟩) 0 0) 0 [] := World.ownsRow.alloc (nil_own z1 _ _) _
  have nI : ((w1.alloc (.cells #[] 33)).alloc (.cells #[] 3)).ownsRow w.heap.size 3 1 (.slice (some ⟨(w1.alloc (.cells #[] 33)).heap.size, 0, none⟩) 0 0) 0 [] := nil_own (by simp; omega) _ _
  rw [World.size_alloc] at nI
  go_upto_region 2 with (at_builtin; go_must (refine wpList_append_row _ rfl _ _ 24 rfl w.heap.size 3 i1 (.int .i64 0) 1 8 Try.underlying24 hj hy0 hy1 hy2 rfl (by decide) _ 0 [] rfl nI w.heap.size A2 q.os.length c2 (ints q.os) rfl r2 (by rw [ints_length]; omega) (ints_cells _) (by unfold maxLen; omega) (by omega) (by simp; omega) ?_); intro v5 w5 hown5 hg5; rw [Nat.zero_add, List.nil_append] at hown5; have o5 : OwnI w5 w.heap.size v5 q.os := hown5; obtain ⟨A5, c5, rfl, -, hc5⟩ := o5.form)
  clear hown5
  have nT : ∀ j, (Value.slice (some ⟨w1.heap.size + 1, 0, none⟩) 0 0).ownBlock = some j → j = w1.heap.size + 1 := fun j hj => by simpa [Value.ownBlock] using hj.symm
  replace hg5 : ((w1.alloc (.cells #[] 33)).alloc (.cells #[] 3)).grownBy w5 (Value.slice (some ⟨w1.heap.size + 1, 0, none⟩) 0 0).ownBlock := hg5
  have d5 : Below w1.heap.size w1 w5 := al.grown hg5 (by simp; omega) (fun j hj => by have := nT j hj; omega)
  have oT5 := row_far_type oT (by decide) hg5 (row_typed nI)
  have b5 := b0.trans (d5.mono z1)
  have al5 := (Below.refl w5.heap.size w5).alloc (Nat.le_refl _) (.cells #[.slice (some ⟨w1.heap.size, 0, none⟩) 0 0, .slice A5 q.os.length c5] 26)
  have zz5 := d5.size
  have zz1 : w.heap.size + 1 < w1.heap.size := x1.lt
  have S0 : CpC w A q.ts.length c A2 q.os.length c2 w5.heap.size (fun g => if g = w1.heap.size then 1 else 0) (.slice (some ⟨w1.heap.size, 0, none⟩) 0 0) (.slice A5 q.os.length c5) [] q.os (w5.alloc (.cells #[.slice (some ⟨w1.heap.size, 0, none⟩) 0 0, .slice A5 q.os.length c5] 26)) := by
    refine ⟨(x0.later d5).later al5, (x1.later d5).later al5, Blk2s.new_ w5 _ _ _, by omega, ?_, ⟨o5.below al5 (Nat.le_refl _), fun g hg => ?_⟩, b5.trans (al5.mono b5.size)⟩
    · refine ⟨[], own_below oT5 al5 (Nat.le_refl _), (fun j hj => by simp at hj), fun g hg => ?_⟩
      have hgg : w1.heap.size = g := by simpa [Value.ownBlock] using hg
      subst hgg
      simp
    · have hne : g ≠ w1.heap.size := fun e => by
        subst e
        rcases (World.ownsRow.alloc o5 (.cells #[] 3)).2 with ⟨h, _⟩ | h
        · rw [h] at hg; cases hg
        · exact (blk_ne_row (g := w1.heap.size) (T := 33) (T' := 3) (w := w5) (cs := #[]) (fr := (0, 0)) ((hg5.block _ (by simp; omega) (fun e => by have := nT _ e.symm; omega)).trans ((((Below.refl (w1.alloc (.cells #[] 33)).heap.size (w1.alloc (.cells #[] 33))).alloc (Nat.le_refl _) (.cells #[] 3)).block _ (by simp)).trans (heap_alloc_new w1 _))) o5 (by decide)) hg.symm
      simp [hne]
  clear x0 x1 al r2 oT nI oT5 o5 y1 al5 b5 hg5 d5
  obtain ⟨w6, hw6⟩ : ∃ x, w5.alloc (.cells #[.slice (some ⟨w1.heap.size, 0, none⟩) 0 0, .slice A5 q.os.length c5] 26) = x := ⟨_, rfl⟩
  obtain ⟨g, hgg⟩ : ∃ x, w5.heap.size = x := ⟨_, rfl⟩
  rw [hw6, hgg] at S0
  rw [hgg]
  have hw6' : w5.alloc (.cells #[.slice (some ⟨w1.heap.size, 0, none⟩) 0 0, .slice A5 q.os.length c5] 26) = w6 := hw6
  try rw [hw6']
  clear hw6 hw6' hgg zz5 zz1 nT
  go_wp2_with fail
  go_loopw [4] (fun i wr => ∃ (k : Nat) (col : Nat → Nat) (Ao : Option Addr) (co : Nat), k ≤ q.ts.length ∧ i = .int .i64 k ∧ CpC w A q.ts.length c A2 q.os.length c2 g col (.slice Ao (q.ts.take k).length co) (.slice A5 q.os.length c5) (q.ts.take k) q.os wr) (fun i _ => q.ts.length - (intOf i).toNat)
  case atStart => exact ⟨0, _, _, _, Nat.zero_le _, rfl, S0⟩
  case round =>
    obtain ⟨k, col, Ao, co, hk, rfl, S⟩ := hrel
    clear S0
    have hb := S.2.2.2.2.2.2
    have hz := hb.size
    obtain ⟨y0, -⟩ := id S.1.reads
    by_cases hlt : k < q.ts.length
    · obtain ⟨t, ad, A', c', A9, c9, ho, rfl, ha, g0, g1, g2, g3, g4, g5, g6⟩ := (h0.below hb (Nat.le_refl _)).tx hlt
      have q0 : (0 : Int) ≤ (k : Int) := by omega
      have q1 : (k : Int) < (q.ts.length : Int) := by omega
      have hT : Hid (q.ts.take (k + 1) = q.ts.take k ++ [t]) := by
        show _ = _
        rw [List.take_succ_eq_append_getElem hlt, ho]
      have hps := HF.out.ps t (by rw [← ho]; exact List.getElem_mem hlt)
      have hus := HF.out.us t (by rw [← ho]; exact List.getElem_mem hlt)
      have hps2 := hps.2
      have hol : (q.ts.take k).length ≤ 1048576 := by rw [List.length_take]; omega
      obtain ⟨out, hout⟩ : ∃ out, q.ts.take k = out := ⟨_, rfl⟩
      rw [hout] at S hT hol
      have x3 := Blk3s.new_ wr 33 (.slice A' t.ps.length c') (.slice A9 t.vs.length c9) (.int .i64 t.d)
      have al := (Below.refl wr.heap.size wr).alloc (Nat.le_refl _) (.cells #[.slice A' t.ps.length c', .slice A9 t.vs.length c9, .int .i64 t.d] 33)
      have HLT : Hid (∀ j, (Value.slice Ao out.length co).ownBlock = some j → j < wr.heap.size) := by
        obtain ⟨xs, k1, -⟩ := S.2.2.2.2.1
        exact fun j hj => (World.ownsRow.lt k1 j hj).2
      have hg3 : g < wr.heap.size := S.2.2.1.lt
      have hb3 := hb.trans (al.mono hz)
      have g5' := (g5.below al hz).more (Nat.le_trans hz al.size)
      have g6' := (g6.below al hz).more (Nat.le_trans hz al.size)
      clear hout ho
      go_upto_region 6 with fail
      obtain ⟨w3, hw3⟩ : ∃ w3, wr.alloc (.cells #[.slice A' t.ps.length c', .slice A9 t.vs.length c9, .int .i64 t.d] 33) = w3 := ⟨_, rfl⟩
      rw [hw3] at x3 al g5' g6' hb3 ⊢
      clear hw3 y0 g0 g1 g2
      have S3 := S.later al
      have hz3 := hb3.size
      have HS3 := hid S3
      have HX5 : Hid (∀ x, Below w3.heap.size w3 x → Blk3s x wr.heap.size 33 (.slice A' t.ps.length c') (.slice A9 t.vs.length c9) (.int .i64 t.d)) := fun x hx => x3.later hx
      have HS : Hid (∀ x, Below w3.heap.size w3 x → x.cell? ⟨wr.heap.size, 0, none⟩ = some (.slice A' t.ps.length c') ∧ x.cell? ⟨wr.heap.size, 1, none⟩ = some (.slice A9 t.vs.length c9) ∧ x.cell? ⟨wr.heap.size, 2, none⟩ = some (.int .i64 t.d)) := fun x hx =>
        ⟨(HX5.out x hx).reads.1, (HX5.out x hx).reads.2.1, (HX5.out x hx).reads.2.2.1⟩
      have HC : Hid (∀ x, Below w3.heap.size w3 x → Calls Try.prog 77 #[.slice A' t.ps.length c'] x (NewPs t.ps x)) := fun x hx => l22Parts2_any A' c' t.ps x ((g5'.below hx (Nat.le_refl _)).more hx.size) hps.1 hus
      have HV : Hid (∀ x, Below w3.heap.size w3 x → Row x w3.heap.size A9 (ints t.vs)) := fun x hx => g6'.below hx (Nat.le_refl _)
      have HN5 : Hid (some wr.heap.size ≠ (Value.slice Ao out.length co).ownBlock) := fun e => by have := HLT.out _ e.symm; omega
      have HG5 : Hid (wr.heap.size ≠ g) := by show _ ≠ _; omega
      clear S S3 x3 al g3 g4 g5 g6 g5' g6' hb hz hus hg3 hps
      have D : Below w3.heap.size w3 w3.drew := (Below.refl _ _).drew
      refine wp_region_held_drew (S := fun x => x.cell? ⟨wr.heap.size, 0, none⟩ = some (.slice A' t.ps.length c') ∧ x.cell? ⟨wr.heap.size, 1, none⟩ = some (.slice A9 t.vs.length c9) ∧ x.cell? ⟨wr.heap.size, 2, none⟩ = some (.int .i64 t.d)) (by kernel_rfl) (HS.out _ D) (fun hHeld => ?_)
      obtain ⟨W, hW⟩ : ∃ x, w3.drew = x := ⟨_, rfl⟩
      rw [hW] at D hHeld ⊢
      clear hW
      try simp only [Act.put, List.getElem_toArray, List.getElem_cons_succ, List.getElem_cons_zero, List.setIfInBounds_toArray, List.set_cons_zero, List.set_cons_succ]
      refine wpAnyH_take (i := 0) (oi := _) (v := ?_) rfl (by kernel_rfl) (by kernel_rfl) (by kernel_rfl) (fun _ _ _ h => h) (Or.inl ⟨by rfl, ?_⟩) hHeld ?_
      rotate_left
      · (intro w' hSw; (try dsimp only at hSw); go_simp <;> with_reducible rfl)
      try simp only [Act.put, List.getElem_toArray, List.getElem_cons_succ, List.getElem_cons_zero, List.setIfInBounds_toArray, List.set_cons_zero, List.set_cons_succ]
      refine wpAnyH_take (i := 2) (oi := _) (v := ?_) rfl (by kernel_rfl) (by kernel_rfl) (by kernel_rfl) (fun _ _ _ h => h) (Or.inl ⟨by rfl, ?_⟩) hHeld ?_
      rotate_left
      · (intro w' hSw; (try dsimp only at hSw); go_simp <;> with_reducible rfl)
      try simp only [Act.put, List.getElem_toArray, List.getElem_cons_succ, List.getElem_cons_zero, List.setIfInBounds_toArray, List.set_cons_zero, List.set_cons_succ]
      refine wpAnyH_take (i := 3) (oi := _) (v := ?_) rfl (by kernel_rfl) (by kernel_rfl) (by kernel_rfl) (fun _ _ _ h => h) (Or.inl ⟨by rfl, ?_⟩) hHeld ?_
      rotate_left
      · (intro w' hSw; (try dsimp only at hSw); go_simp <;> with_reducible rfl)
      try simp only [Act.put, List.getElem_toArray, List.getElem_cons_succ, List.getElem_cons_zero, List.setIfInBounds_toArray, List.set_cons_zero, List.set_cons_succ]
      refine wpAnyH_take (i := 6) (oi := _) (v := ?_) rfl (by kernel_rfl) (by kernel_rfl) (by kernel_rfl) (fun _ _ _ h => h) (Or.inl ⟨by rfl, ?_⟩) hHeld ?_
      rotate_left
      · (intro w' hSw; (try dsimp only at hSw); go_simp <;> with_reducible rfl)
      try simp only [Act.put, List.getElem_toArray, List.getElem_cons_succ, List.getElem_cons_zero, List.setIfInBounds_toArray, List.set_cons_zero, List.set_cons_succ]
      refine wpAnyH_take (i := 7) (oi := _) (v := ?_) rfl (by kernel_rfl) (by kernel_rfl) (by kernel_rfl) (fun _ _ _ h => h) (Or.inl ⟨by rfl, ?_⟩) hHeld ?_
      rotate_left
      · (intro w' hSw; (try dsimp only at hSw); go_simp <;> with_reducible rfl)
      try simp only [Act.put, List.getElem_toArray, List.getElem_cons_succ, List.getElem_cons_zero, List.setIfInBounds_toArray, List.set_cons_zero, List.set_cons_succ]
      refine wpAnyH_take (i := 9) (oi := _) (v := ?_) rfl (by kernel_rfl) (by kernel_rfl) (by kernel_rfl) (fun _ _ _ h => h) (Or.inl ⟨by rfl, ?_⟩) hHeld ?_
      rotate_left
      · (intro w' hSw; (try dsimp only at hSw); go_simp <;> with_reducible rfl)
      try simp only [Act.put, List.getElem_toArray, List.getElem_cons_succ, List.getElem_cons_zero, List.setIfInBounds_toArray, List.set_cons_zero, List.set_cons_succ]
      refine wpAnyH_take (i := 10) (oi := _) (v := ?_) rfl (by kernel_rfl) (by kernel_rfl) (by kernel_rfl) (fun _ _ _ h => h) (Or.inl ⟨by rfl, ?_⟩) hHeld ?_
      rotate_left
      · (intro w' hSw; (try dsimp only at hSw); go_simp <;> with_reducible rfl)
      try simp only [Act.put, List.getElem_toArray, List.getElem_cons_succ, List.getElem_cons_zero, List.setIfInBounds_toArray, List.set_cons_zero, List.set_cons_succ]
      refine wpAnyH_ready (rs := [1, 4, 5]) (by kernel_rfl) (by simp) (AllReadyH.cons (o := _) rfl (fun K hK => ?_) (AllReadyH.cons (o := _) rfl (fun K hK => ?_) (AllReadyH.cons (o := _) rfl (fun K hK => ?_) AllReadyH.nil)))
      · skip
        try simp only [Act.put, List.getElem_toArray, List.getElem_cons_succ, List.getElem_cons_zero, List.setIfInBounds_toArray, List.set_cons_zero, List.set_cons_succ]
        have yL := (HS3.out.later D).2.2.1.reads.1
        go_simp
        refine hK.out _ _ (HS.out _ D) (fun hHeld => ?_)
        clear hK K
        try simp only [Act.put, List.getElem_toArray, List.getElem_cons_succ, List.getElem_cons_zero, List.setIfInBounds_toArray, List.set_cons_zero, List.set_cons_succ]
        clear yL
        refine wpAnyH_ready (rs := [4, 5]) (by kernel_rfl) (by simp) (AllReadyH.cons (o := _) rfl (fun K hK => ?_) (AllReadyH.cons (o := _) rfl (fun K hK => ?_) AllReadyH.nil))
        · skip
          try simp only [Act.put, List.getElem_toArray, List.getElem_cons_succ, List.getElem_cons_zero, List.setIfInBounds_toArray, List.set_cons_zero, List.set_cons_succ]
          go_simp
          go_at_call 77
          refine (HC.out _ D).mono ?_
          rintro e W ⟨vp, rfl, op', d5⟩
          have op := op'.base D.size
          obtain ⟨Ap, cp, rfl, -, -⟩ := op.form
          try replace na := own_below na d5 (Nat.le_refl _)
          try replace nv := OwnI.below nv d5 (Nat.le_refl _)
          replace D := D.trans (d5.mono D.size)
          clear op' d5
          refine hK.out _ _ (HS.out _ D) (fun hHeld => ?_)
          clear hK K
          try simp only [Act.put, List.getElem_toArray, List.getElem_cons_succ, List.getElem_cons_zero, List.setIfInBounds_toArray, List.set_cons_zero, List.set_cons_succ]
          refine wpAnyH_ready (rs := [5]) (by kernel_rfl) (by simp) (AllReadyH.cons (o := _) rfl (fun K hK => ?_) AllReadyH.nil)
          try simp only [Act.put, List.getElem_toArray, List.getElem_cons_succ, List.getElem_cons_zero, List.setIfInBounds_toArray, List.set_cons_zero, List.set_cons_succ]
          have al := (Below.refl W.heap.size W).alloc (Nat.le_refl _) (.cells #[] 3)
          have na : (W.alloc (.cells #[] 3)).ownsRow w3.heap.size 3 1 (.slice (some ⟨W.heap.size, 0, none⟩) 0 0) 0 [] := nil_own D.size _ _
          try replace op := op.below al
          replace D := D.trans (al.mono D.size)
          go_simp
          obtain ⟨gA, hgA⟩ : ∃ x, W.heap.size = x := ⟨_, rfl⟩
          obtain ⟨W, hW⟩ : ∃ x, W.alloc (.cells #[] 3) = x := ⟨_, rfl⟩
          rw [hW, hgA] at na ⊢
          rw [hW] at D
          try rw [hW] at op
          clear al hW hgA
          refine hK.out _ _ (HS.out _ D) (fun hHeld => ?_)
          clear hK K
          try simp only [Act.put, List.getElem_toArray, List.getElem_cons_succ, List.getElem_cons_zero, List.setIfInBounds_toArray, List.set_cons_zero, List.set_cons_succ]
          refine wpAnyH_ready (rs := [8]) (by kernel_rfl) (by simp) (AllReadyH.cons (o := _) rfl (fun K hK => ?_) AllReadyH.nil)
          try simp only [Act.put, List.getElem_toArray, List.getElem_cons_succ, List.getElem_cons_zero, List.setIfInBounds_toArray, List.set_cons_zero, List.set_cons_succ]
          rw [if_pos (by rfl)]
          refine op_append_row2 _ (by rfl) _ _ 24 (by rfl) w3.heap.size 3 i1 (.int .i64 0) 1 8 Try.underlying24 hj hy0 hy1 hy2 rfl (by decide) (.slice (some ⟨gA, 0, none⟩) 0 0) 0 [] (by rfl) na w3.heap.size A9 t.vs.length c9 (ints t.vs) (by rfl) (HV.out _ D) (by rw [ints_length]; omega) (ints_cells _) (by unfold maxLen; omega) (by omega) D.size ?_
          intro v9 W hown hg
          rw [Nat.zero_add, List.nil_append] at hown
          replace D := D.grown hg D.size (fun j hj => (World.ownsRow.lt na j hj).1)
          try replace op := op.keptI hg (row_typed na)
          have nv : OwnI W w3.heap.size v9 t.vs := hown
          obtain ⟨Av, cv, rfl, -, -⟩ := nv.form
          clear hown hg na
          refine hK.out _ _ (HS.out _ D) (fun hHeld => ?_)
          clear hK K
          try simp only [Act.put, List.getElem_toArray, List.getElem_cons_succ, List.getElem_cons_zero, List.setIfInBounds_toArray, List.set_cons_zero, List.set_cons_succ]
          refine wpAnyH_take (i := 11) (oi := _) (v := ?_) rfl (by kernel_rfl) (by kernel_rfl) (by kernel_rfl) (fun _ _ _ h => h) (Or.inl ⟨by rfl, ?_⟩) hHeld ?_
          rotate_left
          · (intro w' hSw; (try dsimp only at hSw); go_simp <;> with_reducible rfl)
          try simp only [Act.put, List.getElem_toArray, List.getElem_cons_succ, List.getElem_cons_zero, List.setIfInBounds_toArray, List.set_cons_zero, List.set_cons_succ]
          refine wpAnyH_ready (rs := [12]) (by kernel_rfl) (by simp) (AllReadyH.cons (o := _) rfl (fun K hK => ?_) AllReadyH.nil)
          try simp only [Act.put, List.getElem_toArray, List.getElem_cons_succ, List.getElem_cons_zero, List.setIfInBounds_toArray, List.set_cons_zero, List.set_cons_succ]
          obtain ⟨ys, hrow, HP⟩ := HS3.out.put D (t := t) ⟨op, nv, fun _ _ => rfl⟩
          have HPP := hid HP
          have rA := row_three_ W (.slice Ap t.ps.length cp) (.slice Av t.vs.length cv) (.int .i64 t.d) 33
          have hrow' := World.ownsRow.alloc hrow (.cells #[.slice Ap t.ps.length cp, .slice Av t.vs.length cv, .int .i64 t.d] 33)
          replace D := D.trans (((Below.refl W.heap.size W).alloc (Nat.le_refl _) (.cells #[.slice Ap t.ps.length cp, .slice Av t.vs.length cv, .int .i64 t.d] 33)).mono D.size)
          clear HP hrow op nv
          go_simp
          refine hK.out _ _ (HS.out _ D) (fun hHeld => ?_)
          clear hK K
          try simp only [Act.put, List.getElem_toArray, List.getElem_cons_succ, List.getElem_cons_zero, List.setIfInBounds_toArray, List.set_cons_zero, List.set_cons_succ]
          refine wpAnyH_ready (rs := [13]) (by kernel_rfl) (by simp) (AllReadyH.cons (o := _) rfl (fun K hK => ?_) AllReadyH.nil)
          try simp only [Act.put, List.getElem_toArray, List.getElem_cons_succ, List.getElem_cons_zero, List.setIfInBounds_toArray, List.set_cons_zero, List.set_cons_succ]
          rw [if_pos (by rfl)]
          refine op_append_row2 _ (by rfl) _ _ 23 (by rfl) w.heap.size 33 i0 (.agg #[.slice none 0 0, .slice none 0 0, .int .i64 0]) 3 56 Try.underlying23 hi hz0 hz1 hz2 rfl (by decide) (.slice Ao out.length co) out.length ys (by rfl) hrow' _ (some ⟨W.heap.size, 0, none⟩) 1 1 [.slice Ap t.ps.length cp, .slice Av t.vs.length cv, .int .i64 t.d] (by rfl) rA rfl (tx_cells _ _ _ _ _ _ _) (by unfold maxLen; omega) (by omega) (Nat.le_trans hz3 D.size) ?_
          intro v7 W7 hown hg
          obtain ⟨Ao7, co7, col7, rfl, ⟨k1, kf⟩, b7, S7⟩ := HPP.out v7 W7 hown hg
          have x7 := (HX5.out _ D).grown hg (HN5.out)
          clear hown hg rA hrow' HPP
          refine hK.out _ _ ⟨x7.reads.1, x7.reads.2.1, x7.reads.2.2.1⟩ (fun hHeld => ?_)
          clear hK K
          try simp only [Act.put, List.getElem_toArray, List.getElem_cons_succ, List.getElem_cons_zero, List.setIfInBounds_toArray, List.set_cons_zero, List.set_cons_succ]
          refine wpAnyH_take (i := 14) (oi := _) (v := ?_) rfl (by kernel_rfl) (by kernel_rfl) (by kernel_rfl) (fun _ _ _ h => h) (Or.inl ⟨by rfl, ?_⟩) hHeld ?_
          rotate_left
          · (intro w' hSw; (try dsimp only at hSw); go_simp <;> with_reducible rfl)
          try simp only [Act.put, List.getElem_toArray, List.getElem_cons_succ, List.getElem_cons_zero, List.setIfInBounds_toArray, List.set_cons_zero, List.set_cons_succ]
          refine wpAnyH_ready (rs := [15]) (by kernel_rfl) (by simp) (AllReadyH.cons (o := _) rfl (fun K hK => ?_) AllReadyH.nil)
          try simp only [Act.put, List.getElem_toArray, List.getElem_cons_succ, List.getElem_cons_zero, List.setIfInBounds_toArray, List.set_cons_zero, List.set_cons_succ]
          go_simp
          have x8 := x7.far (p := ⟨g, 0, none⟩) HG5.out (.slice Ao7 (out.length + 1) co7)
          refine hK.out _ _ ⟨x8.reads.1, x8.reads.2.1, x8.reads.2.2.1⟩ (fun hHeld => ?_)
          clear hK K
          try simp only [Act.put, List.getElem_toArray, List.getElem_cons_succ, List.getElem_cons_zero, List.setIfInBounds_toArray, List.set_cons_zero, List.set_cons_succ]
          refine wpAnyH_done (by kernel_rfl) ?_ _
          clear hHeld k1 kf x7 x8 b7 D
          go_wp2
          go_roundw
          case rel => exact ⟨k + 1, col7, Ao7, co7, hlt, by go_num, by rw [hT.out]; simpa using S7⟩
          case measure => simp [intOf]; omega
        · skip
          try simp only [Act.put, List.getElem_toArray, List.getElem_cons_succ, List.getElem_cons_zero, List.setIfInBounds_toArray, List.set_cons_zero, List.set_cons_succ]
          have al := (Below.refl W.heap.size W).alloc (Nat.le_refl _) (.cells #[] 3)
          have na : (W.alloc (.cells #[] 3)).ownsRow w3.heap.size 3 1 (.slice (some ⟨W.heap.size, 0, none⟩) 0 0) 0 [] := nil_own D.size _ _
          try replace op := op.below al
          replace D := D.trans (al.mono D.size)
          go_simp
          obtain ⟨gA, hgA⟩ : ∃ x, W.heap.size = x := ⟨_, rfl⟩
          obtain ⟨W, hW⟩ : ∃ x, W.alloc (.cells #[] 3) = x := ⟨_, rfl⟩
          rw [hW, hgA] at na ⊢
          rw [hW] at D
          try rw [hW] at op
          clear al hW hgA
          refine hK.out _ _ (HS.out _ D) (fun hHeld => ?_)
          clear hK K
          try simp only [Act.put, List.getElem_toArray, List.getElem_cons_succ, List.getElem_cons_zero, List.setIfInBounds_toArray, List.set_cons_zero, List.set_cons_succ]
          refine wpAnyH_ready (rs := [4]) (by kernel_rfl) (by simp) (AllReadyH.cons (o := _) rfl (fun K hK => ?_) AllReadyH.nil)
          try simp only [Act.put, List.getElem_toArray, List.getElem_cons_succ, List.getElem_cons_zero, List.setIfInBounds_toArray, List.set_cons_zero, List.set_cons_succ]
          go_simp
          go_at_call 77
          refine (HC.out _ D).mono ?_
          rintro e W ⟨vp, rfl, op', d5⟩
          have op := op'.base D.size
          obtain ⟨Ap, cp, rfl, -, -⟩ := op.form
          try replace na := own_below na d5 (Nat.le_refl _)
          try replace nv := OwnI.below nv d5 (Nat.le_refl _)
          replace D := D.trans (d5.mono D.size)
          clear op' d5
          refine hK.out _ _ (HS.out _ D) (fun hHeld => ?_)
          clear hK K
          try simp only [Act.put, List.getElem_toArray, List.getElem_cons_succ, List.getElem_cons_zero, List.setIfInBounds_toArray, List.set_cons_zero, List.set_cons_succ]
          refine wpAnyH_ready (rs := [8]) (by kernel_rfl) (by simp) (AllReadyH.cons (o := _) rfl (fun K hK => ?_) AllReadyH.nil)
          try simp only [Act.put, List.getElem_toArray, List.getElem_cons_succ, List.getElem_cons_zero, List.setIfInBounds_toArray, List.set_cons_zero, List.set_cons_succ]
          rw [if_pos (by rfl)]
          refine op_append_row2 _ (by rfl) _ _ 24 (by rfl) w3.heap.size 3 i1 (.int .i64 0) 1 8 Try.underlying24 hj hy0 hy1 hy2 rfl (by decide) (.slice (some ⟨gA, 0, none⟩) 0 0) 0 [] (by rfl) na w3.heap.size A9 t.vs.length c9 (ints t.vs) (by rfl) (HV.out _ D) (by rw [ints_length]; omega) (ints_cells _) (by unfold maxLen; omega) (by omega) D.size ?_
          intro v9 W hown hg
          rw [Nat.zero_add, List.nil_append] at hown
          replace D := D.grown hg D.size (fun j hj => (World.ownsRow.lt na j hj).1)
          try replace op := op.keptI hg (row_typed na)
          have nv : OwnI W w3.heap.size v9 t.vs := hown
          obtain ⟨Av, cv, rfl, -, -⟩ := nv.form
          clear hown hg na
          refine hK.out _ _ (HS.out _ D) (fun hHeld => ?_)
          clear hK K
          try simp only [Act.put, List.getElem_toArray, List.getElem_cons_succ, List.getElem_cons_zero, List.setIfInBounds_toArray, List.set_cons_zero, List.set_cons_succ]
          refine wpAnyH_take (i := 11) (oi := _) (v := ?_) rfl (by kernel_rfl) (by kernel_rfl) (by kernel_rfl) (fun _ _ _ h => h) (Or.inl ⟨by rfl, ?_⟩) hHeld ?_
          rotate_left
          · (intro w' hSw; (try dsimp only at hSw); go_simp <;> with_reducible rfl)
          try simp only [Act.put, List.getElem_toArray, List.getElem_cons_succ, List.getElem_cons_zero, List.setIfInBounds_toArray, List.set_cons_zero, List.set_cons_succ]
          refine wpAnyH_ready (rs := [12]) (by kernel_rfl) (by simp) (AllReadyH.cons (o := _) rfl (fun K hK => ?_) AllReadyH.nil)
          try simp only [Act.put, List.getElem_toArray, List.getElem_cons_succ, List.getElem_cons_zero, List.setIfInBounds_toArray, List.set_cons_zero, List.set_cons_succ]
          obtain ⟨ys, hrow, HP⟩ := HS3.out.put D (t := t) ⟨op, nv, fun _ _ => rfl⟩
          have HPP := hid HP
          have rA := row_three_ W (.slice Ap t.ps.length cp) (.slice Av t.vs.length cv) (.int .i64 t.d) 33
          have hrow' := World.ownsRow.alloc hrow (.cells #[.slice Ap t.ps.length cp, .slice Av t.vs.length cv, .int .i64 t.d] 33)
          replace D := D.trans (((Below.refl W.heap.size W).alloc (Nat.le_refl _) (.cells #[.slice Ap t.ps.length cp, .slice Av t.vs.length cv, .int .i64 t.d] 33)).mono D.size)
          clear HP hrow op nv
          go_simp
          refine hK.out _ _ (HS.out _ D) (fun hHeld => ?_)
          clear hK K
          try simp only [Act.put, List.getElem_toArray, List.getElem_cons_succ, List.getElem_cons_zero, List.setIfInBounds_toArray, List.set_cons_zero, List.set_cons_succ]
          refine wpAnyH_ready (rs := [13]) (by kernel_rfl) (by simp) (AllReadyH.cons (o := _) rfl (fun K hK => ?_) AllReadyH.nil)
          try simp only [Act.put, List.getElem_toArray, List.getElem_cons_succ, List.getElem_cons_zero, List.setIfInBounds_toArray, List.set_cons_zero, List.set_cons_succ]
          rw [if_pos (by rfl)]
          refine op_append_row2 _ (by rfl) _ _ 23 (by rfl) w.heap.size 33 i0 (.agg #[.slice none 0 0, .slice none 0 0, .int .i64 0]) 3 56 Try.underlying23 hi hz0 hz1 hz2 rfl (by decide) (.slice Ao out.length co) out.length ys (by rfl) hrow' _ (some ⟨W.heap.size, 0, none⟩) 1 1 [.slice Ap t.ps.length cp, .slice Av t.vs.length cv, .int .i64 t.d] (by rfl) rA rfl (tx_cells _ _ _ _ _ _ _) (by unfold maxLen; omega) (by omega) (Nat.le_trans hz3 D.size) ?_
          intro v7 W7 hown hg
          obtain ⟨Ao7, co7, col7, rfl, ⟨k1, kf⟩, b7, S7⟩ := HPP.out v7 W7 hown hg
          have x7 := (HX5.out _ D).grown hg (HN5.out)
          clear hown hg rA hrow' HPP
          refine hK.out _ _ ⟨x7.reads.1, x7.reads.2.1, x7.reads.2.2.1⟩ (fun hHeld => ?_)
          clear hK K
          try simp only [Act.put, List.getElem_toArray, List.getElem_cons_succ, List.getElem_cons_zero, List.setIfInBounds_toArray, List.set_cons_zero, List.set_cons_succ]
          refine wpAnyH_take (i := 14) (oi := _) (v := ?_) rfl (by kernel_rfl) (by kernel_rfl) (by kernel_rfl) (fun _ _ _ h => h) (Or.inl ⟨by rfl, ?_⟩) hHeld ?_
          rotate_left
          · (intro w' hSw; (try dsimp only at hSw); go_simp <;> with_reducible rfl)
          try simp only [Act.put, List.getElem_toArray, List.getElem_cons_succ, List.getElem_cons_zero, List.setIfInBounds_toArray, List.set_cons_zero, List.set_cons_succ]
          refine wpAnyH_ready (rs := [15]) (by kernel_rfl) (by simp) (AllReadyH.cons (o := _) rfl (fun K hK => ?_) AllReadyH.nil)
          try simp only [Act.put, List.getElem_toArray, List.getElem_cons_succ, List.getElem_cons_zero, List.setIfInBounds_toArray, List.set_cons_zero, List.set_cons_succ]
          go_simp
          have x8 := x7.far (p := ⟨g, 0, none⟩) HG5.out (.slice Ao7 (out.length + 1) co7)
          refine hK.out _ _ ⟨x8.reads.1, x8.reads.2.1, x8.reads.2.2.1⟩ (fun hHeld => ?_)
          clear hK K
          try simp only [Act.put, List.getElem_toArray, List.getElem_cons_succ, List.getElem_cons_zero, List.setIfInBounds_toArray, List.set_cons_zero, List.set_cons_succ]
          refine wpAnyH_done (by kernel_rfl) ?_ _
          clear hHeld k1 kf x7 x8 b7 D
          go_wp2
          go_roundw
          case rel => exact ⟨k + 1, col7, Ao7, co7, hlt, by go_num, by rw [hT.out]; simpa using S7⟩
          case measure => simp [intOf]; omega
      · skip
        try simp only [Act.put, List.getElem_toArray, List.getElem_cons_succ, List.getElem_cons_zero, List.setIfInBounds_toArray, List.set_cons_zero, List.set_cons_succ]
        go_simp
        go_at_call 77
        refine (HC.out _ D).mono ?_
        rintro e W ⟨vp, rfl, op', d5⟩
        have op := op'.base D.size
        obtain ⟨Ap, cp, rfl, -, -⟩ := op.form
        try replace na := own_below na d5 (Nat.le_refl _)
        try replace nv := OwnI.below nv d5 (Nat.le_refl _)
        replace D := D.trans (d5.mono D.size)
        clear op' d5
        refine hK.out _ _ (HS.out _ D) (fun hHeld => ?_)
        clear hK K
        try simp only [Act.put, List.getElem_toArray, List.getElem_cons_succ, List.getElem_cons_zero, List.setIfInBounds_toArray, List.set_cons_zero, List.set_cons_succ]
        refine wpAnyH_ready (rs := [1, 5]) (by kernel_rfl) (by simp) (AllReadyH.cons (o := _) rfl (fun K hK => ?_) (AllReadyH.cons (o := _) rfl (fun K hK => ?_) AllReadyH.nil))
        · skip
          try simp only [Act.put, List.getElem_toArray, List.getElem_cons_succ, List.getElem_cons_zero, List.setIfInBounds_toArray, List.set_cons_zero, List.set_cons_succ]
          have yL := (HS3.out.later D).2.2.1.reads.1
          go_simp
          refine hK.out _ _ (HS.out _ D) (fun hHeld => ?_)
          clear hK K
          try simp only [Act.put, List.getElem_toArray, List.getElem_cons_succ, List.getElem_cons_zero, List.setIfInBounds_toArray, List.set_cons_zero, List.set_cons_succ]
          clear yL
          refine wpAnyH_ready (rs := [5]) (by kernel_rfl) (by simp) (AllReadyH.cons (o := _) rfl (fun K hK => ?_) AllReadyH.nil)
          try simp only [Act.put, List.getElem_toArray, List.getElem_cons_succ, List.getElem_cons_zero, List.setIfInBounds_toArray, List.set_cons_zero, List.set_cons_succ]
          have al := (Below.refl W.heap.size W).alloc (Nat.le_refl _) (.cells #[] 3)
          have na : (W.alloc (.cells #[] 3)).ownsRow w3.heap.size 3 1 (.slice (some ⟨W.heap.size, 0, none⟩) 0 0) 0 [] := nil_own D.size _ _
          try replace op := op.below al
          replace D := D.trans (al.mono D.size)
          go_simp
          obtain ⟨gA, hgA⟩ : ∃ x, W.heap.size = x := ⟨_, rfl⟩
          obtain ⟨W, hW⟩ : ∃ x, W.alloc (.cells #[] 3) = x := ⟨_, rfl⟩
          rw [hW, hgA] at na ⊢
          rw [hW] at D
          try rw [hW] at op
          clear al hW hgA
          refine hK.out _ _ (HS.out _ D) (fun hHeld => ?_)
          clear hK K
          try simp only [Act.put, List.getElem_toArray, List.getElem_cons_succ, List.getElem_cons_zero, List.setIfInBounds_toArray, List.set_cons_zero, List.set_cons_succ]
          refine wpAnyH_ready (rs := [8]) (by kernel_rfl) (by simp) (AllReadyH.cons (o := _) rfl (fun K hK => ?_) AllReadyH.nil)
          try simp only [Act.put, List.getElem_toArray, List.getElem_cons_succ, List.getElem_cons_zero, List.setIfInBounds_toArray, List.set_cons_zero, List.set_cons_succ]
          rw [if_pos (by rfl)]
          refine op_append_row2 _ (by rfl) _ _ 24 (by rfl) w3.heap.size 3 i1 (.int .i64 0) 1 8 Try.underlying24 hj hy0 hy1 hy2 rfl (by decide) (.slice (some ⟨gA, 0, none⟩) 0 0) 0 [] (by rfl) na w3.heap.size A9 t.vs.length c9 (ints t.vs) (by rfl) (HV.out _ D) (by rw [ints_length]; omega) (ints_cells _) (by unfold maxLen; omega) (by omega) D.size ?_
          intro v9 W hown hg
          rw [Nat.zero_add, List.nil_append] at hown
          replace D := D.grown hg D.size (fun j hj => (World.ownsRow.lt na j hj).1)
          try replace op := op.keptI hg (row_typed na)
          have nv : OwnI W w3.heap.size v9 t.vs := hown
          obtain ⟨Av, cv, rfl, -, -⟩ := nv.form
          clear hown hg na
          refine hK.out _ _ (HS.out _ D) (fun hHeld => ?_)
          clear hK K
          try simp only [Act.put, List.getElem_toArray, List.getElem_cons_succ, List.getElem_cons_zero, List.setIfInBounds_toArray, List.set_cons_zero, List.set_cons_succ]
          refine wpAnyH_take (i := 11) (oi := _) (v := ?_) rfl (by kernel_rfl) (by kernel_rfl) (by kernel_rfl) (fun _ _ _ h => h) (Or.inl ⟨by rfl, ?_⟩) hHeld ?_
          rotate_left
          · (intro w' hSw; (try dsimp only at hSw); go_simp <;> with_reducible rfl)
          try simp only [Act.put, List.getElem_toArray, List.getElem_cons_succ, List.getElem_cons_zero, List.setIfInBounds_toArray, List.set_cons_zero, List.set_cons_succ]
          refine wpAnyH_ready (rs := [12]) (by kernel_rfl) (by simp) (AllReadyH.cons (o := _) rfl (fun K hK => ?_) AllReadyH.nil)
          try simp only [Act.put, List.getElem_toArray, List.getElem_cons_succ, List.getElem_cons_zero, List.setIfInBounds_toArray, List.set_cons_zero, List.set_cons_succ]
          obtain ⟨ys, hrow, HP⟩ := HS3.out.put D (t := t) ⟨op, nv, fun _ _ => rfl⟩
          have HPP := hid HP
          have rA := row_three_ W (.slice Ap t.ps.length cp) (.slice Av t.vs.length cv) (.int .i64 t.d) 33
          have hrow' := World.ownsRow.alloc hrow (.cells #[.slice Ap t.ps.length cp, .slice Av t.vs.length cv, .int .i64 t.d] 33)
          replace D := D.trans (((Below.refl W.heap.size W).alloc (Nat.le_refl _) (.cells #[.slice Ap t.ps.length cp, .slice Av t.vs.length cv, .int .i64 t.d] 33)).mono D.size)
          clear HP hrow op nv
          go_simp
          refine hK.out _ _ (HS.out _ D) (fun hHeld => ?_)
          clear hK K
          try simp only [Act.put, List.getElem_toArray, List.getElem_cons_succ, List.getElem_cons_zero, List.setIfInBounds_toArray, List.set_cons_zero, List.set_cons_succ]
          refine wpAnyH_ready (rs := [13]) (by kernel_rfl) (by simp) (AllReadyH.cons (o := _) rfl (fun K hK => ?_) AllReadyH.nil)
          try simp only [Act.put, List.getElem_toArray, List.getElem_cons_succ, List.getElem_cons_zero, List.setIfInBounds_toArray, List.set_cons_zero, List.set_cons_succ]
          rw [if_pos (by rfl)]
          refine op_append_row2 _ (by rfl) _ _ 23 (by rfl) w.heap.size 33 i0 (.agg #[.slice none 0 0, .slice none 0 0, .int .i64 0]) 3 56 Try.underlying23 hi hz0 hz1 hz2 rfl (by decide) (.slice Ao out.length co) out.length ys (by rfl) hrow' _ (some ⟨W.heap.size, 0, none⟩) 1 1 [.slice Ap t.ps.length cp, .slice Av t.vs.length cv, .int .i64 t.d] (by rfl) rA rfl (tx_cells _ _ _ _ _ _ _) (by unfold maxLen; omega) (by omega) (Nat.le_trans hz3 D.size) ?_
          intro v7 W7 hown hg
          obtain ⟨Ao7, co7, col7, rfl, ⟨k1, kf⟩, b7, S7⟩ := HPP.out v7 W7 hown hg
          have x7 := (HX5.out _ D).grown hg (HN5.out)
          clear hown hg rA hrow' HPP
          refine hK.out _ _ ⟨x7.reads.1, x7.reads.2.1, x7.reads.2.2.1⟩ (fun hHeld => ?_)
          clear hK K
          try simp only [Act.put, List.getElem_toArray, List.getElem_cons_succ, List.getElem_cons_zero, List.setIfInBounds_toArray, List.set_cons_zero, List.set_cons_succ]
          refine wpAnyH_take (i := 14) (oi := _) (v := ?_) rfl (by kernel_rfl) (by kernel_rfl) (by kernel_rfl) (fun _ _ _ h => h) (Or.inl ⟨by rfl, ?_⟩) hHeld ?_
          rotate_left
          · (intro w' hSw; (try dsimp only at hSw); go_simp <;> with_reducible rfl)
          try simp only [Act.put, List.getElem_toArray, List.getElem_cons_succ, List.getElem_cons_zero, List.setIfInBounds_toArray, List.set_cons_zero, List.set_cons_succ]
          refine wpAnyH_ready (rs := [15]) (by kernel_rfl) (by simp) (AllReadyH.cons (o := _) rfl (fun K hK => ?_) AllReadyH.nil)
          try simp only [Act.put, List.getElem_toArray, List.getElem_cons_succ, List.getElem_cons_zero, List.setIfInBounds_toArray, List.set_cons_zero, List.set_cons_succ]
          go_simp
          have x8 := x7.far (p := ⟨g, 0, none⟩) HG5.out (.slice Ao7 (out.length + 1) co7)
          refine hK.out _ _ ⟨x8.reads.1, x8.reads.2.1, x8.reads.2.2.1⟩ (fun hHeld => ?_)
          clear hK K
          try simp only [Act.put, List.getElem_toArray, List.getElem_cons_succ, List.getElem_cons_zero, List.setIfInBounds_toArray, List.set_cons_zero, List.set_cons_succ]
          refine wpAnyH_done (by kernel_rfl) ?_ _
          clear hHeld k1 kf x7 x8 b7 D
          go_wp2
          go_roundw
          case rel => exact ⟨k + 1, col7, Ao7, co7, hlt, by go_num, by rw [hT.out]; simpa using S7⟩
          case measure => simp [intOf]; omega
        · skip
          try simp only [Act.put, List.getElem_toArray, List.getElem_cons_succ, List.getElem_cons_zero, List.setIfInBounds_toArray, List.set_cons_zero, List.set_cons_succ]
          have al := (Below.refl W.heap.size W).alloc (Nat.le_refl _) (.cells #[] 3)
          have na : (W.alloc (.cells #[] 3)).ownsRow w3.heap.size 3 1 (.slice (some ⟨W.heap.size, 0, none⟩) 0 0) 0 [] := nil_own D.size _ _
          try replace op := op.below al
          replace D := D.trans (al.mono D.size)
          go_simp
          obtain ⟨gA, hgA⟩ : ∃ x, W.heap.size = x := ⟨_, rfl⟩
          obtain ⟨W, hW⟩ : ∃ x, W.alloc (.cells #[] 3) = x := ⟨_, rfl⟩
          rw [hW, hgA] at na ⊢
          rw [hW] at D
          try rw [hW] at op
          clear al hW hgA
          refine hK.out _ _ (HS.out _ D) (fun hHeld => ?_)
          clear hK K
          try simp only [Act.put, List.getElem_toArray, List.getElem_cons_succ, List.getElem_cons_zero, List.setIfInBounds_toArray, List.set_cons_zero, List.set_cons_succ]
          refine wpAnyH_ready (rs := [1, 8]) (by kernel_rfl) (by simp) (AllReadyH.cons (o := _) rfl (fun K hK => ?_) (AllReadyH.cons (o := _) rfl (fun K hK => ?_) AllReadyH.nil))
          · skip
            try simp only [Act.put, List.getElem_toArray, List.getElem_cons_succ, List.getElem_cons_zero, List.setIfInBounds_toArray, List.set_cons_zero, List.set_cons_succ]
            have yL := (HS3.out.later D).2.2.1.reads.1
            go_simp
            refine hK.out _ _ (HS.out _ D) (fun hHeld => ?_)
            clear hK K
            try simp only [Act.put, List.getElem_toArray, List.getElem_cons_succ, List.getElem_cons_zero, List.setIfInBounds_toArray, List.set_cons_zero, List.set_cons_succ]
            clear yL
            refine wpAnyH_ready (rs := [8]) (by kernel_rfl) (by simp) (AllReadyH.cons (o := _) rfl (fun K hK => ?_) AllReadyH.nil)
            try simp only [Act.put, List.getElem_toArray, List.getElem_cons_succ, List.getElem_cons_zero, List.setIfInBounds_toArray, List.set_cons_zero, List.set_cons_succ]
            rw [if_pos (by rfl)]
            refine op_append_row2 _ (by rfl) _ _ 24 (by rfl) w3.heap.size 3 i1 (.int .i64 0) 1 8 Try.underlying24 hj hy0 hy1 hy2 rfl (by decide) (.slice (some ⟨gA, 0, none⟩) 0 0) 0 [] (by rfl) na w3.heap.size A9 t.vs.length c9 (ints t.vs) (by rfl) (HV.out _ D) (by rw [ints_length]; omega) (ints_cells _) (by unfold maxLen; omega) (by omega) D.size ?_
            intro v9 W hown hg
            rw [Nat.zero_add, List.nil_append] at hown
            replace D := D.grown hg D.size (fun j hj => (World.ownsRow.lt na j hj).1)
            try replace op := op.keptI hg (row_typed na)
            have nv : OwnI W w3.heap.size v9 t.vs := hown
            obtain ⟨Av, cv, rfl, -, -⟩ := nv.form
            clear hown hg na
            refine hK.out _ _ (HS.out _ D) (fun hHeld => ?_)
            clear hK K
            try simp only [Act.put, List.getElem_toArray, List.getElem_cons_succ, List.getElem_cons_zero, List.setIfInBounds_toArray, List.set_cons_zero, List.set_cons_succ]
            refine wpAnyH_take (i := 11) (oi := _) (v := ?_) rfl (by kernel_rfl) (by kernel_rfl) (by kernel_rfl) (fun _ _ _ h => h) (Or.inl ⟨by rfl, ?_⟩) hHeld ?_
            rotate_left
            · (intro w' hSw; (try dsimp only at hSw); go_simp <;> with_reducible rfl)
            try simp only [Act.put, List.getElem_toArray, List.getElem_cons_succ, List.getElem_cons_zero, List.setIfInBounds_toArray, List.set_cons_zero, List.set_cons_succ]
            refine wpAnyH_ready (rs := [12]) (by kernel_rfl) (by simp) (AllReadyH.cons (o := _) rfl (fun K hK => ?_) AllReadyH.nil)
            try simp only [Act.put, List.getElem_toArray, List.getElem_cons_succ, List.getElem_cons_zero, List.setIfInBounds_toArray, List.set_cons_zero, List.set_cons_succ]
            obtain ⟨ys, hrow, HP⟩ := HS3.out.put D (t := t) ⟨op, nv, fun _ _ => rfl⟩
            have HPP := hid HP
            have rA := row_three_ W (.slice Ap t.ps.length cp) (.slice Av t.vs.length cv) (.int .i64 t.d) 33
            have hrow' := World.ownsRow.alloc hrow (.cells #[.slice Ap t.ps.length cp, .slice Av t.vs.length cv, .int .i64 t.d] 33)
            replace D := D.trans (((Below.refl W.heap.size W).alloc (Nat.le_refl _) (.cells #[.slice Ap t.ps.length cp, .slice Av t.vs.length cv, .int .i64 t.d] 33)).mono D.size)
            clear HP hrow op nv
            go_simp
            refine hK.out _ _ (HS.out _ D) (fun hHeld => ?_)
            clear hK K
            try simp only [Act.put, List.getElem_toArray, List.getElem_cons_succ, List.getElem_cons_zero, List.setIfInBounds_toArray, List.set_cons_zero, List.set_cons_succ]
            refine wpAnyH_ready (rs := [13]) (by kernel_rfl) (by simp) (AllReadyH.cons (o := _) rfl (fun K hK => ?_) AllReadyH.nil)
            try simp only [Act.put, List.getElem_toArray, List.getElem_cons_succ, List.getElem_cons_zero, List.setIfInBounds_toArray, List.set_cons_zero, List.set_cons_succ]
            rw [if_pos (by rfl)]
            refine op_append_row2 _ (by rfl) _ _ 23 (by rfl) w.heap.size 33 i0 (.agg #[.slice none 0 0, .slice none 0 0, .int .i64 0]) 3 56 Try.underlying23 hi hz0 hz1 hz2 rfl (by decide) (.slice Ao out.length co) out.length ys (by rfl) hrow' _ (some ⟨W.heap.size, 0, none⟩) 1 1 [.slice Ap t.ps.length cp, .slice Av t.vs.length cv, .int .i64 t.d] (by rfl) rA rfl (tx_cells _ _ _ _ _ _ _) (by unfold maxLen; omega) (by omega) (Nat.le_trans hz3 D.size) ?_
            intro v7 W7 hown hg
            obtain ⟨Ao7, co7, col7, rfl, ⟨k1, kf⟩, b7, S7⟩ := HPP.out v7 W7 hown hg
            have x7 := (HX5.out _ D).grown hg (HN5.out)
            clear hown hg rA hrow' HPP
            refine hK.out _ _ ⟨x7.reads.1, x7.reads.2.1, x7.reads.2.2.1⟩ (fun hHeld => ?_)
            clear hK K
            try simp only [Act.put, List.getElem_toArray, List.getElem_cons_succ, List.getElem_cons_zero, List.setIfInBounds_toArray, List.set_cons_zero, List.set_cons_succ]
            refine wpAnyH_take (i := 14) (oi := _) (v := ?_) rfl (by kernel_rfl) (by kernel_rfl) (by kernel_rfl) (fun _ _ _ h => h) (Or.inl ⟨by rfl, ?_⟩) hHeld ?_
            rotate_left
            · (intro w' hSw; (try dsimp only at hSw); go_simp <;> with_reducible rfl)
            try simp only [Act.put, List.getElem_toArray, List.getElem_cons_succ, List.getElem_cons_zero, List.setIfInBounds_toArray, List.set_cons_zero, List.set_cons_succ]
            refine wpAnyH_ready (rs := [15]) (by kernel_rfl) (by simp) (AllReadyH.cons (o := _) rfl (fun K hK => ?_) AllReadyH.nil)
            try simp only [Act.put, List.getElem_toArray, List.getElem_cons_succ, List.getElem_cons_zero, List.setIfInBounds_toArray, List.set_cons_zero, List.set_cons_succ]
            go_simp
            have x8 := x7.far (p := ⟨g, 0, none⟩) HG5.out (.slice Ao7 (out.length + 1) co7)
            refine hK.out _ _ ⟨x8.reads.1, x8.reads.2.1, x8.reads.2.2.1⟩ (fun hHeld => ?_)
            clear hK K
            try simp only [Act.put, List.getElem_toArray, List.getElem_cons_succ, List.getElem_cons_zero, List.setIfInBounds_toArray, List.set_cons_zero, List.set_cons_succ]
            refine wpAnyH_done (by kernel_rfl) ?_ _
            clear hHeld k1 kf x7 x8 b7 D
            go_wp2
            go_roundw
            case rel => exact ⟨k + 1, col7, Ao7, co7, hlt, by go_num, by rw [hT.out]; simpa using S7⟩
            case measure => simp [intOf]; omega
          · skip
            try simp only [Act.put, List.getElem_toArray, List.getElem_cons_succ, List.getElem_cons_zero, List.setIfInBounds_toArray, List.set_cons_zero, List.set_cons_succ]
            rw [if_pos (by rfl)]
            refine op_append_row2 _ (by rfl) _ _ 24 (by rfl) w3.heap.size 3 i1 (.int .i64 0) 1 8 Try.underlying24 hj hy0 hy1 hy2 rfl (by decide) (.slice (some ⟨gA, 0, none⟩) 0 0) 0 [] (by rfl) na w3.heap.size A9 t.vs.length c9 (ints t.vs) (by rfl) (HV.out _ D) (by rw [ints_length]; omega) (ints_cells _) (by unfold maxLen; omega) (by omega) D.size ?_
            intro v9 W hown hg
            rw [Nat.zero_add, List.nil_append] at hown
            replace D := D.grown hg D.size (fun j hj => (World.ownsRow.lt na j hj).1)
            try replace op := op.keptI hg (row_typed na)
            have nv : OwnI W w3.heap.size v9 t.vs := hown
            obtain ⟨Av, cv, rfl, -, -⟩ := nv.form
            clear hown hg na
            refine hK.out _ _ (HS.out _ D) (fun hHeld => ?_)
            clear hK K
            try simp only [Act.put, List.getElem_toArray, List.getElem_cons_succ, List.getElem_cons_zero, List.setIfInBounds_toArray, List.set_cons_zero, List.set_cons_succ]
            refine wpAnyH_take (i := 11) (oi := _) (v := ?_) rfl (by kernel_rfl) (by kernel_rfl) (by kernel_rfl) (fun _ _ _ h => h) (Or.inl ⟨by rfl, ?_⟩) hHeld ?_
            rotate_left
            · (intro w' hSw; (try dsimp only at hSw); go_simp <;> with_reducible rfl)
            try simp only [Act.put, List.getElem_toArray, List.getElem_cons_succ, List.getElem_cons_zero, List.setIfInBounds_toArray, List.set_cons_zero, List.set_cons_succ]
            refine wpAnyH_ready (rs := [1, 12]) (by kernel_rfl) (by simp) (AllReadyH.cons (o := _) rfl (fun K hK => ?_) (AllReadyH.cons (o := _) rfl (fun K hK => ?_) AllReadyH.nil))
            · skip
              try simp only [Act.put, List.getElem_toArray, List.getElem_cons_succ, List.getElem_cons_zero, List.setIfInBounds_toArray, List.set_cons_zero, List.set_cons_succ]
              have yL := (HS3.out.later D).2.2.1.reads.1
              go_simp
              refine hK.out _ _ (HS.out _ D) (fun hHeld => ?_)
              clear hK K
              try simp only [Act.put, List.getElem_toArray, List.getElem_cons_succ, List.getElem_cons_zero, List.setIfInBounds_toArray, List.set_cons_zero, List.set_cons_succ]
              clear yL
              refine wpAnyH_ready (rs := [12]) (by kernel_rfl) (by simp) (AllReadyH.cons (o := _) rfl (fun K hK => ?_) AllReadyH.nil)
              try simp only [Act.put, List.getElem_toArray, List.getElem_cons_succ, List.getElem_cons_zero, List.setIfInBounds_toArray, List.set_cons_zero, List.set_cons_succ]
              obtain ⟨ys, hrow, HP⟩ := HS3.out.put D (t := t) ⟨op, nv, fun _ _ => rfl⟩
              have HPP := hid HP
              have rA := row_three_ W (.slice Ap t.ps.length cp) (.slice Av t.vs.length cv) (.int .i64 t.d) 33
              have hrow' := World.ownsRow.alloc hrow (.cells #[.slice Ap t.ps.length cp, .slice Av t.vs.length cv, .int .i64 t.d] 33)
              replace D := D.trans (((Below.refl W.heap.size W).alloc (Nat.le_refl _) (.cells #[.slice Ap t.ps.length cp, .slice Av t.vs.length cv, .int .i64 t.d] 33)).mono D.size)
              clear HP hrow op nv
              go_simp
              refine hK.out _ _ (HS.out _ D) (fun hHeld => ?_)
              clear hK K
              try simp only [Act.put, List.getElem_toArray, List.getElem_cons_succ, List.getElem_cons_zero, List.setIfInBounds_toArray, List.set_cons_zero, List.set_cons_succ]
              refine wpAnyH_ready (rs := [13]) (by kernel_rfl) (by simp) (AllReadyH.cons (o := _) rfl (fun K hK => ?_) AllReadyH.nil)
              try simp only [Act.put, List.getElem_toArray, List.getElem_cons_succ, List.getElem_cons_zero, List.setIfInBounds_toArray, List.set_cons_zero, List.set_cons_succ]
              rw [if_pos (by rfl)]
              refine op_append_row2 _ (by rfl) _ _ 23 (by rfl) w.heap.size 33 i0 (.agg #[.slice none 0 0, .slice none 0 0, .int .i64 0]) 3 56 Try.underlying23 hi hz0 hz1 hz2 rfl (by decide) (.slice Ao out.length co) out.length ys (by rfl) hrow' _ (some ⟨W.heap.size, 0, none⟩) 1 1 [.slice Ap t.ps.length cp, .slice Av t.vs.length cv, .int .i64 t.d] (by rfl) rA rfl (tx_cells _ _ _ _ _ _ _) (by unfold maxLen; omega) (by omega) (Nat.le_trans hz3 D.size) ?_
              intro v7 W7 hown hg
              obtain ⟨Ao7, co7, col7, rfl, ⟨k1, kf⟩, b7, S7⟩ := HPP.out v7 W7 hown hg
              have x7 := (HX5.out _ D).grown hg (HN5.out)
              clear hown hg rA hrow' HPP
              refine hK.out _ _ ⟨x7.reads.1, x7.reads.2.1, x7.reads.2.2.1⟩ (fun hHeld => ?_)
              clear hK K
              try simp only [Act.put, List.getElem_toArray, List.getElem_cons_succ, List.getElem_cons_zero, List.setIfInBounds_toArray, List.set_cons_zero, List.set_cons_succ]
              refine wpAnyH_take (i := 14) (oi := _) (v := ?_) rfl (by kernel_rfl) (by kernel_rfl) (by kernel_rfl) (fun _ _ _ h => h) (Or.inl ⟨by rfl, ?_⟩) hHeld ?_
              rotate_left
              · (intro w' hSw; (try dsimp only at hSw); go_simp <;> with_reducible rfl)
              try simp only [Act.put, List.getElem_toArray, List.getElem_cons_succ, List.getElem_cons_zero, List.setIfInBounds_toArray, List.set_cons_zero, List.set_cons_succ]
              refine wpAnyH_ready (rs := [15]) (by kernel_rfl) (by simp) (AllReadyH.cons (o := _) rfl (fun K hK => ?_) AllReadyH.nil)
              try simp only [Act.put, List.getElem_toArray, List.getElem_cons_succ, List.getElem_cons_zero, List.setIfInBounds_toArray, List.set_cons_zero, List.set_cons_succ]
              go_simp
              have x8 := x7.far (p := ⟨g, 0, none⟩) HG5.out (.slice Ao7 (out.length + 1) co7)
              refine hK.out _ _ ⟨x8.reads.1, x8.reads.2.1, x8.reads.2.2.1⟩ (fun hHeld => ?_)
              clear hK K
              try simp only [Act.put, List.getElem_toArray, List.getElem_cons_succ, List.getElem_cons_zero, List.setIfInBounds_toArray, List.set_cons_zero, List.set_cons_succ]
              refine wpAnyH_done (by kernel_rfl) ?_ _
              clear hHeld k1 kf x7 x8 b7 D
              go_wp2
              go_roundw
              case rel => exact ⟨k + 1, col7, Ao7, co7, hlt, by go_num, by rw [hT.out]; simpa using S7⟩
              case measure => simp [intOf]; omega
            · skip
              try simp only [Act.put, List.getElem_toArray, List.getElem_cons_succ, List.getElem_cons_zero, List.setIfInBounds_toArray, List.set_cons_zero, List.set_cons_succ]
              obtain ⟨ys, hrow, HP⟩ := HS3.out.put D (t := t) ⟨op, nv, fun _ _ => rfl⟩
              have HPP := hid HP
              have rA := row_three_ W (.slice Ap t.ps.length cp) (.slice Av t.vs.length cv) (.int .i64 t.d) 33
              have hrow' := World.ownsRow.alloc hrow (.cells #[.slice Ap t.ps.length cp, .slice Av t.vs.length cv, .int .i64 t.d] 33)
              replace D := D.trans (((Below.refl W.heap.size W).alloc (Nat.le_refl _) (.cells #[.slice Ap t.ps.length cp, .slice Av t.vs.length cv, .int .i64 t.d] 33)).mono D.size)
              clear HP hrow op nv
              go_simp
              refine hK.out _ _ (HS.out _ D) (fun hHeld => ?_)
              clear hK K
              try simp only [Act.put, List.getElem_toArray, List.getElem_cons_succ, List.getElem_cons_zero, List.setIfInBounds_toArray, List.set_cons_zero, List.set_cons_succ]
              refine wpAnyH_ready (rs := [1]) (by kernel_rfl) (by simp) (AllReadyH.cons (o := _) rfl (fun K hK => ?_) AllReadyH.nil)
              try simp only [Act.put, List.getElem_toArray, List.getElem_cons_succ, List.getElem_cons_zero, List.setIfInBounds_toArray, List.set_cons_zero, List.set_cons_succ]
              have yL := (HS3.out.later D).2.2.1.reads.1
              go_simp
              refine hK.out _ _ (HS.out _ D) (fun hHeld => ?_)
              clear hK K
              try simp only [Act.put, List.getElem_toArray, List.getElem_cons_succ, List.getElem_cons_zero, List.setIfInBounds_toArray, List.set_cons_zero, List.set_cons_succ]
              clear yL
              refine wpAnyH_ready (rs := [13]) (by kernel_rfl) (by simp) (AllReadyH.cons (o := _) rfl (fun K hK => ?_) AllReadyH.nil)
              try simp only [Act.put, List.getElem_toArray, List.getElem_cons_succ, List.getElem_cons_zero, List.setIfInBounds_toArray, List.set_cons_zero, List.set_cons_succ]
              rw [if_pos (by rfl)]
              refine op_append_row2 _ (by rfl) _ _ 23 (by rfl) w.heap.size 33 i0 (.agg #[.slice none 0 0, .slice none 0 0, .int .i64 0]) 3 56 Try.underlying23 hi hz0 hz1 hz2 rfl (by decide) (.slice Ao out.length co) out.length ys (by rfl) hrow' _ (some ⟨W.heap.size, 0, none⟩) 1 1 [.slice Ap t.ps.length cp, .slice Av t.vs.length cv, .int .i64 t.d] (by rfl) rA rfl (tx_cells _ _ _ _ _ _ _) (by unfold maxLen; omega) (by omega) (Nat.le_trans hz3 D.size) ?_
              intro v7 W7 hown hg
              obtain ⟨Ao7, co7, col7, rfl, ⟨k1, kf⟩, b7, S7⟩ := HPP.out v7 W7 hown hg
              have x7 := (HX5.out _ D).grown hg (HN5.out)
              clear hown hg rA hrow' HPP
              refine hK.out _ _ ⟨x7.reads.1, x7.reads.2.1, x7.reads.2.2.1⟩ (fun hHeld => ?_)
              clear hK K
              try simp only [Act.put, List.getElem_toArray, List.getElem_cons_succ, List.getElem_cons_zero, List.setIfInBounds_toArray, List.set_cons_zero, List.set_cons_succ]
              refine wpAnyH_take (i := 14) (oi := _) (v := ?_) rfl (by kernel_rfl) (by kernel_rfl) (by kernel_rfl) (fun _ _ _ h => h) (Or.inl ⟨by rfl, ?_⟩) hHeld ?_
              rotate_left
              · (intro w' hSw; (try dsimp only at hSw); go_simp <;> with_reducible rfl)
              try simp only [Act.put, List.getElem_toArray, List.getElem_cons_succ, List.getElem_cons_zero, List.setIfInBounds_toArray, List.set_cons_zero, List.set_cons_succ]
              refine wpAnyH_ready (rs := [15]) (by kernel_rfl) (by simp) (AllReadyH.cons (o := _) rfl (fun K hK => ?_) AllReadyH.nil)
              try simp only [Act.put, List.getElem_toArray, List.getElem_cons_succ, List.getElem_cons_zero, List.setIfInBounds_toArray, List.set_cons_zero, List.set_cons_succ]
              go_simp
              have x8 := x7.far (p := ⟨g, 0, none⟩) HG5.out (.slice Ao7 (out.length + 1) co7)
              refine hK.out _ _ ⟨x8.reads.1, x8.reads.2.1, x8.reads.2.2.1⟩ (fun hHeld => ?_)
              clear hK K
              try simp only [Act.put, List.getElem_toArray, List.getElem_cons_succ, List.getElem_cons_zero, List.setIfInBounds_toArray, List.set_cons_zero, List.set_cons_succ]
              refine wpAnyH_done (by kernel_rfl) ?_ _
              clear hHeld k1 kf x7 x8 b7 D
              go_wp2
              go_roundw
              case rel => exact ⟨k + 1, col7, Ao7, co7, hlt, by go_num, by rw [hT.out]; simpa using S7⟩
              case measure => simp [intOf]; omega
      · skip
        try simp only [Act.put, List.getElem_toArray, List.getElem_cons_succ, List.getElem_cons_zero, List.setIfInBounds_toArray, List.set_cons_zero, List.set_cons_succ]
        have al := (Below.refl W.heap.size W).alloc (Nat.le_refl _) (.cells #[] 3)
        have na : (W.alloc (.cells #[] 3)).ownsRow w3.heap.size 3 1 (.slice (some ⟨W.heap.size, 0, none⟩) 0 0) 0 [] := nil_own D.size _ _
        try replace op := op.below al
        replace D := D.trans (al.mono D.size)
        go_simp
        obtain ⟨gA, hgA⟩ : ∃ x, W.heap.size = x := ⟨_, rfl⟩
        obtain ⟨W, hW⟩ : ∃ x, W.alloc (.cells #[] 3) = x := ⟨_, rfl⟩
        rw [hW, hgA] at na ⊢
        rw [hW] at D
        try rw [hW] at op
        clear al hW hgA
        refine hK.out _ _ (HS.out _ D) (fun hHeld => ?_)
        clear hK K
        try simp only [Act.put, List.getElem_toArray, List.getElem_cons_succ, List.getElem_cons_zero, List.setIfInBounds_toArray, List.set_cons_zero, List.set_cons_succ]
        refine wpAnyH_ready (rs := [1, 4]) (by kernel_rfl) (by simp) (AllReadyH.cons (o := _) rfl (fun K hK => ?_) (AllReadyH.cons (o := _) rfl (fun K hK => ?_) AllReadyH.nil))
        · skip
          try simp only [Act.put, List.getElem_toArray, List.getElem_cons_succ, List.getElem_cons_zero, List.setIfInBounds_toArray, List.set_cons_zero, List.set_cons_succ]
          have yL := (HS3.out.later D).2.2.1.reads.1
          go_simp
          refine hK.out _ _ (HS.out _ D) (fun hHeld => ?_)
          clear hK K
          try simp only [Act.put, List.getElem_toArray, List.getElem_cons_succ, List.getElem_cons_zero, List.setIfInBounds_toArray, List.set_cons_zero, List.set_cons_succ]
          clear yL
          refine wpAnyH_ready (rs := [4]) (by kernel_rfl) (by simp) (AllReadyH.cons (o := _) rfl (fun K hK => ?_) AllReadyH.nil)
          try simp only [Act.put, List.getElem_toArray, List.getElem_cons_succ, List.getElem_cons_zero, List.setIfInBounds_toArray, List.set_cons_zero, List.set_cons_succ]
          go_simp
          go_at_call 77
          refine (HC.out _ D).mono ?_
          rintro e W ⟨vp, rfl, op', d5⟩
          have op := op'.base D.size
          obtain ⟨Ap, cp, rfl, -, -⟩ := op.form
          try replace na := own_below na d5 (Nat.le_refl _)
          try replace nv := OwnI.below nv d5 (Nat.le_refl _)
          replace D := D.trans (d5.mono D.size)
          clear op' d5
          refine hK.out _ _ (HS.out _ D) (fun hHeld => ?_)
          clear hK K
          try simp only [Act.put, List.getElem_toArray, List.getElem_cons_succ, List.getElem_cons_zero, List.setIfInBounds_toArray, List.set_cons_zero, List.set_cons_succ]
          refine wpAnyH_ready (rs := [8]) (by kernel_rfl) (by simp) (AllReadyH.cons (o := _) rfl (fun K hK => ?_) AllReadyH.nil)
          try simp only [Act.put, List.getElem_toArray, List.getElem_cons_succ, List.getElem_cons_zero, List.setIfInBounds_toArray, List.set_cons_zero, List.set_cons_succ]
          rw [if_pos (by rfl)]
          refine op_append_row2 _ (by rfl) _ _ 24 (by rfl) w3.heap.size 3 i1 (.int .i64 0) 1 8 Try.underlying24 hj hy0 hy1 hy2 rfl (by decide) (.slice (some ⟨gA, 0, none⟩) 0 0) 0 [] (by rfl) na w3.heap.size A9 t.vs.length c9 (ints t.vs) (by rfl) (HV.out _ D) (by rw [ints_length]; omega) (ints_cells _) (by unfold maxLen; omega) (by omega) D.size ?_
          intro v9 W hown hg
          rw [Nat.zero_add, List.nil_append] at hown
          replace D := D.grown hg D.size (fun j hj => (World.ownsRow.lt na j hj).1)
          try replace op := op.keptI hg (row_typed na)
          have nv : OwnI W w3.heap.size v9 t.vs := hown
          obtain ⟨Av, cv, rfl, -, -⟩ := nv.form
          clear hown hg na
          refine hK.out _ _ (HS.out _ D) (fun hHeld => ?_)
          clear hK K
          try simp only [Act.put, List.getElem_toArray, List.getElem_cons_succ, List.getElem_cons_zero, List.setIfInBounds_toArray, List.set_cons_zero, List.set_cons_succ]
          refine wpAnyH_take (i := 11) (oi := _) (v := ?_) rfl (by kernel_rfl) (by kernel_rfl) (by kernel_rfl) (fun _ _ _ h => h) (Or.inl ⟨by rfl, ?_⟩) hHeld ?_
          rotate_left
          · (intro w' hSw; (try dsimp only at hSw); go_simp <;> with_reducible rfl)
          try simp only [Act.put, List.getElem_toArray, List.getElem_cons_succ, List.getElem_cons_zero, List.setIfInBounds_toArray, List.set_cons_zero, List.set_cons_succ]
          refine wpAnyH_ready (rs := [12]) (by kernel_rfl) (by simp) (AllReadyH.cons (o := _) rfl (fun K hK => ?_) AllReadyH.nil)
          try simp only [Act.put, List.getElem_toArray, List.getElem_cons_succ, List.getElem_cons_zero, List.setIfInBounds_toArray, List.set_cons_zero, List.set_cons_succ]
          obtain ⟨ys, hrow, HP⟩ := HS3.out.put D (t := t) ⟨op, nv, fun _ _ => rfl⟩
          have HPP := hid HP
          have rA := row_three_ W (.slice Ap t.ps.length cp) (.slice Av t.vs.length cv) (.int .i64 t.d) 33
          have hrow' := World.ownsRow.alloc hrow (.cells #[.slice Ap t.ps.length cp, .slice Av t.vs.length cv, .int .i64 t.d] 33)
          replace D := D.trans (((Below.refl W.heap.size W).alloc (Nat.le_refl _) (.cells #[.slice Ap t.ps.length cp, .slice Av t.vs.length cv, .int .i64 t.d] 33)).mono D.size)
          clear HP hrow op nv
          go_simp
          refine hK.out _ _ (HS.out _ D) (fun hHeld => ?_)
          clear hK K
          try simp only [Act.put, List.getElem_toArray, List.getElem_cons_succ, List.getElem_cons_zero, List.setIfInBounds_toArray, List.set_cons_zero, List.set_cons_succ]
          refine wpAnyH_ready (rs := [13]) (by kernel_rfl) (by simp) (AllReadyH.cons (o := _) rfl (fun K hK => ?_) AllReadyH.nil)
          try simp only [Act.put, List.getElem_toArray, List.getElem_cons_succ, List.getElem_cons_zero, List.setIfInBounds_toArray, List.set_cons_zero, List.set_cons_succ]
          rw [if_pos (by rfl)]
          refine op_append_row2 _ (by rfl) _ _ 23 (by rfl) w.heap.size 33 i0 (.agg #[.slice none 0 0, .slice none 0 0, .int .i64 0]) 3 56 Try.underlying23 hi hz0 hz1 hz2 rfl (by decide) (.slice Ao out.length co) out.length ys (by rfl) hrow' _ (some ⟨W.heap.size, 0, none⟩) 1 1 [.slice Ap t.ps.length cp, .slice Av t.vs.length cv, .int .i64 t.d] (by rfl) rA rfl (tx_cells _ _ _ _ _ _ _) (by unfold maxLen; omega) (by omega) (Nat.le_trans hz3 D.size) ?_
          intro v7 W7 hown hg
          obtain ⟨Ao7, co7, col7, rfl, ⟨k1, kf⟩, b7, S7⟩ := HPP.out v7 W7 hown hg
          have x7 := (HX5.out _ D).grown hg (HN5.out)
          clear hown hg rA hrow' HPP
          refine hK.out _ _ ⟨x7.reads.1, x7.reads.2.1, x7.reads.2.2.1⟩ (fun hHeld => ?_)
          clear hK K
          try simp only [Act.put, List.getElem_toArray, List.getElem_cons_succ, List.getElem_cons_zero, List.setIfInBounds_toArray, List.set_cons_zero, List.set_cons_succ]
          refine wpAnyH_take (i := 14) (oi := _) (v := ?_) rfl (by kernel_rfl) (by kernel_rfl) (by kernel_rfl) (fun _ _ _ h => h) (Or.inl ⟨by rfl, ?_⟩) hHeld ?_
          rotate_left
          · (intro w' hSw; (try dsimp only at hSw); go_simp <;> with_reducible rfl)
          try simp only [Act.put, List.getElem_toArray, List.getElem_cons_succ, List.getElem_cons_zero, List.setIfInBounds_toArray, List.set_cons_zero, List.set_cons_succ]
          refine wpAnyH_ready (rs := [15]) (by kernel_rfl) (by simp) (AllReadyH.cons (o := _) rfl (fun K hK => ?_) AllReadyH.nil)
          try simp only [Act.put, List.getElem_toArray, List.getElem_cons_succ, List.getElem_cons_zero, List.setIfInBounds_toArray, List.set_cons_zero, List.set_cons_succ]
          go_simp
          have x8 := x7.far (p := ⟨g, 0, none⟩) HG5.out (.slice Ao7 (out.length + 1) co7)
          refine hK.out _ _ ⟨x8.reads.1, x8.reads.2.1, x8.reads.2.2.1⟩ (fun hHeld => ?_)
          clear hK K
          try simp only [Act.put, List.getElem_toArray, List.getElem_cons_succ, List.getElem_cons_zero, List.setIfInBounds_toArray, List.set_cons_zero, List.set_cons_succ]
          refine wpAnyH_done (by kernel_rfl) ?_ _
          clear hHeld k1 kf x7 x8 b7 D
          go_wp2
          go_roundw
          case rel => exact ⟨k + 1, col7, Ao7, co7, hlt, by go_num, by rw [hT.out]; simpa using S7⟩
          case measure => simp [intOf]; omega
        · skip
          try simp only [Act.put, List.getElem_toArray, List.getElem_cons_succ, List.getElem_cons_zero, List.setIfInBounds_toArray, List.set_cons_zero, List.set_cons_succ]
          go_simp
          go_at_call 77
          refine (HC.out _ D).mono ?_
          rintro e W ⟨vp, rfl, op', d5⟩
          have op := op'.base D.size
          obtain ⟨Ap, cp, rfl, -, -⟩ := op.form
          try replace na := own_below na d5 (Nat.le_refl _)
          try replace nv := OwnI.below nv d5 (Nat.le_refl _)
          replace D := D.trans (d5.mono D.size)
          clear op' d5
          refine hK.out _ _ (HS.out _ D) (fun hHeld => ?_)
          clear hK K
          try simp only [Act.put, List.getElem_toArray, List.getElem_cons_succ, List.getElem_cons_zero, List.setIfInBounds_toArray, List.set_cons_zero, List.set_cons_succ]
          refine wpAnyH_ready (rs := [1, 8]) (by kernel_rfl) (by simp) (AllReadyH.cons (o := _) rfl (fun K hK => ?_) (AllReadyH.cons (o := _) rfl (fun K hK => ?_) AllReadyH.nil))
          · skip
            try simp only [Act.put, List.getElem_toArray, List.getElem_cons_succ, List.getElem_cons_zero, List.setIfInBounds_toArray, List.set_cons_zero, List.set_cons_succ]
            have yL := (HS3.out.later D).2.2.1.reads.1
            go_simp
            refine hK.out _ _ (HS.out _ D) (fun hHeld => ?_)
            clear hK K
            try simp only [Act.put, List.getElem_toArray, List.getElem_cons_succ, List.getElem_cons_zero, List.setIfInBounds_toArray, List.set_cons_zero, List.set_cons_succ]
            clear yL
            refine wpAnyH_ready (rs := [8]) (by kernel_rfl) (by simp) (AllReadyH.cons (o := _) rfl (fun K hK => ?_) AllReadyH.nil)
            try simp only [Act.put, List.getElem_toArray, List.getElem_cons_succ, List.getElem_cons_zero, List.setIfInBounds_toArray, List.set_cons_zero, List.set_cons_succ]
            rw [if_pos (by rfl)]
            refine op_append_row2 _ (by rfl) _ _ 24 (by rfl) w3.heap.size 3 i1 (.int .i64 0) 1 8 Try.underlying24 hj hy0 hy1 hy2 rfl (by decide) (.slice (some ⟨gA, 0, none⟩) 0 0) 0 [] (by rfl) na w3.heap.size A9 t.vs.length c9 (ints t.vs) (by rfl) (HV.out _ D) (by rw [ints_length]; omega) (ints_cells _) (by unfold maxLen; omega) (by omega) D.size ?_
            intro v9 W hown hg
            rw [Nat.zero_add, List.nil_append] at hown
            replace D := D.grown hg D.size (fun j hj => (World.ownsRow.lt na j hj).1)
            try replace op := op.keptI hg (row_typed na)
            have nv : OwnI W w3.heap.size v9 t.vs := hown
            obtain ⟨Av, cv, rfl, -, -⟩ := nv.form
            clear hown hg na
            refine hK.out _ _ (HS.out _ D) (fun hHeld => ?_)
            clear hK K
            try simp only [Act.put, List.getElem_toArray, List.getElem_cons_succ, List.getElem_cons_zero, List.setIfInBounds_toArray, List.set_cons_zero, List.set_cons_succ]
            refine wpAnyH_take (i := 11) (oi := _) (v := ?_) rfl (by kernel_rfl) (by kernel_rfl) (by kernel_rfl) (fun _ _ _ h => h) (Or.inl ⟨by rfl, ?_⟩) hHeld ?_
            rotate_left
            · (intro w' hSw; (try dsimp only at hSw); go_simp <;> with_reducible rfl)
            try simp only [Act.put, List.getElem_toArray, List.getElem_cons_succ, List.getElem_cons_zero, List.setIfInBounds_toArray, List.set_cons_zero, List.set_cons_succ]
            refine wpAnyH_ready (rs := [12]) (by kernel_rfl) (by simp) (AllReadyH.cons (o := _) rfl (fun K hK => ?_) AllReadyH.nil)
            try simp only [Act.put, List.getElem_toArray, List.getElem_cons_succ, List.getElem_cons_zero, List.setIfInBounds_toArray, List.set_cons_zero, List.set_cons_succ]
            obtain ⟨ys, hrow, HP⟩ := HS3.out.put D (t := t) ⟨op, nv, fun _ _ => rfl⟩
            have HPP := hid HP
            have rA := row_three_ W (.slice Ap t.ps.length cp) (.slice Av t.vs.length cv) (.int .i64 t.d) 33
            have hrow' := World.ownsRow.alloc hrow (.cells #[.slice Ap t.ps.length cp, .slice Av t.vs.length cv, .int .i64 t.d] 33)
            replace D := D.trans (((Below.refl W.heap.size W).alloc (Nat.le_refl _) (.cells #[.slice Ap t.ps.length cp, .slice Av t.vs.length cv, .int .i64 t.d] 33)).mono D.size)
            clear HP hrow op nv
            go_simp
            refine hK.out _ _ (HS.out _ D) (fun hHeld => ?_)
            clear hK K
            try simp only [Act.put, List.getElem_toArray, List.getElem_cons_succ, List.getElem_cons_zero, List.setIfInBounds_toArray, List.set_cons_zero, List.set_cons_succ]
            refine wpAnyH_ready (rs := [13]) (by kernel_rfl) (by simp) (AllReadyH.cons (o := _) rfl (fun K hK => ?_) AllReadyH.nil)
            try simp only [Act.put, List.getElem_toArray, List.getElem_cons_succ, List.getElem_cons_zero, List.setIfInBounds_toArray, List.set_cons_zero, List.set_cons_succ]
            rw [if_pos (by rfl)]
            refine op_append_row2 _ (by rfl) _ _ 23 (by rfl) w.heap.size 33 i0 (.agg #[.slice none 0 0, .slice none 0 0, .int .i64 0]) 3 56 Try.underlying23 hi hz0 hz1 hz2 rfl (by decide) (.slice Ao out.length co) out.length ys (by rfl) hrow' _ (some ⟨W.heap.size, 0, none⟩) 1 1 [.slice Ap t.ps.length cp, .slice Av t.vs.length cv, .int .i64 t.d] (by rfl) rA rfl (tx_cells _ _ _ _ _ _ _) (by unfold maxLen; omega) (by omega) (Nat.le_trans hz3 D.size) ?_
            intro v7 W7 hown hg
            obtain ⟨Ao7, co7, col7, rfl, ⟨k1, kf⟩, b7, S7⟩ := HPP.out v7 W7 hown hg
            have x7 := (HX5.out _ D).grown hg (HN5.out)
            clear hown hg rA hrow' HPP
            refine hK.out _ _ ⟨x7.reads.1, x7.reads.2.1, x7.reads.2.2.1⟩ (fun hHeld => ?_)
            clear hK K
            try simp only [Act.put, List.getElem_toArray, List.getElem_cons_succ, List.getElem_cons_zero, List.setIfInBounds_toArray, List.set_cons_zero, List.set_cons_succ]
            refine wpAnyH_take (i := 14) (oi := _) (v := ?_) rfl (by kernel_rfl) (by kernel_rfl) (by kernel_rfl) (fun _ _ _ h => h) (Or.inl ⟨by rfl, ?_⟩) hHeld ?_
            rotate_left
            · (intro w' hSw; (try dsimp only at hSw); go_simp <;> with_reducible rfl)
            try simp only [Act.put, List.getElem_toArray, List.getElem_cons_succ, List.getElem_cons_zero, List.setIfInBounds_toArray, List.set_cons_zero, List.set_cons_succ]
            refine wpAnyH_ready (rs := [15]) (by kernel_rfl) (by simp) (AllReadyH.cons (o := _) rfl (fun K hK => ?_) AllReadyH.nil)
            try simp only [Act.put, List.getElem_toArray, List.getElem_cons_succ, List.getElem_cons_zero, List.setIfInBounds_toArray, List.set_cons_zero, List.set_cons_succ]
            go_simp
            have x8 := x7.far (p := ⟨g, 0, none⟩) HG5.out (.slice Ao7 (out.length + 1) co7)
            refine hK.out _ _ ⟨x8.reads.1, x8.reads.2.1, x8.reads.2.2.1⟩ (fun hHeld => ?_)
            clear hK K
            try simp only [Act.put, List.getElem_toArray, List.getElem_cons_succ, List.getElem_cons_zero, List.setIfInBounds_toArray, List.set_cons_zero, List.set_cons_succ]
            refine wpAnyH_done (by kernel_rfl) ?_ _
            clear hHeld k1 kf x7 x8 b7 D
            go_wp2
            go_roundw
            case rel => exact ⟨k + 1, col7, Ao7, co7, hlt, by go_num, by rw [hT.out]; simpa using S7⟩
            case measure => simp [intOf]; omega
          · skip
            try simp only [Act.put, List.getElem_toArray, List.getElem_cons_succ, List.getElem_cons_zero, List.setIfInBounds_toArray, List.set_cons_zero, List.set_cons_succ]
            rw [if_pos (by rfl)]
            refine op_append_row2 _ (by rfl) _ _ 24 (by rfl) w3.heap.size 3 i1 (.int .i64 0) 1 8 Try.underlying24 hj hy0 hy1 hy2 rfl (by decide) (.slice (some ⟨gA, 0, none⟩) 0 0) 0 [] (by rfl) na w3.heap.size A9 t.vs.length c9 (ints t.vs) (by rfl) (HV.out _ D) (by rw [ints_length]; omega) (ints_cells _) (by unfold maxLen; omega) (by omega) D.size ?_
            intro v9 W hown hg
            rw [Nat.zero_add, List.nil_append] at hown
            replace D := D.grown hg D.size (fun j hj => (World.ownsRow.lt na j hj).1)
            try replace op := op.keptI hg (row_typed na)
            have nv : OwnI W w3.heap.size v9 t.vs := hown
            obtain ⟨Av, cv, rfl, -, -⟩ := nv.form
            clear hown hg na
            refine hK.out _ _ (HS.out _ D) (fun hHeld => ?_)
            clear hK K
            try simp only [Act.put, List.getElem_toArray, List.getElem_cons_succ, List.getElem_cons_zero, List.setIfInBounds_toArray, List.set_cons_zero, List.set_cons_succ]
            refine wpAnyH_take (i := 11) (oi := _) (v := ?_) rfl (by kernel_rfl) (by kernel_rfl) (by kernel_rfl) (fun _ _ _ h => h) (Or.inl ⟨by rfl, ?_⟩) hHeld ?_
            rotate_left
            · (intro w' hSw; (try dsimp only at hSw); go_simp <;> with_reducible rfl)
            try simp only [Act.put, List.getElem_toArray, List.getElem_cons_succ, List.getElem_cons_zero, List.setIfInBounds_toArray, List.set_cons_zero, List.set_cons_succ]
            refine wpAnyH_ready (rs := [1, 12]) (by kernel_rfl) (by simp) (AllReadyH.cons (o := _) rfl (fun K hK => ?_) (AllReadyH.cons (o := _) rfl (fun K hK => ?_) AllReadyH.nil))
            · skip
              try simp only [Act.put, List.getElem_toArray, List.getElem_cons_succ, List.getElem_cons_zero, List.setIfInBounds_toArray, List.set_cons_zero, List.set_cons_succ]
              have yL := (HS3.out.later D).2.2.1.reads.1
              go_simp
              refine hK.out _ _ (HS.out _ D) (fun hHeld => ?_)
              clear hK K
              try simp only [Act.put, List.getElem_toArray, List.getElem_cons_succ, List.getElem_cons_zero, List.setIfInBounds_toArray, List.set_cons_zero, List.set_cons_succ]
              clear yL
              refine wpAnyH_ready (rs := [12]) (by kernel_rfl) (by simp) (AllReadyH.cons (o := _) rfl (fun K hK => ?_) AllReadyH.nil)
              try simp only [Act.put, List.getElem_toArray, List.getElem_cons_succ, List.getElem_cons_zero, List.setIfInBounds_toArray, List.set_cons_zero, List.set_cons_succ]
              obtain ⟨ys, hrow, HP⟩ := HS3.out.put D (t := t) ⟨op, nv, fun _ _ => rfl⟩
              have HPP := hid HP
              have rA := row_three_ W (.slice Ap t.ps.length cp) (.slice Av t.vs.length cv) (.int .i64 t.d) 33
              have hrow' := World.ownsRow.alloc hrow (.cells #[.slice Ap t.ps.length cp, .slice Av t.vs.length cv, .int .i64 t.d] 33)
              replace D := D.trans (((Below.refl W.heap.size W).alloc (Nat.le_refl _) (.cells #[.slice Ap t.ps.length cp, .slice Av t.vs.length cv, .int .i64 t.d] 33)).mono D.size)
              clear HP hrow op nv
              go_simp
              refine hK.out _ _ (HS.out _ D) (fun hHeld => ?_)
              clear hK K
              try simp only [Act.put, List.getElem_toArray, List.getElem_cons_succ, List.getElem_cons_zero, List.setIfInBounds_toArray, List.set_cons_zero, List.set_cons_succ]
              refine wpAnyH_ready (rs := [13]) (by kernel_rfl) (by simp) (AllReadyH.cons (o := _) rfl (fun K hK => ?_) AllReadyH.nil)
              try simp only [Act.put, List.getElem_toArray, List.getElem_cons_succ, List.getElem_cons_zero, List.setIfInBounds_toArray, List.set_cons_zero, List.set_cons_succ]
              rw [if_pos (by rfl)]
              refine op_append_row2 _ (by rfl) _ _ 23 (by rfl) w.heap.size 33 i0 (.agg #[.slice none 0 0, .slice none 0 0, .int .i64 0]) 3 56 Try.underlying23 hi hz0 hz1 hz2 rfl (by decide) (.slice Ao out.length co) out.length ys (by rfl) hrow' _ (some ⟨W.heap.size, 0, none⟩) 1 1 [.slice Ap t.ps.length cp, .slice Av t.vs.length cv, .int .i64 t.d] (by rfl) rA rfl (tx_cells _ _ _ _ _ _ _) (by unfold maxLen; omega) (by omega) (Nat.le_trans hz3 D.size) ?_
              intro v7 W7 hown hg
              obtain ⟨Ao7, co7, col7, rfl, ⟨k1, kf⟩, b7, S7⟩ := HPP.out v7 W7 hown hg
              have x7 := (HX5.out _ D).grown hg (HN5.out)
              clear hown hg rA hrow' HPP
              refine hK.out _ _ ⟨x7.reads.1, x7.reads.2.1, x7.reads.2.2.1⟩ (fun hHeld => ?_)
              clear hK K
              try simp only [Act.put, List.getElem_toArray, List.getElem_cons_succ, List.getElem_cons_zero, List.setIfInBounds_toArray, List.set_cons_zero, List.set_cons_succ]
              refine wpAnyH_take (i := 14) (oi := _) (v := ?_) rfl (by kernel_rfl) (by kernel_rfl) (by kernel_rfl) (fun _ _ _ h => h) (Or.inl ⟨by rfl, ?_⟩) hHeld ?_
              rotate_left
              · (intro w' hSw; (try dsimp only at hSw); go_simp <;> with_reducible rfl)
              try simp only [Act.put, List.getElem_toArray, List.getElem_cons_succ, List.getElem_cons_zero, List.setIfInBounds_toArray, List.set_cons_zero, List.set_cons_succ]
              refine wpAnyH_ready (rs := [15]) (by kernel_rfl) (by simp) (AllReadyH.cons (o := _) rfl (fun K hK => ?_) AllReadyH.nil)
              try simp only [Act.put, List.getElem_toArray, List.getElem_cons_succ, List.getElem_cons_zero, List.setIfInBounds_toArray, List.set_cons_zero, List.set_cons_succ]
              go_simp
              have x8 := x7.far (p := ⟨g, 0, none⟩) HG5.out (.slice Ao7 (out.length + 1) co7)
              refine hK.out _ _ ⟨x8.reads.1, x8.reads.2.1, x8.reads.2.2.1⟩ (fun hHeld => ?_)
              clear hK K
              try simp only [Act.put, List.getElem_toArray, List.getElem_cons_succ, List.getElem_cons_zero, List.setIfInBounds_toArray, List.set_cons_zero, List.set_cons_succ]
              refine wpAnyH_done (by kernel_rfl) ?_ _
              clear hHeld k1 kf x7 x8 b7 D
              go_wp2
              go_roundw
              case rel => exact ⟨k + 1, col7, Ao7, co7, hlt, by go_num, by rw [hT.out]; simpa using S7⟩
              case measure => simp [intOf]; omega
            · skip
              try simp only [Act.put, List.getElem_toArray, List.getElem_cons_succ, List.getElem_cons_zero, List.setIfInBounds_toArray, List.set_cons_zero, List.set_cons_succ]
              obtain ⟨ys, hrow, HP⟩ := HS3.out.put D (t := t) ⟨op, nv, fun _ _ => rfl⟩
              have HPP := hid HP
              have rA := row_three_ W (.slice Ap t.ps.length cp) (.slice Av t.vs.length cv) (.int .i64 t.d) 33
              have hrow' := World.ownsRow.alloc hrow (.cells #[.slice Ap t.ps.length cp, .slice Av t.vs.length cv, .int .i64 t.d] 33)
              replace D := D.trans (((Below.refl W.heap.size W).alloc (Nat.le_refl _) (.cells #[.slice Ap t.ps.length cp, .slice Av t.vs.length cv, .int .i64 t.d] 33)).mono D.size)
              clear HP hrow op nv
              go_simp
              refine hK.out _ _ (HS.out _ D) (fun hHeld => ?_)
              clear hK K
              try simp only [Act.put, List.getElem_toArray, List.getElem_cons_succ, List.getElem_cons_zero, List.setIfInBounds_toArray, List.set_cons_zero, List.set_cons_succ]
              refine wpAnyH_ready (rs := [1]) (by kernel_rfl) (by simp) (AllReadyH.cons (o := _) rfl (fun K hK => ?_) AllReadyH.nil)
              try simp only [Act.put, List.getElem_toArray, List.getElem_cons_succ, List.getElem_cons_zero, List.setIfInBounds_toArray, List.set_cons_zero, List.set_cons_succ]
              have yL := (HS3.out.later D).2.2.1.reads.1
              go_simp
              refine hK.out _ _ (HS.out _ D) (fun hHeld => ?_)
              clear hK K
              try simp only [Act.put, List.getElem_toArray, List.getElem_cons_succ, List.getElem_cons_zero, List.setIfInBounds_toArray, List.set_cons_zero, List.set_cons_succ]
              clear yL
              refine wpAnyH_ready (rs := [13]) (by kernel_rfl) (by simp) (AllReadyH.cons (o := _) rfl (fun K hK => ?_) AllReadyH.nil)
              try simp only [Act.put, List.getElem_toArray, List.getElem_cons_succ, List.getElem_cons_zero, List.setIfInBounds_toArray, List.set_cons_zero, List.set_cons_succ]
              rw [if_pos (by rfl)]
              refine op_append_row2 _ (by rfl) _ _ 23 (by rfl) w.heap.size 33 i0 (.agg #[.slice none 0 0, .slice none 0 0, .int .i64 0]) 3 56 Try.underlying23 hi hz0 hz1 hz2 rfl (by decide) (.slice Ao out.length co) out.length ys (by rfl) hrow' _ (some ⟨W.heap.size, 0, none⟩) 1 1 [.slice Ap t.ps.length cp, .slice Av t.vs.length cv, .int .i64 t.d] (by rfl) rA rfl (tx_cells _ _ _ _ _ _ _) (by unfold maxLen; omega) (by omega) (Nat.le_trans hz3 D.size) ?_
              intro v7 W7 hown hg
              obtain ⟨Ao7, co7, col7, rfl, ⟨k1, kf⟩, b7, S7⟩ := HPP.out v7 W7 hown hg
              have x7 := (HX5.out _ D).grown hg (HN5.out)
              clear hown hg rA hrow' HPP
              refine hK.out _ _ ⟨x7.reads.1, x7.reads.2.1, x7.reads.2.2.1⟩ (fun hHeld => ?_)
              clear hK K
              try simp only [Act.put, List.getElem_toArray, List.getElem_cons_succ, List.getElem_cons_zero, List.setIfInBounds_toArray, List.set_cons_zero, List.set_cons_succ]
              refine wpAnyH_take (i := 14) (oi := _) (v := ?_) rfl (by kernel_rfl) (by kernel_rfl) (by kernel_rfl) (fun _ _ _ h => h) (Or.inl ⟨by rfl, ?_⟩) hHeld ?_
              rotate_left
              · (intro w' hSw; (try dsimp only at hSw); go_simp <;> with_reducible rfl)
              try simp only [Act.put, List.getElem_toArray, List.getElem_cons_succ, List.getElem_cons_zero, List.setIfInBounds_toArray, List.set_cons_zero, List.set_cons_succ]
              refine wpAnyH_ready (rs := [15]) (by kernel_rfl) (by simp) (AllReadyH.cons (o := _) rfl (fun K hK => ?_) AllReadyH.nil)
              try simp only [Act.put, List.getElem_toArray, List.getElem_cons_succ, List.getElem_cons_zero, List.setIfInBounds_toArray, List.set_cons_zero, List.set_cons_succ]
              go_simp
              have x8 := x7.far (p := ⟨g, 0, none⟩) HG5.out (.slice Ao7 (out.length + 1) co7)
              refine hK.out _ _ ⟨x8.reads.1, x8.reads.2.1, x8.reads.2.2.1⟩ (fun hHeld => ?_)
              clear hK K
              try simp only [Act.put, List.getElem_toArray, List.getElem_cons_succ, List.getElem_cons_zero, List.setIfInBounds_toArray, List.set_cons_zero, List.set_cons_succ]
              refine wpAnyH_done (by kernel_rfl) ?_ _
              clear hHeld k1 kf x7 x8 b7 D
              go_wp2
              go_roundw
              case rel => exact ⟨k + 1, col7, Ao7, co7, hlt, by go_num, by rw [hT.out]; simpa using S7⟩
              case measure => simp [intOf]; omega
    · have hk' : k = q.ts.length := by omega
      subst hk'
      rw [List.take_length] at S
      obtain ⟨s1, s2, s3, -, s5, s6, s7⟩ := S
      obtain ⟨t0, t1, tf⟩ := id s2.reads
      have tf0 := tf 0
      have tf1 := tf 1
      obtain ⟨u0, u1, -⟩ := id s3.reads
      have o9 : OwnCr col wr w.heap.size (.agg #[.slice Ao q.ts.length co, .slice A5 q.os.length c5]) q := ⟨_, _, rfl, s5, s6⟩
      have o10 := (o9.keptT (by decide) (by decide) (by decide) (by decide) (but_set wr (w.heap.size + 1) 0 (.slice Ao q.ts.length co)) (blk_type s2)).keptT (by decide) (by decide) (by decide) (by decide) (but_set _ (w.heap.size + 1) 1 (.slice A5 q.os.length c5)) (blk_type (s2.set0 _))
      have b9 := (s7.setCell (p := ⟨w.heap.size + 1, 0, none⟩) (Nat.le_succ _) (.slice Ao q.ts.length co)).setCell (p := ⟨w.heap.size + 1, 1, none⟩) (Nat.le_succ _) (.slice A5 q.os.length c5)
      obtain ⟨p0, p1, -⟩ := ((s2.set0 (.slice Ao q.ts.length co)).set1 (.slice A5 q.os.length c5)).reads
      clear s1 s2 s3 s5 s6 s7 o9
      go_wp2
      exact bodyPost_ret (v := .agg #[.slice Ao q.ts.length co, .slice A5 q.os.length c5]) (by simp [results, Try.results76, go_sem, p0, p1]) rfl ⟨_, col, rfl, o10, b9⟩
end Go.Proofs.Ytjplondblkkpmaa
