/- The coordinator with the slices $SA and $SB is stored as the answer, with the word $BB. -/
/- Laws on coordinators: a coordinator is boxed. -/
/- On to the world behind D. -/
/- An exact law begins: the argument's box, its size, a copy for the model. -/
/- The program's own copy of the argument is boxed. -/
/- The program's copy is as the argument; the region draws. -/
/- Laws on functions that answer numbers. -/
/- What the boxes hold is read again. -/
/- The coordinator with the slices P4 and P5 is boxed as P6, in block P7, behind it the world P3; ahead of region P1. -/
/- The draw, the program's answer, the model's, and that they are the same: behind it w5, all facts on it by way of dx. -/
/-
  Walks: a transaction begins, a transaction times out, by the model.
-/
import Derived.Test.YtjplondblkkpmaaCooB
import Derived.Test.YtjplondblkkpmaaCooV
namespace Go.Proofs.Ytjplondblkkpmaa
open Go.RowKit Wo Pu Rf Co

theorem Co.Begun.bad_ {q x : Crd} {ps : List Part} {b : Bool} (h : Begun q ps x b) (hn : ¬ (CV q ∧ PartsV ps)) : x = none_ ∧ b = false := by
  cases h with
  | bad _ => exact ⟨rfl, rfl⟩
  | full h1 h2 _ => exact absurd ⟨h1, h2⟩ hn
  | yes h1 h2 _ => exact absurd ⟨h1, h2⟩ hn
theorem Co.Begun.full_ {q x : Crd} {ps : List Part} {b : Bool} (h : Begun q ps x b) (h1 : CV q) (h2 : PartsV ps) (h3 : ¬ q.ts.length < 12) : x = q ∧ b = false := by
  cases h with
  | bad hn => exact absurd ⟨h1, h2⟩ hn
  | full _ _ _ => exact ⟨rfl, rfl⟩
  | yes _ _ h4 => exact absurd h4 h3
theorem Co.Begun.yes_ {q x : Crd} {ps : List Part} {b : Bool} (h : Begun q ps x b) (h1 : CV q) (h2 : PartsV ps) (h3 : q.ts.length < 12) : x = newC q ps ∧ b = true := by
  cases h with
  | bad hn => exact absurd ⟨h1, h2⟩ hn
  | full _ _ h4 => exact absurd h3 h4
  | yes _ _ _ => exact ⟨rfl, rfl⟩
/-- A box that holds a coordinator, and one more transaction in it. -/
theorem cr_more {col : Nat → Nat} {w3 w4 : World} {B g : Nat} {a b a' b' : Value} {q : Crd} {t : Tx} (h : OwnCr col w3 B (.agg #[a, b]) q) (hx3 : Blk2s w3 g 26 a b) (D : Below w3.heap.size w3 w4) (hB : B ≤ w3.heap.size) (hx : TxOf (fun _ => 0) 0 w4 w3.heap.size a' b' t) :
    ∃ ys, w4.ownsRow B 33 3 a q.ts.length ys ∧ ∀ v' w1, w1.ownsRow B 33 3 v' (q.ts.length + 1) (ys ++ [a', b', .int .i64 t.d]) →
      (w4.alloc (.cells #[a', b', .int .i64 t.d] 33)).grownBy w1 a.ownBlock → ∃ Ao co col', v' = .slice Ao (q.ts.length + 1) co ∧ Blk2s w1 g 26 a b ∧ (∀ {k u T}, T ≠ 33 → k < w3.heap.size → w3.heap[k]? = some (.cells u T (0, 0)) → w1.heap[k]? = some (.cells u T (0, 0))) ∧ (∀ w0 C, Below C w0 w3 → C ≤ B → Below C w0 w1) ∧
        OwnCr col' (w1.setCell ⟨g, 0, none⟩ (.slice Ao (q.ts.length + 1) co)) B (.agg #[.slice Ao (q.ts.length + 1) co, b]) ⟨q.ts ++ [t], q.os⟩ := by
  obtain ⟨a0, b0, e, h1, h2, h3⟩ := h
  injection e with e
  obtain ⟨rfl, rfl⟩ : a = a0 ∧ b = b0 := by
    have := congrArg Array.toList e
    simpa using this
  obtain ⟨ys, hrow, H⟩ := h1.more D hB hx
  refine ⟨ys, hrow, fun v' w1 hown hg => ?_⟩
  have O := H v' w1 hown hg
  have al := (Below.refl w4.heap.size w4).alloc (Nat.le_refl _) (.cells #[a', b', .int .i64 t.d] 33)
  have hrow' := World.ownsRow.alloc hrow (.cells #[a', b', .int .i64 t.d] 33)
  have D' := D.trans (al.mono D.size)
  have k3 := (hx3.later D').grown hg (blk_ne_row (hx3.later D') hrow' (by decide))
  have k6 : OwnI w1 B b q.os := row_far_type (h2.below D' (Nat.le_refl _)) (by decide) hg fun g e => row_typed hrow' g e
  have k7 : ColV (paint w1 (tint w3 col (q.ts.length + 2))) 0 b := paint_col k6 (.inr (.inr rfl)) (tint_old h2 h3)
  obtain ⟨Ao, co, e, -, -⟩ := O.form
  rw [List.length_append, List.length_singleton] at e
  subst e
  refine ⟨Ao, co, _, rfl, k3, fun {k u T} hT hk hh => ?_, fun w0 C hc hCB => ?_, ⟨_, _, rfl, O.keptT (by decide) (by decide) (by decide) (by decide) (but_set w1 g 0 _) (blk_type k3), row_far_type k6 (by decide) (but_set w1 g 0 _) (blk_type k3), k7⟩⟩
  · have h9 := (D'.block k hk).trans hh
    exact (hg.block k (Nat.lt_of_lt_of_le hk D'.size) (blk_ne_row h9 hrow' hT)).trans h9
  · have b1 := hc.trans (D'.mono (Nat.le_trans hCB hB))
    exact b1.grown hg (by have := D'.size; omega) (fun j hj => Nat.le_trans hCB (World.ownsRow.lt hrow' j hj).1)
set_option linter.unusedSimpArgs false in
set_option linter.unusedVariables false in
set_option maxRecDepth 100000 in
set_option maxHeartbeats 16000000 in
theorem specCoordinatorBegin_is (x : Crd) (b : Bool) (v : Value) (q : Crd) (Ap : Option Addr) (cp : Nat) (ps : List Part) (w : World) (h : Crdd w w.heap.size v q) (hf : FitC q) (hp : Parts w w.heap.size Ap ps) (hpm : ps.length ≤ 1048576) (hpu : ∀ p ∈ ps, p.us.length ≤ 1048576) (hx : Begun q ps x b) :
    Calls Try.prog 56 #[v, .slice Ap ps.length cp] w (NewCrB x b w) := by
  obtain ⟨i0, hi, hz0, hz1, hz2⟩ := info_of info_txn
  obtain ⟨i1, hj, hy0, hy1, hy2⟩ := info_of info_int
  obtain ⟨bv, hbv⟩ := bool_ofP' (CV q)
  obtain ⟨bp, hbp⟩ := bool_ofP' (PartsV ps)
  have HX := hid hx
  have HBV := hid hbv
  have HBP := hid hbp
  have HU := hid hpu
  have CVal : Hid (∀ y, Below w.heap.size w y → Calls Try.prog 19 #[v] y (Ret (.bool bv) y)) := fun y hy => specCoordinatorValid_is bv v q y (h.on hy hy.size) hf hbv
  have CPar : Hid (∀ y, Below w.heap.size w y → Calls Try.prog 70 #[.slice Ap ps.length cp] y (Ret (.bool bp) y)) := fun y hy => l22Parts_is bp Ap cp ps y ((hp.below hy (Nat.le_refl _)).more hy.size) (by omega) (fun p hp => Nat.le_trans (hpu p hp) (by omega)) hbp
  have CCop : Hid (∀ y, Below w.heap.size w y → Calls Try.prog 76 #[v] y (NewCr q y)) := fun y hy => l22Copy_any v q y (h.on hy hy.size) hf
  have CP2 : Hid (∀ y, Below w.heap.size w y → Calls Try.prog 77 #[.slice Ap ps.length cp] y (NewPs ps y)) := fun y hy => l22Parts2_any Ap cp ps y ((hp.below hy (Nat.le_refl _)).more hy.size) hpm hpu
  have hf1 := hf.ts
  clear hx hbv hbp hpu hp
  obtain ⟨A, c, A2, c2, rfl, -, hc, -, hc2⟩ := h
  clear hf
  unfold crV at *
  have b1 := ((Below.refl w.heap.size w).alloc (Nat.le_refl _) (.cells #[.slice A q.ts.length c, .slice A2 q.os.length c2] 26)).alloc (by simp) (.cells #[.slice none 0 0, .slice none 0 0] 26)
  have x0 := (Blk2s.new_ w 26 (.slice A q.ts.length c) (.slice A2 q.os.length c2)).alloc (.cells #[.slice none 0 0, .slice none 0 0] 26)
  have x1 := Blk2s.new_ (w.alloc (.cells #[.slice A q.ts.length c, .slice A2 q.os.length c2] 26)) 26 (.slice none 0 0) (.slice none 0 0)
  rw [World.size_alloc] at x1
  go_enter Try.func56, Try.ntmps56
  go_upto_region 1 with fail
  obtain ⟨w1, hw1⟩ : ∃ w1, (w.alloc (.cells #[.slice A q.ts.length c, .slice A2 q.os.length c2] 26)).alloc (.cells #[.slice none 0 0, .slice none 0 0] 26) = w1 := ⟨_, rfl⟩
  rw [hw1] at b1 x0 x1 ⊢
  clear hw1
  obtain ⟨y0, y1, -⟩ := id x0.reads
  go_wp2_with fail
  refine (CVal.out _ b1).mono ?_
  rintro e w2 ⟨rfl, d⟩
  replace x0 := x0.later d
  replace x1 := x1.later d
  replace b1 := b1.trans (d.mono b1.size)
  clear y0 y1
  obtain ⟨y0, y1, -⟩ := id x0.reads
  cases bv with
  | false =>
    obtain ⟨rfl, rfl⟩ := HX.out.bad_ fun e => by have := HBV.out.2 e.1; cases this
    clear HX CVal CPar CCop CP2
    obtain ⟨t0, t1, tf⟩ := id x1.reads
    have tf0 := tf 0
    have tf1 := tf 1
    clear tf
    obtain ⟨p0, p1, -⟩ := ((x1.set0 (.slice none 0 0)).set1 (.slice none 0 0)).reads
    have b7 := (b1.setCell (p := ⟨w.heap.size + 1, 0, none⟩) (Nat.le_succ _) (.slice none 0 0)).setCell (p := ⟨w.heap.size + 1, 1, none⟩) (Nat.le_succ _) (.slice none 0 0)
    go_wp2
    exact bodyPost_ret (v := .tuple #[.agg #[.slice none 0 0, .slice none 0 0], .bool false]) (by simp [results, Try.results56, go_sem, p0, p1]) rfl ⟨_, _, rfl, OwnCr.none_ _ _, b7⟩
  | true =>
    have HVq := hid (HBV.out.1 rfl)
    go_wp2_with fail
    refine (CPar.out _ b1).mono ?_
    rintro e w2 ⟨rfl, d⟩
    replace x0 := x0.later d
    replace x1 := x1.later d
    replace b1 := b1.trans (d.mono b1.size)
    clear y0 y1
    obtain ⟨y0, y1, -⟩ := id x0.reads
    cases bp with
    | false =>
      obtain ⟨rfl, rfl⟩ := HX.out.bad_ fun e => by have := HBP.out.2 e.2; cases this
      clear HX CVal CPar CCop CP2
      obtain ⟨t0, t1, tf⟩ := id x1.reads
      have tf0 := tf 0
      have tf1 := tf 1
      clear tf
      obtain ⟨p0, p1, -⟩ := ((x1.set0 (.slice none 0 0)).set1 (.slice none 0 0)).reads
      have b7 := (b1.setCell (p := ⟨w.heap.size + 1, 0, none⟩) (Nat.le_succ _) (.slice none 0 0)).setCell (p := ⟨w.heap.size + 1, 1, none⟩) (Nat.le_succ _) (.slice none 0 0)
      go_wp2
      exact bodyPost_ret (v := .tuple #[.agg #[.slice none 0 0, .slice none 0 0], .bool false]) (by simp [results, Try.results56, go_sem, p0, p1]) rfl ⟨_, _, rfl, OwnCr.none_ _ _, b7⟩
    | true =>
      have HVp := hid (HBP.out.1 rfl)
      have zc := b1.size
      go_wp2_with fail
      refine (CCop.out _ b1).mono ?_
      rintro e w2 ⟨v2, col, rfl, o2, d⟩
      replace x0 := x0.later d
      replace x1 := x1.later d
      replace b1 := b1.trans (d.mono b1.size)
      clear y0 y1
      obtain ⟨y0, y1, -⟩ := id x0.reads
      obtain ⟨Ao, co, Ab, cb, rfl, -, -, -, -, -, -, -⟩ := o2.form
      unfold crV at o2 ⊢
      have HB2 : Hid (w.heap.size + 1 < w2.heap.size) := x1.lt
      replace o2 := o2.base (B' := w.heap.size) zc
      have d := (Below.refl w2.heap.size w2).alloc (Nat.le_refl _) (.cells #[.slice Ao q.ts.length co, .slice Ab q.os.length cb] 26)
      have x6 := Blk2s.new_ w2 26 (.slice Ao q.ts.length co) (.slice Ab q.os.length cb)
      replace o2 := o2.below d
      replace x0 := x0.later d
      replace x1 := x1.later d
      replace b1 := b1.trans (d.mono b1.size)
      clear y0 y1
      obtain ⟨y0, y1, -⟩ := id x0.reads
      go_upto_region 4 with fail
      obtain ⟨w3, hw3⟩ : ∃ x, w2.alloc (.cells #[.slice Ao q.ts.length co, .slice Ab q.os.length cb] 26) = x := ⟨_, rfl⟩
      obtain ⟨g, hg⟩ : ∃ x, w2.heap.size = x := ⟨_, rfl⟩
      rw [hw3] at x0 x1 b1 y0 y1 x6 o2 ⊢
      rw [hg] at x6 HB2 ⊢
      clear hw3 hg d
      by_cases h12 : q.ts.length < 12
      · obtain ⟨rfl, rfl⟩ := HX.out.yes_ HVq.out HVp.out h12
        have e1 : decide ((12 : Int) ≤ (q.ts.length : Int)) = false := decide_eq_false (by omega)
        have e2 : decide (12 ≤ q.ts.length) = false := decide_eq_false (by omega)
        have hz3 : w.heap.size ≤ w3.heap.size := b1.size
        have HC : Hid (∀ y, Below w3.heap.size w3 y → Calls Try.prog 77 #[.slice Ap ps.length cp] y (NewPs ps y)) := fun y hy => CP2.out y (b1.trans (hy.mono hz3))
        have HX6 : Hid (∀ y, Below w3.heap.size w3 y → Blk2s y g 26 (.slice Ao q.ts.length co) (.slice Ab q.os.length cb)) := fun y hy => x6.later hy
        have HO6 := hid o2
        have HG1 : Hid (w.heap.size ≤ g) := by have := HB2.out; show _ ≤ _; omega
        have HG2 : Hid (w.heap.size + 1 ≠ g) := by have := HB2.out; show _ ≠ _; omega
        clear HX CVal CPar CCop CP2 x6 o2 HVq HVp HBV HBP HB2
        go_upto_region 6 with fail
        have D : Below w3.heap.size w3 w3.drew := (Below.refl _ _).drew
        refine wp_region_held_drew (S := fun _ => True) (by kernel_rfl) trivial (fun hHeld => ?_)
        obtain ⟨W, hW⟩ : ∃ x, w3.drew = x := ⟨_, rfl⟩
        rw [hW] at D ⊢
        clear hW y0 y1 e1 e2
        try simp only [Act.put, List.getElem_toArray, List.getElem_cons_succ, List.getElem_cons_zero, List.setIfInBounds_toArray, List.set_cons_zero, List.set_cons_succ]
        refine wpAnyH_take (i := 0) (oi := _) (v := ?_) rfl (by kernel_rfl) (by kernel_rfl) (by kernel_rfl) (fun _ _ _ h => h) (Or.inl ⟨by rfl, ?_⟩) hHeld ?_
        rotate_left
        · (intro w' hSw; (try dsimp only at hSw); go_simp <;> with_reducible rfl)
        try simp only [Act.put, List.getElem_toArray, List.getElem_cons_succ, List.getElem_cons_zero, List.setIfInBounds_toArray, List.set_cons_zero, List.set_cons_succ]
        refine wpAnyH_take (i := 2) (oi := _) (v := ?_) rfl (by kernel_rfl) (by kernel_rfl) (by kernel_rfl) (fun _ _ _ h => h) (Or.inl ⟨by rfl, ?_⟩) hHeld ?_
        rotate_left
        · (intro w' hSw; (try dsimp only at hSw); go_simp <;> with_reducible rfl)
        try simp only [Act.put, List.getElem_toArray, List.getElem_cons_succ, List.getElem_cons_zero, List.setIfInBounds_toArray, List.set_cons_zero, List.set_cons_succ]
        refine wpAnyH_take (i := 4) (oi := _) (v := ?_) rfl (by kernel_rfl) (by kernel_rfl) (by kernel_rfl) (fun _ _ _ h => h) (Or.inl ⟨by rfl, ?_⟩) hHeld ?_
        rotate_left
        · (intro w' hSw; (try dsimp only at hSw); go_simp <;> with_reducible rfl)
        try simp only [Act.put, List.getElem_toArray, List.getElem_cons_succ, List.getElem_cons_zero, List.setIfInBounds_toArray, List.set_cons_zero, List.set_cons_succ]
        refine wpAnyH_take (i := 5) (oi := _) (v := ?_) rfl (by kernel_rfl) (by kernel_rfl) (by kernel_rfl) (fun _ _ _ h => h) (Or.inl ⟨by rfl, ?_⟩) hHeld ?_
        rotate_left
        · (intro w' hSw; (try dsimp only at hSw); go_simp <;> with_reducible rfl)
        try simp only [Act.put, List.getElem_toArray, List.getElem_cons_succ, List.getElem_cons_zero, List.setIfInBounds_toArray, List.set_cons_zero, List.set_cons_succ]
        refine wpAnyH_ready (rs := [1, 3, 6]) (by kernel_rfl) (by simp) (AllReadyH.cons (o := _) rfl (fun K hK => ?_) (AllReadyH.cons (o := _) rfl (fun K hK => ?_) (AllReadyH.cons (o := _) rfl (fun K hK => ?_) AllReadyH.nil)))
        · skip
          try simp only [Act.put, List.getElem_toArray, List.getElem_cons_succ, List.getElem_cons_zero, List.setIfInBounds_toArray, List.set_cons_zero, List.set_cons_succ]
          have yL := (HX6.out _ D).reads.1
          go_simp
          refine hK.out _ _ trivial (fun hHeld => ?_)
          clear hK K
          try simp only [Act.put, List.getElem_toArray, List.getElem_cons_succ, List.getElem_cons_zero, List.setIfInBounds_toArray, List.set_cons_zero, List.set_cons_succ]
          clear yL
          refine wpAnyH_ready (rs := [3, 6]) (by kernel_rfl) (by simp) (AllReadyH.cons (o := _) rfl (fun K hK => ?_) (AllReadyH.cons (o := _) rfl (fun K hK => ?_) AllReadyH.nil))
          · skip
            try simp only [Act.put, List.getElem_toArray, List.getElem_cons_succ, List.getElem_cons_zero, List.setIfInBounds_toArray, List.set_cons_zero, List.set_cons_succ]
            go_simp
            go_at_call 77
            refine (HC.out _ D).mono ?_
            rintro e W ⟨vp, rfl, op', d5⟩
            have op := op'.base D.size
            obtain ⟨Ap9, cp9, rfl, -, -⟩ := op.form
            try replace nv := OwnI.below nv d5 (Nat.le_refl _)
            replace D := D.trans (d5.mono D.size)
            clear op' d5
            refine hK.out _ _ trivial (fun hHeld => ?_)
            clear hK K
            try simp only [Act.put, List.getElem_toArray, List.getElem_cons_succ, List.getElem_cons_zero, List.setIfInBounds_toArray, List.set_cons_zero, List.set_cons_succ]
            refine wpAnyH_ready (rs := [6]) (by kernel_rfl) (by simp) (AllReadyH.cons (o := _) rfl (fun K hK => ?_) AllReadyH.nil)
            try simp only [Act.put, List.getElem_toArray, List.getElem_cons_succ, List.getElem_cons_zero, List.setIfInBounds_toArray, List.set_cons_zero, List.set_cons_succ]
            rw [if_pos (by rfl)]
            obtain ⟨gM, hgM⟩ : ∃ x, W.heap.size = x := ⟨_, rfl⟩
            refine op_make_full _ _ _ 24 rfl w3.heap.size 3 i1 (.int .i64 0) 1 Try.underlying24 hj hy0 hy1 .i64 .i64 ps.length (by rfl) (by rfl) (by rw [hy2]; omega) (by unfold maxLen; omega) D.size ?_
            intro W hown hg
            rw [made_ints, hgM] at hown
            rw [hgM]
            clear hgM
            replace D := D.grown hg D.size (fun j hj => by cases hj)
            try replace op := op.keptI hg (fun g e => by cases e)
            have nv : OwnI W w3.heap.size (.slice (some ⟨gM, 0, none⟩) ps.length ps.length) (List.replicate ps.length 0) := by unfold OwnI; rw [List.length_replicate]; exact hown
            clear hown hg
            refine hK.out _ _ trivial (fun hHeld => ?_)
            clear hK K
            try simp only [Act.put, List.getElem_toArray, List.getElem_cons_succ, List.getElem_cons_zero, List.setIfInBounds_toArray, List.set_cons_zero, List.set_cons_succ]
            refine wpAnyH_take (i := 7) (oi := _) (v := ?_) rfl (by kernel_rfl) (by kernel_rfl) (by kernel_rfl) (fun _ _ _ h => h) (Or.inl ⟨by rfl, ?_⟩) hHeld ?_
            rotate_left
            · (intro w' hSw; (try dsimp only at hSw); go_simp <;> with_reducible rfl)
            try simp only [Act.put, List.getElem_toArray, List.getElem_cons_succ, List.getElem_cons_zero, List.setIfInBounds_toArray, List.set_cons_zero, List.set_cons_succ]
            refine wpAnyH_ready (rs := [8]) (by kernel_rfl) (by simp) (AllReadyH.cons (o := _) rfl (fun K hK => ?_) AllReadyH.nil)
            try simp only [Act.put, List.getElem_toArray, List.getElem_cons_succ, List.getElem_cons_zero, List.setIfInBounds_toArray, List.set_cons_zero, List.set_cons_succ]
            obtain ⟨ys, hrow, HP⟩ := cr_more (t := fresh ps) HO6.out (HX6.out _ (Below.refl _ _)) D hz3 ⟨op, nv, fun _ _ => rfl⟩
            have HPP := hid HP
            have rA := row_three_ W (.slice Ap9 ps.length cp9) (.slice (some ⟨gM, 0, none⟩) ps.length ps.length) (.int .i64 0) 33
            have hrow' := World.ownsRow.alloc hrow (.cells #[.slice Ap9 ps.length cp9, .slice (some ⟨gM, 0, none⟩) ps.length ps.length, .int .i64 0] 33)
            replace D := D.trans (((Below.refl W.heap.size W).alloc (Nat.le_refl _) (.cells #[.slice Ap9 ps.length cp9, .slice (some ⟨gM, 0, none⟩) ps.length ps.length, .int .i64 0] 33)).mono D.size)
            clear HP hrow op nv
            go_simp
            refine hK.out _ _ trivial (fun hHeld => ?_)
            clear hK K
            try simp only [Act.put, List.getElem_toArray, List.getElem_cons_succ, List.getElem_cons_zero, List.setIfInBounds_toArray, List.set_cons_zero, List.set_cons_succ]
            refine wpAnyH_ready (rs := [9]) (by kernel_rfl) (by simp) (AllReadyH.cons (o := _) rfl (fun K hK => ?_) AllReadyH.nil)
            try simp only [Act.put, List.getElem_toArray, List.getElem_cons_succ, List.getElem_cons_zero, List.setIfInBounds_toArray, List.set_cons_zero, List.set_cons_succ]
            rw [if_pos (by rfl)]
            refine op_append_row2 _ (by rfl) _ _ 23 (by rfl) w.heap.size 33 i0 (.agg #[.slice none 0 0, .slice none 0 0, .int .i64 0]) 3 56 Try.underlying23 hi hz0 hz1 hz2 rfl (by decide) (.slice Ao q.ts.length co) q.ts.length ys (by rfl) hrow' _ (some ⟨W.heap.size, 0, none⟩) 1 1 [.slice Ap9 ps.length cp9, .slice (some ⟨gM, 0, none⟩) ps.length ps.length, .int .i64 0] (by rfl) rA rfl (tx_cells _ _ _ _ _ _ _) (by unfold maxLen; omega) (by omega) (Nat.le_trans hz3 D.size) ?_
            intro v7 W7 hown hg
            obtain ⟨Ao7, co7, col7, rfl, k3, HK, HB7, O8⟩ := HPP.out v7 W7 hown hg
            have k1 := k3.reads.1
            have kf := k3.reads.2.2 0
            have b7 := HB7 w w.heap.size b1 (Nat.le_refl _)
            replace x1 : Blk2s W7 (w.heap.size + 1) 26 (.slice none 0 0) (.slice none 0 0) := HK (by decide) x1.lt x1
            clear hown hg rA hrow' HPP HK HB7 b1
            refine hK.out _ _ trivial (fun hHeld => ?_)
            clear hK K
            try simp only [Act.put, List.getElem_toArray, List.getElem_cons_succ, List.getElem_cons_zero, List.setIfInBounds_toArray, List.set_cons_zero, List.set_cons_succ]
            refine wpAnyH_take (i := 10) (oi := _) (v := ?_) rfl (by kernel_rfl) (by kernel_rfl) (by kernel_rfl) (fun _ _ _ h => h) (Or.inl ⟨by rfl, ?_⟩) hHeld ?_
            rotate_left
            · (intro w' hSw; (try dsimp only at hSw); go_simp <;> with_reducible rfl)
            try simp only [Act.put, List.getElem_toArray, List.getElem_cons_succ, List.getElem_cons_zero, List.setIfInBounds_toArray, List.set_cons_zero, List.set_cons_succ]
            refine wpAnyH_ready (rs := [11]) (by kernel_rfl) (by simp) (AllReadyH.cons (o := _) rfl (fun K hK => ?_) AllReadyH.nil)
            try simp only [Act.put, List.getElem_toArray, List.getElem_cons_succ, List.getElem_cons_zero, List.setIfInBounds_toArray, List.set_cons_zero, List.set_cons_succ]
            go_simp
            refine hK.out _ _ trivial (fun hHeld => ?_)
            clear hK K
            try simp only [Act.put, List.getElem_toArray, List.getElem_cons_succ, List.getElem_cons_zero, List.setIfInBounds_toArray, List.set_cons_zero, List.set_cons_succ]
            refine wpAnyH_done (by kernel_rfl) ?_ _
            have b1 := b7.setCell (p := ⟨g, 0, none⟩) HG1.out (.slice Ao7 (q.ts.length + 1) co7)
            replace x1 := x1.far (p := ⟨g, 0, none⟩) HG2.out (.slice Ao7 (q.ts.length + 1) co7)
            have k9 := k3.set0 (.slice Ao7 (q.ts.length + 1) co7)
            obtain ⟨W9, hW9⟩ : ∃ x, W7.setCell ⟨g, 0, none⟩ (.slice Ao7 (q.ts.length + 1) co7) = x := ⟨_, rfl⟩
            rw [hW9] at b1 x1 k9 O8 ⊢
            have o9 := O8
            obtain ⟨u0, u1, -⟩ := id k9.reads
            clear hHeld k1 kf k3 b7 D hW9 O8 x0
            have x0 := trivial
            obtain ⟨t0, t1, tf⟩ := id x1.reads
            have tf0 := tf 0
            have tf1 := tf 1
            clear tf
            have o10 := (o9.keptT (by decide) (by decide) (by decide) (by decide) (but_set _ (w.heap.size + 1) 0 (.slice Ao7 (q.ts.length + 1) co7)) (blk_type x1)).keptT (by decide) (by decide) (by decide) (by decide) (but_set _ (w.heap.size + 1) 1 (.slice Ab q.os.length cb)) (blk_type (x1.set0 _))
            have b9 := (b1.setCell (p := ⟨w.heap.size + 1, 0, none⟩) (Nat.le_succ _) (.slice Ao7 (q.ts.length + 1) co7)).setCell (p := ⟨w.heap.size + 1, 1, none⟩) (Nat.le_succ _) (.slice Ab q.os.length cb)
            obtain ⟨p0, p1, -⟩ := ((x1.set0 (.slice Ao7 (q.ts.length + 1) co7)).set1 (.slice Ab q.os.length cb)).reads
            clear x0 x1 o9 b1
            go_wp2
            exact bodyPost_ret (v := .tuple #[.agg #[.slice Ao7 (q.ts.length + 1) co7, .slice Ab q.os.length cb], .bool true]) (by simp [results, Try.results56, go_sem, p0, p1]) rfl ⟨_, _, rfl, o10, b9⟩
          · skip
            try simp only [Act.put, List.getElem_toArray, List.getElem_cons_succ, List.getElem_cons_zero, List.setIfInBounds_toArray, List.set_cons_zero, List.set_cons_succ]
            rw [if_pos (by rfl)]
            obtain ⟨gM, hgM⟩ : ∃ x, W.heap.size = x := ⟨_, rfl⟩
            refine op_make_full _ _ _ 24 rfl w3.heap.size 3 i1 (.int .i64 0) 1 Try.underlying24 hj hy0 hy1 .i64 .i64 ps.length (by rfl) (by rfl) (by rw [hy2]; omega) (by unfold maxLen; omega) D.size ?_
            intro W hown hg
            rw [made_ints, hgM] at hown
            rw [hgM]
            clear hgM
            replace D := D.grown hg D.size (fun j hj => by cases hj)
            try replace op := op.keptI hg (fun g e => by cases e)
            have nv : OwnI W w3.heap.size (.slice (some ⟨gM, 0, none⟩) ps.length ps.length) (List.replicate ps.length 0) := by unfold OwnI; rw [List.length_replicate]; exact hown
            clear hown hg
            refine hK.out _ _ trivial (fun hHeld => ?_)
            clear hK K
            try simp only [Act.put, List.getElem_toArray, List.getElem_cons_succ, List.getElem_cons_zero, List.setIfInBounds_toArray, List.set_cons_zero, List.set_cons_succ]
            refine wpAnyH_ready (rs := [3]) (by kernel_rfl) (by simp) (AllReadyH.cons (o := _) rfl (fun K hK => ?_) AllReadyH.nil)
            try simp only [Act.put, List.getElem_toArray, List.getElem_cons_succ, List.getElem_cons_zero, List.setIfInBounds_toArray, List.set_cons_zero, List.set_cons_succ]
            go_simp
            go_at_call 77
            refine (HC.out _ D).mono ?_
            rintro e W ⟨vp, rfl, op', d5⟩
            have op := op'.base D.size
            obtain ⟨Ap9, cp9, rfl, -, -⟩ := op.form
            try replace nv := OwnI.below nv d5 (Nat.le_refl _)
            replace D := D.trans (d5.mono D.size)
            clear op' d5
            refine hK.out _ _ trivial (fun hHeld => ?_)
            clear hK K
            try simp only [Act.put, List.getElem_toArray, List.getElem_cons_succ, List.getElem_cons_zero, List.setIfInBounds_toArray, List.set_cons_zero, List.set_cons_succ]
            refine wpAnyH_take (i := 7) (oi := _) (v := ?_) rfl (by kernel_rfl) (by kernel_rfl) (by kernel_rfl) (fun _ _ _ h => h) (Or.inl ⟨by rfl, ?_⟩) hHeld ?_
            rotate_left
            · (intro w' hSw; (try dsimp only at hSw); go_simp <;> with_reducible rfl)
            try simp only [Act.put, List.getElem_toArray, List.getElem_cons_succ, List.getElem_cons_zero, List.setIfInBounds_toArray, List.set_cons_zero, List.set_cons_succ]
            refine wpAnyH_ready (rs := [8]) (by kernel_rfl) (by simp) (AllReadyH.cons (o := _) rfl (fun K hK => ?_) AllReadyH.nil)
            try simp only [Act.put, List.getElem_toArray, List.getElem_cons_succ, List.getElem_cons_zero, List.setIfInBounds_toArray, List.set_cons_zero, List.set_cons_succ]
            obtain ⟨ys, hrow, HP⟩ := cr_more (t := fresh ps) HO6.out (HX6.out _ (Below.refl _ _)) D hz3 ⟨op, nv, fun _ _ => rfl⟩
            have HPP := hid HP
            have rA := row_three_ W (.slice Ap9 ps.length cp9) (.slice (some ⟨gM, 0, none⟩) ps.length ps.length) (.int .i64 0) 33
            have hrow' := World.ownsRow.alloc hrow (.cells #[.slice Ap9 ps.length cp9, .slice (some ⟨gM, 0, none⟩) ps.length ps.length, .int .i64 0] 33)
            replace D := D.trans (((Below.refl W.heap.size W).alloc (Nat.le_refl _) (.cells #[.slice Ap9 ps.length cp9, .slice (some ⟨gM, 0, none⟩) ps.length ps.length, .int .i64 0] 33)).mono D.size)
            clear HP hrow op nv
            go_simp
            refine hK.out _ _ trivial (fun hHeld => ?_)
            clear hK K
            try simp only [Act.put, List.getElem_toArray, List.getElem_cons_succ, List.getElem_cons_zero, List.setIfInBounds_toArray, List.set_cons_zero, List.set_cons_succ]
            refine wpAnyH_ready (rs := [9]) (by kernel_rfl) (by simp) (AllReadyH.cons (o := _) rfl (fun K hK => ?_) AllReadyH.nil)
            try simp only [Act.put, List.getElem_toArray, List.getElem_cons_succ, List.getElem_cons_zero, List.setIfInBounds_toArray, List.set_cons_zero, List.set_cons_succ]
            rw [if_pos (by rfl)]
            refine op_append_row2 _ (by rfl) _ _ 23 (by rfl) w.heap.size 33 i0 (.agg #[.slice none 0 0, .slice none 0 0, .int .i64 0]) 3 56 Try.underlying23 hi hz0 hz1 hz2 rfl (by decide) (.slice Ao q.ts.length co) q.ts.length ys (by rfl) hrow' _ (some ⟨W.heap.size, 0, none⟩) 1 1 [.slice Ap9 ps.length cp9, .slice (some ⟨gM, 0, none⟩) ps.length ps.length, .int .i64 0] (by rfl) rA rfl (tx_cells _ _ _ _ _ _ _) (by unfold maxLen; omega) (by omega) (Nat.le_trans hz3 D.size) ?_
            intro v7 W7 hown hg
            obtain ⟨Ao7, co7, col7, rfl, k3, HK, HB7, O8⟩ := HPP.out v7 W7 hown hg
            have k1 := k3.reads.1
            have kf := k3.reads.2.2 0
            have b7 := HB7 w w.heap.size b1 (Nat.le_refl _)
            replace x1 : Blk2s W7 (w.heap.size + 1) 26 (.slice none 0 0) (.slice none 0 0) := HK (by decide) x1.lt x1
            clear hown hg rA hrow' HPP HK HB7 b1
            refine hK.out _ _ trivial (fun hHeld => ?_)
            clear hK K
            try simp only [Act.put, List.getElem_toArray, List.getElem_cons_succ, List.getElem_cons_zero, List.setIfInBounds_toArray, List.set_cons_zero, List.set_cons_succ]
            refine wpAnyH_take (i := 10) (oi := _) (v := ?_) rfl (by kernel_rfl) (by kernel_rfl) (by kernel_rfl) (fun _ _ _ h => h) (Or.inl ⟨by rfl, ?_⟩) hHeld ?_
            rotate_left
            · (intro w' hSw; (try dsimp only at hSw); go_simp <;> with_reducible rfl)
            try simp only [Act.put, List.getElem_toArray, List.getElem_cons_succ, List.getElem_cons_zero, List.setIfInBounds_toArray, List.set_cons_zero, List.set_cons_succ]
            refine wpAnyH_ready (rs := [11]) (by kernel_rfl) (by simp) (AllReadyH.cons (o := _) rfl (fun K hK => ?_) AllReadyH.nil)
            try simp only [Act.put, List.getElem_toArray, List.getElem_cons_succ, List.getElem_cons_zero, List.setIfInBounds_toArray, List.set_cons_zero, List.set_cons_succ]
            go_simp
            refine hK.out _ _ trivial (fun hHeld => ?_)
            clear hK K
            try simp only [Act.put, List.getElem_toArray, List.getElem_cons_succ, List.getElem_cons_zero, List.setIfInBounds_toArray, List.set_cons_zero, List.set_cons_succ]
            refine wpAnyH_done (by kernel_rfl) ?_ _
            have b1 := b7.setCell (p := ⟨g, 0, none⟩) HG1.out (.slice Ao7 (q.ts.length + 1) co7)
            replace x1 := x1.far (p := ⟨g, 0, none⟩) HG2.out (.slice Ao7 (q.ts.length + 1) co7)
            have k9 := k3.set0 (.slice Ao7 (q.ts.length + 1) co7)
            obtain ⟨W9, hW9⟩ : ∃ x, W7.setCell ⟨g, 0, none⟩ (.slice Ao7 (q.ts.length + 1) co7) = x := ⟨_, rfl⟩
            rw [hW9] at b1 x1 k9 O8 ⊢
            have o9 := O8
            obtain ⟨u0, u1, -⟩ := id k9.reads
            clear hHeld k1 kf k3 b7 D hW9 O8 x0
            have x0 := trivial
            obtain ⟨t0, t1, tf⟩ := id x1.reads
            have tf0 := tf 0
            have tf1 := tf 1
            clear tf
            have o10 := (o9.keptT (by decide) (by decide) (by decide) (by decide) (but_set _ (w.heap.size + 1) 0 (.slice Ao7 (q.ts.length + 1) co7)) (blk_type x1)).keptT (by decide) (by decide) (by decide) (by decide) (but_set _ (w.heap.size + 1) 1 (.slice Ab q.os.length cb)) (blk_type (x1.set0 _))
            have b9 := (b1.setCell (p := ⟨w.heap.size + 1, 0, none⟩) (Nat.le_succ _) (.slice Ao7 (q.ts.length + 1) co7)).setCell (p := ⟨w.heap.size + 1, 1, none⟩) (Nat.le_succ _) (.slice Ab q.os.length cb)
            obtain ⟨p0, p1, -⟩ := ((x1.set0 (.slice Ao7 (q.ts.length + 1) co7)).set1 (.slice Ab q.os.length cb)).reads
            clear x0 x1 o9 b1
            go_wp2
            exact bodyPost_ret (v := .tuple #[.agg #[.slice Ao7 (q.ts.length + 1) co7, .slice Ab q.os.length cb], .bool true]) (by simp [results, Try.results56, go_sem, p0, p1]) rfl ⟨_, _, rfl, o10, b9⟩
        · skip
          try simp only [Act.put, List.getElem_toArray, List.getElem_cons_succ, List.getElem_cons_zero, List.setIfInBounds_toArray, List.set_cons_zero, List.set_cons_succ]
          go_simp
          go_at_call 77
          refine (HC.out _ D).mono ?_
          rintro e W ⟨vp, rfl, op', d5⟩
          have op := op'.base D.size
          obtain ⟨Ap9, cp9, rfl, -, -⟩ := op.form
          try replace nv := OwnI.below nv d5 (Nat.le_refl _)
          replace D := D.trans (d5.mono D.size)
          clear op' d5
          refine hK.out _ _ trivial (fun hHeld => ?_)
          clear hK K
          try simp only [Act.put, List.getElem_toArray, List.getElem_cons_succ, List.getElem_cons_zero, List.setIfInBounds_toArray, List.set_cons_zero, List.set_cons_succ]
          refine wpAnyH_ready (rs := [1, 6]) (by kernel_rfl) (by simp) (AllReadyH.cons (o := _) rfl (fun K hK => ?_) (AllReadyH.cons (o := _) rfl (fun K hK => ?_) AllReadyH.nil))
          · skip
            try simp only [Act.put, List.getElem_toArray, List.getElem_cons_succ, List.getElem_cons_zero, List.setIfInBounds_toArray, List.set_cons_zero, List.set_cons_succ]
            have yL := (HX6.out _ D).reads.1
            go_simp
            refine hK.out _ _ trivial (fun hHeld => ?_)
            clear hK K
            try simp only [Act.put, List.getElem_toArray, List.getElem_cons_succ, List.getElem_cons_zero, List.setIfInBounds_toArray, List.set_cons_zero, List.set_cons_succ]
            clear yL
            refine wpAnyH_ready (rs := [6]) (by kernel_rfl) (by simp) (AllReadyH.cons (o := _) rfl (fun K hK => ?_) AllReadyH.nil)
            try simp only [Act.put, List.getElem_toArray, List.getElem_cons_succ, List.getElem_cons_zero, List.setIfInBounds_toArray, List.set_cons_zero, List.set_cons_succ]
            rw [if_pos (by rfl)]
            obtain ⟨gM, hgM⟩ : ∃ x, W.heap.size = x := ⟨_, rfl⟩
            refine op_make_full _ _ _ 24 rfl w3.heap.size 3 i1 (.int .i64 0) 1 Try.underlying24 hj hy0 hy1 .i64 .i64 ps.length (by rfl) (by rfl) (by rw [hy2]; omega) (by unfold maxLen; omega) D.size ?_
            intro W hown hg
            rw [made_ints, hgM] at hown
            rw [hgM]
            clear hgM
            replace D := D.grown hg D.size (fun j hj => by cases hj)
            try replace op := op.keptI hg (fun g e => by cases e)
            have nv : OwnI W w3.heap.size (.slice (some ⟨gM, 0, none⟩) ps.length ps.length) (List.replicate ps.length 0) := by unfold OwnI; rw [List.length_replicate]; exact hown
            clear hown hg
            refine hK.out _ _ trivial (fun hHeld => ?_)
            clear hK K
            try simp only [Act.put, List.getElem_toArray, List.getElem_cons_succ, List.getElem_cons_zero, List.setIfInBounds_toArray, List.set_cons_zero, List.set_cons_succ]
            refine wpAnyH_take (i := 7) (oi := _) (v := ?_) rfl (by kernel_rfl) (by kernel_rfl) (by kernel_rfl) (fun _ _ _ h => h) (Or.inl ⟨by rfl, ?_⟩) hHeld ?_
            rotate_left
            · (intro w' hSw; (try dsimp only at hSw); go_simp <;> with_reducible rfl)
            try simp only [Act.put, List.getElem_toArray, List.getElem_cons_succ, List.getElem_cons_zero, List.setIfInBounds_toArray, List.set_cons_zero, List.set_cons_succ]
            refine wpAnyH_ready (rs := [8]) (by kernel_rfl) (by simp) (AllReadyH.cons (o := _) rfl (fun K hK => ?_) AllReadyH.nil)
            try simp only [Act.put, List.getElem_toArray, List.getElem_cons_succ, List.getElem_cons_zero, List.setIfInBounds_toArray, List.set_cons_zero, List.set_cons_succ]
            obtain ⟨ys, hrow, HP⟩ := cr_more (t := fresh ps) HO6.out (HX6.out _ (Below.refl _ _)) D hz3 ⟨op, nv, fun _ _ => rfl⟩
            have HPP := hid HP
            have rA := row_three_ W (.slice Ap9 ps.length cp9) (.slice (some ⟨gM, 0, none⟩) ps.length ps.length) (.int .i64 0) 33
            have hrow' := World.ownsRow.alloc hrow (.cells #[.slice Ap9 ps.length cp9, .slice (some ⟨gM, 0, none⟩) ps.length ps.length, .int .i64 0] 33)
            replace D := D.trans (((Below.refl W.heap.size W).alloc (Nat.le_refl _) (.cells #[.slice Ap9 ps.length cp9, .slice (some ⟨gM, 0, none⟩) ps.length ps.length, .int .i64 0] 33)).mono D.size)
            clear HP hrow op nv
            go_simp
            refine hK.out _ _ trivial (fun hHeld => ?_)
            clear hK K
            try simp only [Act.put, List.getElem_toArray, List.getElem_cons_succ, List.getElem_cons_zero, List.setIfInBounds_toArray, List.set_cons_zero, List.set_cons_succ]
            refine wpAnyH_ready (rs := [9]) (by kernel_rfl) (by simp) (AllReadyH.cons (o := _) rfl (fun K hK => ?_) AllReadyH.nil)
            try simp only [Act.put, List.getElem_toArray, List.getElem_cons_succ, List.getElem_cons_zero, List.setIfInBounds_toArray, List.set_cons_zero, List.set_cons_succ]
            rw [if_pos (by rfl)]
            refine op_append_row2 _ (by rfl) _ _ 23 (by rfl) w.heap.size 33 i0 (.agg #[.slice none 0 0, .slice none 0 0, .int .i64 0]) 3 56 Try.underlying23 hi hz0 hz1 hz2 rfl (by decide) (.slice Ao q.ts.length co) q.ts.length ys (by rfl) hrow' _ (some ⟨W.heap.size, 0, none⟩) 1 1 [.slice Ap9 ps.length cp9, .slice (some ⟨gM, 0, none⟩) ps.length ps.length, .int .i64 0] (by rfl) rA rfl (tx_cells _ _ _ _ _ _ _) (by unfold maxLen; omega) (by omega) (Nat.le_trans hz3 D.size) ?_
            intro v7 W7 hown hg
            obtain ⟨Ao7, co7, col7, rfl, k3, HK, HB7, O8⟩ := HPP.out v7 W7 hown hg
            have k1 := k3.reads.1
            have kf := k3.reads.2.2 0
            have b7 := HB7 w w.heap.size b1 (Nat.le_refl _)
            replace x1 : Blk2s W7 (w.heap.size + 1) 26 (.slice none 0 0) (.slice none 0 0) := HK (by decide) x1.lt x1
            clear hown hg rA hrow' HPP HK HB7 b1
            refine hK.out _ _ trivial (fun hHeld => ?_)
            clear hK K
            try simp only [Act.put, List.getElem_toArray, List.getElem_cons_succ, List.getElem_cons_zero, List.setIfInBounds_toArray, List.set_cons_zero, List.set_cons_succ]
            refine wpAnyH_take (i := 10) (oi := _) (v := ?_) rfl (by kernel_rfl) (by kernel_rfl) (by kernel_rfl) (fun _ _ _ h => h) (Or.inl ⟨by rfl, ?_⟩) hHeld ?_
            rotate_left
            · (intro w' hSw; (try dsimp only at hSw); go_simp <;> with_reducible rfl)
            try simp only [Act.put, List.getElem_toArray, List.getElem_cons_succ, List.getElem_cons_zero, List.setIfInBounds_toArray, List.set_cons_zero, List.set_cons_succ]
            refine wpAnyH_ready (rs := [11]) (by kernel_rfl) (by simp) (AllReadyH.cons (o := _) rfl (fun K hK => ?_) AllReadyH.nil)
            try simp only [Act.put, List.getElem_toArray, List.getElem_cons_succ, List.getElem_cons_zero, List.setIfInBounds_toArray, List.set_cons_zero, List.set_cons_succ]
            go_simp
            refine hK.out _ _ trivial (fun hHeld => ?_)
            clear hK K
            try simp only [Act.put, List.getElem_toArray, List.getElem_cons_succ, List.getElem_cons_zero, List.setIfInBounds_toArray, List.set_cons_zero, List.set_cons_succ]
            refine wpAnyH_done (by kernel_rfl) ?_ _
            have b1 := b7.setCell (p := ⟨g, 0, none⟩) HG1.out (.slice Ao7 (q.ts.length + 1) co7)
            replace x1 := x1.far (p := ⟨g, 0, none⟩) HG2.out (.slice Ao7 (q.ts.length + 1) co7)
            have k9 := k3.set0 (.slice Ao7 (q.ts.length + 1) co7)
            obtain ⟨W9, hW9⟩ : ∃ x, W7.setCell ⟨g, 0, none⟩ (.slice Ao7 (q.ts.length + 1) co7) = x := ⟨_, rfl⟩
            rw [hW9] at b1 x1 k9 O8 ⊢
            have o9 := O8
            obtain ⟨u0, u1, -⟩ := id k9.reads
            clear hHeld k1 kf k3 b7 D hW9 O8 x0
            have x0 := trivial
            obtain ⟨t0, t1, tf⟩ := id x1.reads
            have tf0 := tf 0
            have tf1 := tf 1
            clear tf
            have o10 := (o9.keptT (by decide) (by decide) (by decide) (by decide) (but_set _ (w.heap.size + 1) 0 (.slice Ao7 (q.ts.length + 1) co7)) (blk_type x1)).keptT (by decide) (by decide) (by decide) (by decide) (but_set _ (w.heap.size + 1) 1 (.slice Ab q.os.length cb)) (blk_type (x1.set0 _))
            have b9 := (b1.setCell (p := ⟨w.heap.size + 1, 0, none⟩) (Nat.le_succ _) (.slice Ao7 (q.ts.length + 1) co7)).setCell (p := ⟨w.heap.size + 1, 1, none⟩) (Nat.le_succ _) (.slice Ab q.os.length cb)
            obtain ⟨p0, p1, -⟩ := ((x1.set0 (.slice Ao7 (q.ts.length + 1) co7)).set1 (.slice Ab q.os.length cb)).reads
            clear x0 x1 o9 b1
            go_wp2
            exact bodyPost_ret (v := .tuple #[.agg #[.slice Ao7 (q.ts.length + 1) co7, .slice Ab q.os.length cb], .bool true]) (by simp [results, Try.results56, go_sem, p0, p1]) rfl ⟨_, _, rfl, o10, b9⟩
          · skip
            try simp only [Act.put, List.getElem_toArray, List.getElem_cons_succ, List.getElem_cons_zero, List.setIfInBounds_toArray, List.set_cons_zero, List.set_cons_succ]
            rw [if_pos (by rfl)]
            obtain ⟨gM, hgM⟩ : ∃ x, W.heap.size = x := ⟨_, rfl⟩
            refine op_make_full _ _ _ 24 rfl w3.heap.size 3 i1 (.int .i64 0) 1 Try.underlying24 hj hy0 hy1 .i64 .i64 ps.length (by rfl) (by rfl) (by rw [hy2]; omega) (by unfold maxLen; omega) D.size ?_
            intro W hown hg
            rw [made_ints, hgM] at hown
            rw [hgM]
            clear hgM
            replace D := D.grown hg D.size (fun j hj => by cases hj)
            try replace op := op.keptI hg (fun g e => by cases e)
            have nv : OwnI W w3.heap.size (.slice (some ⟨gM, 0, none⟩) ps.length ps.length) (List.replicate ps.length 0) := by unfold OwnI; rw [List.length_replicate]; exact hown
            clear hown hg
            refine hK.out _ _ trivial (fun hHeld => ?_)
            clear hK K
            try simp only [Act.put, List.getElem_toArray, List.getElem_cons_succ, List.getElem_cons_zero, List.setIfInBounds_toArray, List.set_cons_zero, List.set_cons_succ]
            refine wpAnyH_take (i := 7) (oi := _) (v := ?_) rfl (by kernel_rfl) (by kernel_rfl) (by kernel_rfl) (fun _ _ _ h => h) (Or.inl ⟨by rfl, ?_⟩) hHeld ?_
            rotate_left
            · (intro w' hSw; (try dsimp only at hSw); go_simp <;> with_reducible rfl)
            try simp only [Act.put, List.getElem_toArray, List.getElem_cons_succ, List.getElem_cons_zero, List.setIfInBounds_toArray, List.set_cons_zero, List.set_cons_succ]
            refine wpAnyH_ready (rs := [1, 8]) (by kernel_rfl) (by simp) (AllReadyH.cons (o := _) rfl (fun K hK => ?_) (AllReadyH.cons (o := _) rfl (fun K hK => ?_) AllReadyH.nil))
            · skip
              try simp only [Act.put, List.getElem_toArray, List.getElem_cons_succ, List.getElem_cons_zero, List.setIfInBounds_toArray, List.set_cons_zero, List.set_cons_succ]
              have yL := (HX6.out _ D).reads.1
              go_simp
              refine hK.out _ _ trivial (fun hHeld => ?_)
              clear hK K
              try simp only [Act.put, List.getElem_toArray, List.getElem_cons_succ, List.getElem_cons_zero, List.setIfInBounds_toArray, List.set_cons_zero, List.set_cons_succ]
              clear yL
              refine wpAnyH_ready (rs := [8]) (by kernel_rfl) (by simp) (AllReadyH.cons (o := _) rfl (fun K hK => ?_) AllReadyH.nil)
              try simp only [Act.put, List.getElem_toArray, List.getElem_cons_succ, List.getElem_cons_zero, List.setIfInBounds_toArray, List.set_cons_zero, List.set_cons_succ]
              obtain ⟨ys, hrow, HP⟩ := cr_more (t := fresh ps) HO6.out (HX6.out _ (Below.refl _ _)) D hz3 ⟨op, nv, fun _ _ => rfl⟩
              have HPP := hid HP
              have rA := row_three_ W (.slice Ap9 ps.length cp9) (.slice (some ⟨gM, 0, none⟩) ps.length ps.length) (.int .i64 0) 33
              have hrow' := World.ownsRow.alloc hrow (.cells #[.slice Ap9 ps.length cp9, .slice (some ⟨gM, 0, none⟩) ps.length ps.length, .int .i64 0] 33)
              replace D := D.trans (((Below.refl W.heap.size W).alloc (Nat.le_refl _) (.cells #[.slice Ap9 ps.length cp9, .slice (some ⟨gM, 0, none⟩) ps.length ps.length, .int .i64 0] 33)).mono D.size)
              clear HP hrow op nv
              go_simp
              refine hK.out _ _ trivial (fun hHeld => ?_)
              clear hK K
              try simp only [Act.put, List.getElem_toArray, List.getElem_cons_succ, List.getElem_cons_zero, List.setIfInBounds_toArray, List.set_cons_zero, List.set_cons_succ]
              refine wpAnyH_ready (rs := [9]) (by kernel_rfl) (by simp) (AllReadyH.cons (o := _) rfl (fun K hK => ?_) AllReadyH.nil)
              try simp only [Act.put, List.getElem_toArray, List.getElem_cons_succ, List.getElem_cons_zero, List.setIfInBounds_toArray, List.set_cons_zero, List.set_cons_succ]
              rw [if_pos (by rfl)]
              refine op_append_row2 _ (by rfl) _ _ 23 (by rfl) w.heap.size 33 i0 (.agg #[.slice none 0 0, .slice none 0 0, .int .i64 0]) 3 56 Try.underlying23 hi hz0 hz1 hz2 rfl (by decide) (.slice Ao q.ts.length co) q.ts.length ys (by rfl) hrow' _ (some ⟨W.heap.size, 0, none⟩) 1 1 [.slice Ap9 ps.length cp9, .slice (some ⟨gM, 0, none⟩) ps.length ps.length, .int .i64 0] (by rfl) rA rfl (tx_cells _ _ _ _ _ _ _) (by unfold maxLen; omega) (by omega) (Nat.le_trans hz3 D.size) ?_
              intro v7 W7 hown hg
              obtain ⟨Ao7, co7, col7, rfl, k3, HK, HB7, O8⟩ := HPP.out v7 W7 hown hg
              have k1 := k3.reads.1
              have kf := k3.reads.2.2 0
              have b7 := HB7 w w.heap.size b1 (Nat.le_refl _)
              replace x1 : Blk2s W7 (w.heap.size + 1) 26 (.slice none 0 0) (.slice none 0 0) := HK (by decide) x1.lt x1
              clear hown hg rA hrow' HPP HK HB7 b1
              refine hK.out _ _ trivial (fun hHeld => ?_)
              clear hK K
              try simp only [Act.put, List.getElem_toArray, List.getElem_cons_succ, List.getElem_cons_zero, List.setIfInBounds_toArray, List.set_cons_zero, List.set_cons_succ]
              refine wpAnyH_take (i := 10) (oi := _) (v := ?_) rfl (by kernel_rfl) (by kernel_rfl) (by kernel_rfl) (fun _ _ _ h => h) (Or.inl ⟨by rfl, ?_⟩) hHeld ?_
              rotate_left
              · (intro w' hSw; (try dsimp only at hSw); go_simp <;> with_reducible rfl)
              try simp only [Act.put, List.getElem_toArray, List.getElem_cons_succ, List.getElem_cons_zero, List.setIfInBounds_toArray, List.set_cons_zero, List.set_cons_succ]
              refine wpAnyH_ready (rs := [11]) (by kernel_rfl) (by simp) (AllReadyH.cons (o := _) rfl (fun K hK => ?_) AllReadyH.nil)
              try simp only [Act.put, List.getElem_toArray, List.getElem_cons_succ, List.getElem_cons_zero, List.setIfInBounds_toArray, List.set_cons_zero, List.set_cons_succ]
              go_simp
              refine hK.out _ _ trivial (fun hHeld => ?_)
              clear hK K
              try simp only [Act.put, List.getElem_toArray, List.getElem_cons_succ, List.getElem_cons_zero, List.setIfInBounds_toArray, List.set_cons_zero, List.set_cons_succ]
              refine wpAnyH_done (by kernel_rfl) ?_ _
              have b1 := b7.setCell (p := ⟨g, 0, none⟩) HG1.out (.slice Ao7 (q.ts.length + 1) co7)
              replace x1 := x1.far (p := ⟨g, 0, none⟩) HG2.out (.slice Ao7 (q.ts.length + 1) co7)
              have k9 := k3.set0 (.slice Ao7 (q.ts.length + 1) co7)
              obtain ⟨W9, hW9⟩ : ∃ x, W7.setCell ⟨g, 0, none⟩ (.slice Ao7 (q.ts.length + 1) co7) = x := ⟨_, rfl⟩
              rw [hW9] at b1 x1 k9 O8 ⊢
              have o9 := O8
              obtain ⟨u0, u1, -⟩ := id k9.reads
              clear hHeld k1 kf k3 b7 D hW9 O8 x0
              have x0 := trivial
              obtain ⟨t0, t1, tf⟩ := id x1.reads
              have tf0 := tf 0
              have tf1 := tf 1
              clear tf
              have o10 := (o9.keptT (by decide) (by decide) (by decide) (by decide) (but_set _ (w.heap.size + 1) 0 (.slice Ao7 (q.ts.length + 1) co7)) (blk_type x1)).keptT (by decide) (by decide) (by decide) (by decide) (but_set _ (w.heap.size + 1) 1 (.slice Ab q.os.length cb)) (blk_type (x1.set0 _))
              have b9 := (b1.setCell (p := ⟨w.heap.size + 1, 0, none⟩) (Nat.le_succ _) (.slice Ao7 (q.ts.length + 1) co7)).setCell (p := ⟨w.heap.size + 1, 1, none⟩) (Nat.le_succ _) (.slice Ab q.os.length cb)
              obtain ⟨p0, p1, -⟩ := ((x1.set0 (.slice Ao7 (q.ts.length + 1) co7)).set1 (.slice Ab q.os.length cb)).reads
              clear x0 x1 o9 b1
              go_wp2
              exact bodyPost_ret (v := .tuple #[.agg #[.slice Ao7 (q.ts.length + 1) co7, .slice Ab q.os.length cb], .bool true]) (by simp [results, Try.results56, go_sem, p0, p1]) rfl ⟨_, _, rfl, o10, b9⟩
            · skip
              try simp only [Act.put, List.getElem_toArray, List.getElem_cons_succ, List.getElem_cons_zero, List.setIfInBounds_toArray, List.set_cons_zero, List.set_cons_succ]
              obtain ⟨ys, hrow, HP⟩ := cr_more (t := fresh ps) HO6.out (HX6.out _ (Below.refl _ _)) D hz3 ⟨op, nv, fun _ _ => rfl⟩
              have HPP := hid HP
              have rA := row_three_ W (.slice Ap9 ps.length cp9) (.slice (some ⟨gM, 0, none⟩) ps.length ps.length) (.int .i64 0) 33
              have hrow' := World.ownsRow.alloc hrow (.cells #[.slice Ap9 ps.length cp9, .slice (some ⟨gM, 0, none⟩) ps.length ps.length, .int .i64 0] 33)
              replace D := D.trans (((Below.refl W.heap.size W).alloc (Nat.le_refl _) (.cells #[.slice Ap9 ps.length cp9, .slice (some ⟨gM, 0, none⟩) ps.length ps.length, .int .i64 0] 33)).mono D.size)
              clear HP hrow op nv
              go_simp
              refine hK.out _ _ trivial (fun hHeld => ?_)
              clear hK K
              try simp only [Act.put, List.getElem_toArray, List.getElem_cons_succ, List.getElem_cons_zero, List.setIfInBounds_toArray, List.set_cons_zero, List.set_cons_succ]
              refine wpAnyH_ready (rs := [1]) (by kernel_rfl) (by simp) (AllReadyH.cons (o := _) rfl (fun K hK => ?_) AllReadyH.nil)
              try simp only [Act.put, List.getElem_toArray, List.getElem_cons_succ, List.getElem_cons_zero, List.setIfInBounds_toArray, List.set_cons_zero, List.set_cons_succ]
              have yL := (HX6.out _ D).reads.1
              go_simp
              refine hK.out _ _ trivial (fun hHeld => ?_)
              clear hK K
              try simp only [Act.put, List.getElem_toArray, List.getElem_cons_succ, List.getElem_cons_zero, List.setIfInBounds_toArray, List.set_cons_zero, List.set_cons_succ]
              clear yL
              refine wpAnyH_ready (rs := [9]) (by kernel_rfl) (by simp) (AllReadyH.cons (o := _) rfl (fun K hK => ?_) AllReadyH.nil)
              try simp only [Act.put, List.getElem_toArray, List.getElem_cons_succ, List.getElem_cons_zero, List.setIfInBounds_toArray, List.set_cons_zero, List.set_cons_succ]
              rw [if_pos (by rfl)]
              refine op_append_row2 _ (by rfl) _ _ 23 (by rfl) w.heap.size 33 i0 (.agg #[.slice none 0 0, .slice none 0 0, .int .i64 0]) 3 56 Try.underlying23 hi hz0 hz1 hz2 rfl (by decide) (.slice Ao q.ts.length co) q.ts.length ys (by rfl) hrow' _ (some ⟨W.heap.size, 0, none⟩) 1 1 [.slice Ap9 ps.length cp9, .slice (some ⟨gM, 0, none⟩) ps.length ps.length, .int .i64 0] (by rfl) rA rfl (tx_cells _ _ _ _ _ _ _) (by unfold maxLen; omega) (by omega) (Nat.le_trans hz3 D.size) ?_
              intro v7 W7 hown hg
              obtain ⟨Ao7, co7, col7, rfl, k3, HK, HB7, O8⟩ := HPP.out v7 W7 hown hg
              have k1 := k3.reads.1
              have kf := k3.reads.2.2 0
              have b7 := HB7 w w.heap.size b1 (Nat.le_refl _)
              replace x1 : Blk2s W7 (w.heap.size + 1) 26 (.slice none 0 0) (.slice none 0 0) := HK (by decide) x1.lt x1
              clear hown hg rA hrow' HPP HK HB7 b1
              refine hK.out _ _ trivial (fun hHeld => ?_)
              clear hK K
              try simp only [Act.put, List.getElem_toArray, List.getElem_cons_succ, List.getElem_cons_zero, List.setIfInBounds_toArray, List.set_cons_zero, List.set_cons_succ]
              refine wpAnyH_take (i := 10) (oi := _) (v := ?_) rfl (by kernel_rfl) (by kernel_rfl) (by kernel_rfl) (fun _ _ _ h => h) (Or.inl ⟨by rfl, ?_⟩) hHeld ?_
              rotate_left
              · (intro w' hSw; (try dsimp only at hSw); go_simp <;> with_reducible rfl)
              try simp only [Act.put, List.getElem_toArray, List.getElem_cons_succ, List.getElem_cons_zero, List.setIfInBounds_toArray, List.set_cons_zero, List.set_cons_succ]
              refine wpAnyH_ready (rs := [11]) (by kernel_rfl) (by simp) (AllReadyH.cons (o := _) rfl (fun K hK => ?_) AllReadyH.nil)
              try simp only [Act.put, List.getElem_toArray, List.getElem_cons_succ, List.getElem_cons_zero, List.setIfInBounds_toArray, List.set_cons_zero, List.set_cons_succ]
              go_simp
              refine hK.out _ _ trivial (fun hHeld => ?_)
              clear hK K
              try simp only [Act.put, List.getElem_toArray, List.getElem_cons_succ, List.getElem_cons_zero, List.setIfInBounds_toArray, List.set_cons_zero, List.set_cons_succ]
              refine wpAnyH_done (by kernel_rfl) ?_ _
              have b1 := b7.setCell (p := ⟨g, 0, none⟩) HG1.out (.slice Ao7 (q.ts.length + 1) co7)
              replace x1 := x1.far (p := ⟨g, 0, none⟩) HG2.out (.slice Ao7 (q.ts.length + 1) co7)
              have k9 := k3.set0 (.slice Ao7 (q.ts.length + 1) co7)
              obtain ⟨W9, hW9⟩ : ∃ x, W7.setCell ⟨g, 0, none⟩ (.slice Ao7 (q.ts.length + 1) co7) = x := ⟨_, rfl⟩
              rw [hW9] at b1 x1 k9 O8 ⊢
              have o9 := O8
              obtain ⟨u0, u1, -⟩ := id k9.reads
              clear hHeld k1 kf k3 b7 D hW9 O8 x0
              have x0 := trivial
              obtain ⟨t0, t1, tf⟩ := id x1.reads
              have tf0 := tf 0
              have tf1 := tf 1
              clear tf
              have o10 := (o9.keptT (by decide) (by decide) (by decide) (by decide) (but_set _ (w.heap.size + 1) 0 (.slice Ao7 (q.ts.length + 1) co7)) (blk_type x1)).keptT (by decide) (by decide) (by decide) (by decide) (but_set _ (w.heap.size + 1) 1 (.slice Ab q.os.length cb)) (blk_type (x1.set0 _))
              have b9 := (b1.setCell (p := ⟨w.heap.size + 1, 0, none⟩) (Nat.le_succ _) (.slice Ao7 (q.ts.length + 1) co7)).setCell (p := ⟨w.heap.size + 1, 1, none⟩) (Nat.le_succ _) (.slice Ab q.os.length cb)
              obtain ⟨p0, p1, -⟩ := ((x1.set0 (.slice Ao7 (q.ts.length + 1) co7)).set1 (.slice Ab q.os.length cb)).reads
              clear x0 x1 o9 b1
              go_wp2
              exact bodyPost_ret (v := .tuple #[.agg #[.slice Ao7 (q.ts.length + 1) co7, .slice Ab q.os.length cb], .bool true]) (by simp [results, Try.results56, go_sem, p0, p1]) rfl ⟨_, _, rfl, o10, b9⟩
        · skip
          try simp only [Act.put, List.getElem_toArray, List.getElem_cons_succ, List.getElem_cons_zero, List.setIfInBounds_toArray, List.set_cons_zero, List.set_cons_succ]
          rw [if_pos (by rfl)]
          obtain ⟨gM, hgM⟩ : ∃ x, W.heap.size = x := ⟨_, rfl⟩
          refine op_make_full _ _ _ 24 rfl w3.heap.size 3 i1 (.int .i64 0) 1 Try.underlying24 hj hy0 hy1 .i64 .i64 ps.length (by rfl) (by rfl) (by rw [hy2]; omega) (by unfold maxLen; omega) D.size ?_
          intro W hown hg
          rw [made_ints, hgM] at hown
          rw [hgM]
          clear hgM
          replace D := D.grown hg D.size (fun j hj => by cases hj)
          try replace op := op.keptI hg (fun g e => by cases e)
          have nv : OwnI W w3.heap.size (.slice (some ⟨gM, 0, none⟩) ps.length ps.length) (List.replicate ps.length 0) := by unfold OwnI; rw [List.length_replicate]; exact hown
          clear hown hg
          refine hK.out _ _ trivial (fun hHeld => ?_)
          clear hK K
          try simp only [Act.put, List.getElem_toArray, List.getElem_cons_succ, List.getElem_cons_zero, List.setIfInBounds_toArray, List.set_cons_zero, List.set_cons_succ]
          refine wpAnyH_ready (rs := [1, 3]) (by kernel_rfl) (by simp) (AllReadyH.cons (o := _) rfl (fun K hK => ?_) (AllReadyH.cons (o := _) rfl (fun K hK => ?_) AllReadyH.nil))
          · skip
            try simp only [Act.put, List.getElem_toArray, List.getElem_cons_succ, List.getElem_cons_zero, List.setIfInBounds_toArray, List.set_cons_zero, List.set_cons_succ]
            have yL := (HX6.out _ D).reads.1
            go_simp
            refine hK.out _ _ trivial (fun hHeld => ?_)
            clear hK K
            try simp only [Act.put, List.getElem_toArray, List.getElem_cons_succ, List.getElem_cons_zero, List.setIfInBounds_toArray, List.set_cons_zero, List.set_cons_succ]
            clear yL
            refine wpAnyH_ready (rs := [3]) (by kernel_rfl) (by simp) (AllReadyH.cons (o := _) rfl (fun K hK => ?_) AllReadyH.nil)
            try simp only [Act.put, List.getElem_toArray, List.getElem_cons_succ, List.getElem_cons_zero, List.setIfInBounds_toArray, List.set_cons_zero, List.set_cons_succ]
            go_simp
            go_at_call 77
            refine (HC.out _ D).mono ?_
            rintro e W ⟨vp, rfl, op', d5⟩
            have op := op'.base D.size
            obtain ⟨Ap9, cp9, rfl, -, -⟩ := op.form
            try replace nv := OwnI.below nv d5 (Nat.le_refl _)
            replace D := D.trans (d5.mono D.size)
            clear op' d5
            refine hK.out _ _ trivial (fun hHeld => ?_)
            clear hK K
            try simp only [Act.put, List.getElem_toArray, List.getElem_cons_succ, List.getElem_cons_zero, List.setIfInBounds_toArray, List.set_cons_zero, List.set_cons_succ]
            refine wpAnyH_take (i := 7) (oi := _) (v := ?_) rfl (by kernel_rfl) (by kernel_rfl) (by kernel_rfl) (fun _ _ _ h => h) (Or.inl ⟨by rfl, ?_⟩) hHeld ?_
            rotate_left
            · (intro w' hSw; (try dsimp only at hSw); go_simp <;> with_reducible rfl)
            try simp only [Act.put, List.getElem_toArray, List.getElem_cons_succ, List.getElem_cons_zero, List.setIfInBounds_toArray, List.set_cons_zero, List.set_cons_succ]
            refine wpAnyH_ready (rs := [8]) (by kernel_rfl) (by simp) (AllReadyH.cons (o := _) rfl (fun K hK => ?_) AllReadyH.nil)
            try simp only [Act.put, List.getElem_toArray, List.getElem_cons_succ, List.getElem_cons_zero, List.setIfInBounds_toArray, List.set_cons_zero, List.set_cons_succ]
            obtain ⟨ys, hrow, HP⟩ := cr_more (t := fresh ps) HO6.out (HX6.out _ (Below.refl _ _)) D hz3 ⟨op, nv, fun _ _ => rfl⟩
            have HPP := hid HP
            have rA := row_three_ W (.slice Ap9 ps.length cp9) (.slice (some ⟨gM, 0, none⟩) ps.length ps.length) (.int .i64 0) 33
            have hrow' := World.ownsRow.alloc hrow (.cells #[.slice Ap9 ps.length cp9, .slice (some ⟨gM, 0, none⟩) ps.length ps.length, .int .i64 0] 33)
            replace D := D.trans (((Below.refl W.heap.size W).alloc (Nat.le_refl _) (.cells #[.slice Ap9 ps.length cp9, .slice (some ⟨gM, 0, none⟩) ps.length ps.length, .int .i64 0] 33)).mono D.size)
            clear HP hrow op nv
            go_simp
            refine hK.out _ _ trivial (fun hHeld => ?_)
            clear hK K
            try simp only [Act.put, List.getElem_toArray, List.getElem_cons_succ, List.getElem_cons_zero, List.setIfInBounds_toArray, List.set_cons_zero, List.set_cons_succ]
            refine wpAnyH_ready (rs := [9]) (by kernel_rfl) (by simp) (AllReadyH.cons (o := _) rfl (fun K hK => ?_) AllReadyH.nil)
            try simp only [Act.put, List.getElem_toArray, List.getElem_cons_succ, List.getElem_cons_zero, List.setIfInBounds_toArray, List.set_cons_zero, List.set_cons_succ]
            rw [if_pos (by rfl)]
            refine op_append_row2 _ (by rfl) _ _ 23 (by rfl) w.heap.size 33 i0 (.agg #[.slice none 0 0, .slice none 0 0, .int .i64 0]) 3 56 Try.underlying23 hi hz0 hz1 hz2 rfl (by decide) (.slice Ao q.ts.length co) q.ts.length ys (by rfl) hrow' _ (some ⟨W.heap.size, 0, none⟩) 1 1 [.slice Ap9 ps.length cp9, .slice (some ⟨gM, 0, none⟩) ps.length ps.length, .int .i64 0] (by rfl) rA rfl (tx_cells _ _ _ _ _ _ _) (by unfold maxLen; omega) (by omega) (Nat.le_trans hz3 D.size) ?_
            intro v7 W7 hown hg
            obtain ⟨Ao7, co7, col7, rfl, k3, HK, HB7, O8⟩ := HPP.out v7 W7 hown hg
            have k1 := k3.reads.1
            have kf := k3.reads.2.2 0
            have b7 := HB7 w w.heap.size b1 (Nat.le_refl _)
            replace x1 : Blk2s W7 (w.heap.size + 1) 26 (.slice none 0 0) (.slice none 0 0) := HK (by decide) x1.lt x1
            clear hown hg rA hrow' HPP HK HB7 b1
            refine hK.out _ _ trivial (fun hHeld => ?_)
            clear hK K
            try simp only [Act.put, List.getElem_toArray, List.getElem_cons_succ, List.getElem_cons_zero, List.setIfInBounds_toArray, List.set_cons_zero, List.set_cons_succ]
            refine wpAnyH_take (i := 10) (oi := _) (v := ?_) rfl (by kernel_rfl) (by kernel_rfl) (by kernel_rfl) (fun _ _ _ h => h) (Or.inl ⟨by rfl, ?_⟩) hHeld ?_
            rotate_left
            · (intro w' hSw; (try dsimp only at hSw); go_simp <;> with_reducible rfl)
            try simp only [Act.put, List.getElem_toArray, List.getElem_cons_succ, List.getElem_cons_zero, List.setIfInBounds_toArray, List.set_cons_zero, List.set_cons_succ]
            refine wpAnyH_ready (rs := [11]) (by kernel_rfl) (by simp) (AllReadyH.cons (o := _) rfl (fun K hK => ?_) AllReadyH.nil)
            try simp only [Act.put, List.getElem_toArray, List.getElem_cons_succ, List.getElem_cons_zero, List.setIfInBounds_toArray, List.set_cons_zero, List.set_cons_succ]
            go_simp
            refine hK.out _ _ trivial (fun hHeld => ?_)
            clear hK K
            try simp only [Act.put, List.getElem_toArray, List.getElem_cons_succ, List.getElem_cons_zero, List.setIfInBounds_toArray, List.set_cons_zero, List.set_cons_succ]
            refine wpAnyH_done (by kernel_rfl) ?_ _
            have b1 := b7.setCell (p := ⟨g, 0, none⟩) HG1.out (.slice Ao7 (q.ts.length + 1) co7)
            replace x1 := x1.far (p := ⟨g, 0, none⟩) HG2.out (.slice Ao7 (q.ts.length + 1) co7)
            have k9 := k3.set0 (.slice Ao7 (q.ts.length + 1) co7)
            obtain ⟨W9, hW9⟩ : ∃ x, W7.setCell ⟨g, 0, none⟩ (.slice Ao7 (q.ts.length + 1) co7) = x := ⟨_, rfl⟩
            rw [hW9] at b1 x1 k9 O8 ⊢
            have o9 := O8
            obtain ⟨u0, u1, -⟩ := id k9.reads
            clear hHeld k1 kf k3 b7 D hW9 O8 x0
            have x0 := trivial
            obtain ⟨t0, t1, tf⟩ := id x1.reads
            have tf0 := tf 0
            have tf1 := tf 1
            clear tf
            have o10 := (o9.keptT (by decide) (by decide) (by decide) (by decide) (but_set _ (w.heap.size + 1) 0 (.slice Ao7 (q.ts.length + 1) co7)) (blk_type x1)).keptT (by decide) (by decide) (by decide) (by decide) (but_set _ (w.heap.size + 1) 1 (.slice Ab q.os.length cb)) (blk_type (x1.set0 _))
            have b9 := (b1.setCell (p := ⟨w.heap.size + 1, 0, none⟩) (Nat.le_succ _) (.slice Ao7 (q.ts.length + 1) co7)).setCell (p := ⟨w.heap.size + 1, 1, none⟩) (Nat.le_succ _) (.slice Ab q.os.length cb)
            obtain ⟨p0, p1, -⟩ := ((x1.set0 (.slice Ao7 (q.ts.length + 1) co7)).set1 (.slice Ab q.os.length cb)).reads
            clear x0 x1 o9 b1
            go_wp2
            exact bodyPost_ret (v := .tuple #[.agg #[.slice Ao7 (q.ts.length + 1) co7, .slice Ab q.os.length cb], .bool true]) (by simp [results, Try.results56, go_sem, p0, p1]) rfl ⟨_, _, rfl, o10, b9⟩
          · skip
            try simp only [Act.put, List.getElem_toArray, List.getElem_cons_succ, List.getElem_cons_zero, List.setIfInBounds_toArray, List.set_cons_zero, List.set_cons_succ]
            go_simp
            go_at_call 77
            refine (HC.out _ D).mono ?_
            rintro e W ⟨vp, rfl, op', d5⟩
            have op := op'.base D.size
            obtain ⟨Ap9, cp9, rfl, -, -⟩ := op.form
            try replace nv := OwnI.below nv d5 (Nat.le_refl _)
            replace D := D.trans (d5.mono D.size)
            clear op' d5
            refine hK.out _ _ trivial (fun hHeld => ?_)
            clear hK K
            try simp only [Act.put, List.getElem_toArray, List.getElem_cons_succ, List.getElem_cons_zero, List.setIfInBounds_toArray, List.set_cons_zero, List.set_cons_succ]
            refine wpAnyH_take (i := 7) (oi := _) (v := ?_) rfl (by kernel_rfl) (by kernel_rfl) (by kernel_rfl) (fun _ _ _ h => h) (Or.inl ⟨by rfl, ?_⟩) hHeld ?_
            rotate_left
            · (intro w' hSw; (try dsimp only at hSw); go_simp <;> with_reducible rfl)
            try simp only [Act.put, List.getElem_toArray, List.getElem_cons_succ, List.getElem_cons_zero, List.setIfInBounds_toArray, List.set_cons_zero, List.set_cons_succ]
            refine wpAnyH_ready (rs := [1, 8]) (by kernel_rfl) (by simp) (AllReadyH.cons (o := _) rfl (fun K hK => ?_) (AllReadyH.cons (o := _) rfl (fun K hK => ?_) AllReadyH.nil))
            · skip
              try simp only [Act.put, List.getElem_toArray, List.getElem_cons_succ, List.getElem_cons_zero, List.setIfInBounds_toArray, List.set_cons_zero, List.set_cons_succ]
              have yL := (HX6.out _ D).reads.1
              go_simp
              refine hK.out _ _ trivial (fun hHeld => ?_)
              clear hK K
              try simp only [Act.put, List.getElem_toArray, List.getElem_cons_succ, List.getElem_cons_zero, List.setIfInBounds_toArray, List.set_cons_zero, List.set_cons_succ]
              clear yL
              refine wpAnyH_ready (rs := [8]) (by kernel_rfl) (by simp) (AllReadyH.cons (o := _) rfl (fun K hK => ?_) AllReadyH.nil)
              try simp only [Act.put, List.getElem_toArray, List.getElem_cons_succ, List.getElem_cons_zero, List.setIfInBounds_toArray, List.set_cons_zero, List.set_cons_succ]
              obtain ⟨ys, hrow, HP⟩ := cr_more (t := fresh ps) HO6.out (HX6.out _ (Below.refl _ _)) D hz3 ⟨op, nv, fun _ _ => rfl⟩
              have HPP := hid HP
              have rA := row_three_ W (.slice Ap9 ps.length cp9) (.slice (some ⟨gM, 0, none⟩) ps.length ps.length) (.int .i64 0) 33
              have hrow' := World.ownsRow.alloc hrow (.cells #[.slice Ap9 ps.length cp9, .slice (some ⟨gM, 0, none⟩) ps.length ps.length, .int .i64 0] 33)
              replace D := D.trans (((Below.refl W.heap.size W).alloc (Nat.le_refl _) (.cells #[.slice Ap9 ps.length cp9, .slice (some ⟨gM, 0, none⟩) ps.length ps.length, .int .i64 0] 33)).mono D.size)
              clear HP hrow op nv
              go_simp
              refine hK.out _ _ trivial (fun hHeld => ?_)
              clear hK K
              try simp only [Act.put, List.getElem_toArray, List.getElem_cons_succ, List.getElem_cons_zero, List.setIfInBounds_toArray, List.set_cons_zero, List.set_cons_succ]
              refine wpAnyH_ready (rs := [9]) (by kernel_rfl) (by simp) (AllReadyH.cons (o := _) rfl (fun K hK => ?_) AllReadyH.nil)
              try simp only [Act.put, List.getElem_toArray, List.getElem_cons_succ, List.getElem_cons_zero, List.setIfInBounds_toArray, List.set_cons_zero, List.set_cons_succ]
              rw [if_pos (by rfl)]
              refine op_append_row2 _ (by rfl) _ _ 23 (by rfl) w.heap.size 33 i0 (.agg #[.slice none 0 0, .slice none 0 0, .int .i64 0]) 3 56 Try.underlying23 hi hz0 hz1 hz2 rfl (by decide) (.slice Ao q.ts.length co) q.ts.length ys (by rfl) hrow' _ (some ⟨W.heap.size, 0, none⟩) 1 1 [.slice Ap9 ps.length cp9, .slice (some ⟨gM, 0, none⟩) ps.length ps.length, .int .i64 0] (by rfl) rA rfl (tx_cells _ _ _ _ _ _ _) (by unfold maxLen; omega) (by omega) (Nat.le_trans hz3 D.size) ?_
              intro v7 W7 hown hg
              obtain ⟨Ao7, co7, col7, rfl, k3, HK, HB7, O8⟩ := HPP.out v7 W7 hown hg
              have k1 := k3.reads.1
              have kf := k3.reads.2.2 0
              have b7 := HB7 w w.heap.size b1 (Nat.le_refl _)
              replace x1 : Blk2s W7 (w.heap.size + 1) 26 (.slice none 0 0) (.slice none 0 0) := HK (by decide) x1.lt x1
              clear hown hg rA hrow' HPP HK HB7 b1
              refine hK.out _ _ trivial (fun hHeld => ?_)
              clear hK K
              try simp only [Act.put, List.getElem_toArray, List.getElem_cons_succ, List.getElem_cons_zero, List.setIfInBounds_toArray, List.set_cons_zero, List.set_cons_succ]
              refine wpAnyH_take (i := 10) (oi := _) (v := ?_) rfl (by kernel_rfl) (by kernel_rfl) (by kernel_rfl) (fun _ _ _ h => h) (Or.inl ⟨by rfl, ?_⟩) hHeld ?_
              rotate_left
              · (intro w' hSw; (try dsimp only at hSw); go_simp <;> with_reducible rfl)
              try simp only [Act.put, List.getElem_toArray, List.getElem_cons_succ, List.getElem_cons_zero, List.setIfInBounds_toArray, List.set_cons_zero, List.set_cons_succ]
              refine wpAnyH_ready (rs := [11]) (by kernel_rfl) (by simp) (AllReadyH.cons (o := _) rfl (fun K hK => ?_) AllReadyH.nil)
              try simp only [Act.put, List.getElem_toArray, List.getElem_cons_succ, List.getElem_cons_zero, List.setIfInBounds_toArray, List.set_cons_zero, List.set_cons_succ]
              go_simp
              refine hK.out _ _ trivial (fun hHeld => ?_)
              clear hK K
              try simp only [Act.put, List.getElem_toArray, List.getElem_cons_succ, List.getElem_cons_zero, List.setIfInBounds_toArray, List.set_cons_zero, List.set_cons_succ]
              refine wpAnyH_done (by kernel_rfl) ?_ _
              have b1 := b7.setCell (p := ⟨g, 0, none⟩) HG1.out (.slice Ao7 (q.ts.length + 1) co7)
              replace x1 := x1.far (p := ⟨g, 0, none⟩) HG2.out (.slice Ao7 (q.ts.length + 1) co7)
              have k9 := k3.set0 (.slice Ao7 (q.ts.length + 1) co7)
              obtain ⟨W9, hW9⟩ : ∃ x, W7.setCell ⟨g, 0, none⟩ (.slice Ao7 (q.ts.length + 1) co7) = x := ⟨_, rfl⟩
              rw [hW9] at b1 x1 k9 O8 ⊢
              have o9 := O8
              obtain ⟨u0, u1, -⟩ := id k9.reads
              clear hHeld k1 kf k3 b7 D hW9 O8 x0
              have x0 := trivial
              obtain ⟨t0, t1, tf⟩ := id x1.reads
              have tf0 := tf 0
              have tf1 := tf 1
              clear tf
              have o10 := (o9.keptT (by decide) (by decide) (by decide) (by decide) (but_set _ (w.heap.size + 1) 0 (.slice Ao7 (q.ts.length + 1) co7)) (blk_type x1)).keptT (by decide) (by decide) (by decide) (by decide) (but_set _ (w.heap.size + 1) 1 (.slice Ab q.os.length cb)) (blk_type (x1.set0 _))
              have b9 := (b1.setCell (p := ⟨w.heap.size + 1, 0, none⟩) (Nat.le_succ _) (.slice Ao7 (q.ts.length + 1) co7)).setCell (p := ⟨w.heap.size + 1, 1, none⟩) (Nat.le_succ _) (.slice Ab q.os.length cb)
              obtain ⟨p0, p1, -⟩ := ((x1.set0 (.slice Ao7 (q.ts.length + 1) co7)).set1 (.slice Ab q.os.length cb)).reads
              clear x0 x1 o9 b1
              go_wp2
              exact bodyPost_ret (v := .tuple #[.agg #[.slice Ao7 (q.ts.length + 1) co7, .slice Ab q.os.length cb], .bool true]) (by simp [results, Try.results56, go_sem, p0, p1]) rfl ⟨_, _, rfl, o10, b9⟩
            · skip
              try simp only [Act.put, List.getElem_toArray, List.getElem_cons_succ, List.getElem_cons_zero, List.setIfInBounds_toArray, List.set_cons_zero, List.set_cons_succ]
              obtain ⟨ys, hrow, HP⟩ := cr_more (t := fresh ps) HO6.out (HX6.out _ (Below.refl _ _)) D hz3 ⟨op, nv, fun _ _ => rfl⟩
              have HPP := hid HP
              have rA := row_three_ W (.slice Ap9 ps.length cp9) (.slice (some ⟨gM, 0, none⟩) ps.length ps.length) (.int .i64 0) 33
              have hrow' := World.ownsRow.alloc hrow (.cells #[.slice Ap9 ps.length cp9, .slice (some ⟨gM, 0, none⟩) ps.length ps.length, .int .i64 0] 33)
              replace D := D.trans (((Below.refl W.heap.size W).alloc (Nat.le_refl _) (.cells #[.slice Ap9 ps.length cp9, .slice (some ⟨gM, 0, none⟩) ps.length ps.length, .int .i64 0] 33)).mono D.size)
              clear HP hrow op nv
              go_simp
              refine hK.out _ _ trivial (fun hHeld => ?_)
              clear hK K
              try simp only [Act.put, List.getElem_toArray, List.getElem_cons_succ, List.getElem_cons_zero, List.setIfInBounds_toArray, List.set_cons_zero, List.set_cons_succ]
              refine wpAnyH_ready (rs := [1]) (by kernel_rfl) (by simp) (AllReadyH.cons (o := _) rfl (fun K hK => ?_) AllReadyH.nil)
              try simp only [Act.put, List.getElem_toArray, List.getElem_cons_succ, List.getElem_cons_zero, List.setIfInBounds_toArray, List.set_cons_zero, List.set_cons_succ]
              have yL := (HX6.out _ D).reads.1
              go_simp
              refine hK.out _ _ trivial (fun hHeld => ?_)
              clear hK K
              try simp only [Act.put, List.getElem_toArray, List.getElem_cons_succ, List.getElem_cons_zero, List.setIfInBounds_toArray, List.set_cons_zero, List.set_cons_succ]
              clear yL
              refine wpAnyH_ready (rs := [9]) (by kernel_rfl) (by simp) (AllReadyH.cons (o := _) rfl (fun K hK => ?_) AllReadyH.nil)
              try simp only [Act.put, List.getElem_toArray, List.getElem_cons_succ, List.getElem_cons_zero, List.setIfInBounds_toArray, List.set_cons_zero, List.set_cons_succ]
              rw [if_pos (by rfl)]
              refine op_append_row2 _ (by rfl) _ _ 23 (by rfl) w.heap.size 33 i0 (.agg #[.slice none 0 0, .slice none 0 0, .int .i64 0]) 3 56 Try.underlying23 hi hz0 hz1 hz2 rfl (by decide) (.slice Ao q.ts.length co) q.ts.length ys (by rfl) hrow' _ (some ⟨W.heap.size, 0, none⟩) 1 1 [.slice Ap9 ps.length cp9, .slice (some ⟨gM, 0, none⟩) ps.length ps.length, .int .i64 0] (by rfl) rA rfl (tx_cells _ _ _ _ _ _ _) (by unfold maxLen; omega) (by omega) (Nat.le_trans hz3 D.size) ?_
              intro v7 W7 hown hg
              obtain ⟨Ao7, co7, col7, rfl, k3, HK, HB7, O8⟩ := HPP.out v7 W7 hown hg
              have k1 := k3.reads.1
              have kf := k3.reads.2.2 0
              have b7 := HB7 w w.heap.size b1 (Nat.le_refl _)
              replace x1 : Blk2s W7 (w.heap.size + 1) 26 (.slice none 0 0) (.slice none 0 0) := HK (by decide) x1.lt x1
              clear hown hg rA hrow' HPP HK HB7 b1
              refine hK.out _ _ trivial (fun hHeld => ?_)
              clear hK K
              try simp only [Act.put, List.getElem_toArray, List.getElem_cons_succ, List.getElem_cons_zero, List.setIfInBounds_toArray, List.set_cons_zero, List.set_cons_succ]
              refine wpAnyH_take (i := 10) (oi := _) (v := ?_) rfl (by kernel_rfl) (by kernel_rfl) (by kernel_rfl) (fun _ _ _ h => h) (Or.inl ⟨by rfl, ?_⟩) hHeld ?_
              rotate_left
              · (intro w' hSw; (try dsimp only at hSw); go_simp <;> with_reducible rfl)
              try simp only [Act.put, List.getElem_toArray, List.getElem_cons_succ, List.getElem_cons_zero, List.setIfInBounds_toArray, List.set_cons_zero, List.set_cons_succ]
              refine wpAnyH_ready (rs := [11]) (by kernel_rfl) (by simp) (AllReadyH.cons (o := _) rfl (fun K hK => ?_) AllReadyH.nil)
              try simp only [Act.put, List.getElem_toArray, List.getElem_cons_succ, List.getElem_cons_zero, List.setIfInBounds_toArray, List.set_cons_zero, List.set_cons_succ]
              go_simp
              refine hK.out _ _ trivial (fun hHeld => ?_)
              clear hK K
              try simp only [Act.put, List.getElem_toArray, List.getElem_cons_succ, List.getElem_cons_zero, List.setIfInBounds_toArray, List.set_cons_zero, List.set_cons_succ]
              refine wpAnyH_done (by kernel_rfl) ?_ _
              have b1 := b7.setCell (p := ⟨g, 0, none⟩) HG1.out (.slice Ao7 (q.ts.length + 1) co7)
              replace x1 := x1.far (p := ⟨g, 0, none⟩) HG2.out (.slice Ao7 (q.ts.length + 1) co7)
              have k9 := k3.set0 (.slice Ao7 (q.ts.length + 1) co7)
              obtain ⟨W9, hW9⟩ : ∃ x, W7.setCell ⟨g, 0, none⟩ (.slice Ao7 (q.ts.length + 1) co7) = x := ⟨_, rfl⟩
              rw [hW9] at b1 x1 k9 O8 ⊢
              have o9 := O8
              obtain ⟨u0, u1, -⟩ := id k9.reads
              clear hHeld k1 kf k3 b7 D hW9 O8 x0
              have x0 := trivial
              obtain ⟨t0, t1, tf⟩ := id x1.reads
              have tf0 := tf 0
              have tf1 := tf 1
              clear tf
              have o10 := (o9.keptT (by decide) (by decide) (by decide) (by decide) (but_set _ (w.heap.size + 1) 0 (.slice Ao7 (q.ts.length + 1) co7)) (blk_type x1)).keptT (by decide) (by decide) (by decide) (by decide) (but_set _ (w.heap.size + 1) 1 (.slice Ab q.os.length cb)) (blk_type (x1.set0 _))
              have b9 := (b1.setCell (p := ⟨w.heap.size + 1, 0, none⟩) (Nat.le_succ _) (.slice Ao7 (q.ts.length + 1) co7)).setCell (p := ⟨w.heap.size + 1, 1, none⟩) (Nat.le_succ _) (.slice Ab q.os.length cb)
              obtain ⟨p0, p1, -⟩ := ((x1.set0 (.slice Ao7 (q.ts.length + 1) co7)).set1 (.slice Ab q.os.length cb)).reads
              clear x0 x1 o9 b1
              go_wp2
              exact bodyPost_ret (v := .tuple #[.agg #[.slice Ao7 (q.ts.length + 1) co7, .slice Ab q.os.length cb], .bool true]) (by simp [results, Try.results56, go_sem, p0, p1]) rfl ⟨_, _, rfl, o10, b9⟩
      · obtain ⟨rfl, rfl⟩ := HX.out.full_ HVq.out HVp.out h12
        have e1 : decide ((12 : Int) ≤ (x.ts.length : Int)) = true := decide_eq_true (by omega)
        have e2 : decide (12 ≤ x.ts.length) = true := decide_eq_true (by omega)
        obtain ⟨u0, u1, -⟩ := id x6.reads
        have o9 := o2
        clear HX CVal CPar CCop CP2 HVq HVp HBV HBP HB2 h12 o2
        obtain ⟨t0, t1, tf⟩ := id x1.reads
        have tf0 := tf 0
        have tf1 := tf 1
        clear tf
        have o10 := (o9.keptT (by decide) (by decide) (by decide) (by decide) (but_set _ (w.heap.size + 1) 0 (.slice Ao x.ts.length co)) (blk_type x1)).keptT (by decide) (by decide) (by decide) (by decide) (but_set _ (w.heap.size + 1) 1 (.slice Ab x.os.length cb)) (blk_type (x1.set0 _))
        have b9 := (b1.setCell (p := ⟨w.heap.size + 1, 0, none⟩) (Nat.le_succ _) (.slice Ao x.ts.length co)).setCell (p := ⟨w.heap.size + 1, 1, none⟩) (Nat.le_succ _) (.slice Ab x.os.length cb)
        obtain ⟨p0, p1, -⟩ := ((x1.set0 (.slice Ao x.ts.length co)).set1 (.slice Ab x.os.length cb)).reads
        clear x0 x1 o9 b1
        go_wp2
        exact bodyPost_ret (v := .tuple #[.agg #[.slice Ao x.ts.length co, .slice Ab x.os.length cb], .bool false]) (by simp [results, Try.results56, go_sem, p0, p1]) rfl ⟨_, _, rfl, o10, b9⟩
end Go.Proofs.Ytjplondblkkpmaa
