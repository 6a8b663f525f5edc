/- The coordinator with the slices $SA and $SB is stored as the answer, with the word $BB. -/
/- Laws on coordinators: a coordinator is boxed. -/
/-
  Walk: a transaction is aborted late, by the program.
-/
import Derived.Test.YtelmeknpmlbplaaG3C
import Derived.Test.YtelmeknpmlbplaaValK
import Derived.Test.YtelmeknpmlbplaaG5C
namespace Go.Proofs.Ytelmeknpmlbplaa
open Go.RowKit Wo Pu Rf Co

set_option linter.unusedSimpArgs false in
set_option linter.unusedVariables false in
set_option maxRecDepth 100000 in
set_option maxHeartbeats 16000000 in
theorem implCoordinatorTimeout_is (x : Crd) (b : Bool) (v : Value) (q : Crd) (t : Int) (w : World) (h : Crdd w w.heap.size v q) (hf : FitC q) (hx : Late q t x b) :
    Calls Try.prog 42 #[v, .int .i64 t] w (NewCrB x b w) := by
  obtain ⟨bv, hbv⟩ := bool_ofP' (CV q)
  obtain ⟨bi, hbi⟩ := bool_ofP' (∃ k, k < q.ts.length ∧ t = ((k : Nat) : Int))
  have HX := hid hx
  have HBV := hid hbv
  have HBI := hid hbi
  have CVal : Hid (∀ y, Below w.heap.size w y → Calls Try.prog 33 #[v] y (Ret (.bool bv) y)) := fun y hy => implCoordinatorValid_is bv v q y (h.on hy hy.size) hf hbv
  have CCop : Hid (∀ y, Below w.heap.size w y → Calls Try.prog 62 #[v] y (NewCr q y)) := fun y hy => crdCopied_is v q y (h.on hy hy.size) hf
  have CI : Hid (∀ A c A2 c2 y, Calls Try.prog 57 #[.agg #[.slice A q.ts.length c, .slice A2 q.os.length c2], .int .i64 t] y (Ret (.bool bi) y)) := fun A c A2 c2 y => has_is bi A A2 q.ts.length q.os.length c c2 t y hbi
  have hf1 := hf.ts
  clear hx hbv hbi
  obtain ⟨A, c, A2, c2, rfl, hT, hc, -, hc2⟩ := h
  clear hf
  unfold crV at *
  have b1 := ((Below.refl w.heap.size w).alloc (Nat.le_refl _) (.cells #[.slice A q.ts.length c, .slice A2 q.os.length c2] 26)).alloc (by simp) (.cells #[.slice none 0 0, .slice none 0 0] 26)
  have x0 := (Blk2s.new_ w 26 (.slice A q.ts.length c) (.slice A2 q.os.length c2)).alloc (.cells #[.slice none 0 0, .slice none 0 0] 26)
  have x1 := Blk2s.new_ (w.alloc (.cells #[.slice A q.ts.length c, .slice A2 q.os.length c2] 26)) 26 (.slice none 0 0) (.slice none 0 0)
  rw [World.size_alloc] at x1
  go_enter Try.func42, Try.ntmps42
  go_upto_region 1 with fail
  obtain ⟨w1, hw1⟩ : ∃ w1, (w.alloc (.cells #[.slice A q.ts.length c, .slice A2 q.os.length c2] 26)).alloc (.cells #[.slice none 0 0, .slice none 0 0] 26) = w1 := ⟨_, rfl⟩
  rw [hw1] at b1 x0 x1 ⊢
  clear hw1
  obtain ⟨y0, y1, -⟩ := id x0.reads
  go_wp2_with fail
  refine (CVal.out _ b1).mono ?_
  rintro e w2 ⟨rfl, d⟩
  replace x0 := x0.later d
  replace x1 := x1.later d
  replace b1 := b1.trans (d.mono b1.size)
  clear y0 y1
  obtain ⟨y0, y1, -⟩ := id x0.reads
  cases bv with
  | false =>
    obtain ⟨rfl, rfl⟩ := HX.out.bad_ fun e => by have := HBV.out.2 e; cases this
    clear HX CVal CCop CI
    obtain ⟨t0, t1, tf⟩ := id x1.reads
    have tf0 := tf 0
    have tf1 := tf 1
    clear tf
    obtain ⟨p0, p1, -⟩ := ((x1.set0 (.slice none 0 0)).set1 (.slice none 0 0)).reads
    have b7 := (b1.setCell (p := ⟨w.heap.size + 1, 0, none⟩) (Nat.le_succ _) (.slice none 0 0)).setCell (p := ⟨w.heap.size + 1, 1, none⟩) (Nat.le_succ _) (.slice none 0 0)
    go_wp2
    exact bodyPost_ret (v := .tuple #[.agg #[.slice none 0 0, .slice none 0 0], .bool false]) (by simp [results, Try.results42, go_sem, p0, p1]) rfl ⟨_, _, rfl, OwnCr.none_ _ _, b7⟩
  | true =>
    have HVq := hid (HBV.out.1 rfl)
    have zc := b1.size
    go_wp2_with fail
    refine (CCop.out _ b1).mono ?_
    rintro e w2 ⟨v2, col, rfl, o2, d⟩
    replace x0 := x0.later d
    replace x1 := x1.later d
    replace b1 := b1.trans (d.mono b1.size)
    clear y0 y1
    obtain ⟨y0, y1, -⟩ := id x0.reads
    obtain ⟨Ao, co, Ab, cb, rfl, -, -, -, -, -, -, -⟩ := o2.form
    unfold crV at o2 ⊢
    have HB2 : Hid (w.heap.size + 1 < w2.heap.size) := x1.lt
    replace o2 := o2.base (B' := w.heap.size) zc
    have d := (Below.refl w2.heap.size w2).alloc (Nat.le_refl _) (.cells #[.slice Ao q.ts.length co, .slice Ab q.os.length cb] 26)
    have x6 := Blk2s.new_ w2 26 (.slice Ao q.ts.length co) (.slice Ab q.os.length cb)
    replace o2 := o2.below d
    replace x0 := x0.later d
    replace x1 := x1.later d
    replace b1 := b1.trans (d.mono b1.size)
    clear y0 y1
    obtain ⟨y0, y1, -⟩ := id x0.reads
    go_upto_region 4 with fail
    obtain ⟨w3, hw3⟩ : ∃ x, w2.alloc (.cells #[.slice Ao q.ts.length co, .slice Ab q.os.length cb] 26) = x := ⟨_, rfl⟩
    obtain ⟨g, hg⟩ : ∃ x, w2.heap.size = x := ⟨_, rfl⟩
    rw [hw3] at x0 x1 b1 y0 y1 x6 o2 ⊢
    rw [hg] at x6 HB2 ⊢
    clear hw3 hg d CVal CCop
    go_wp2_with fail
    refine (CI.out _ _ _ _ _).mono ?_
    rintro e w4 ⟨rfl, d⟩
    replace x0 := x0.later d
    replace x1 := x1.later d
    replace b1 := b1.trans (d.mono b1.size)
    clear y0 y1
    obtain ⟨y0, y1, -⟩ := id x0.reads
    replace o2 := o2.below d
    replace x6 := x6.later d
    clear d CI
    cases bi with
    | false =>
      obtain ⟨rfl, rfl⟩ := HX.out.no_ HVq.out fun n hn e => absurd (HBI.out.2 ⟨n, hn, e⟩) (by decide)
      clear HX HVq HBV HBI HB2
      obtain ⟨u0, u1, -⟩ := id x6.reads
      have o9 := o2
      clear o2
      obtain ⟨t0, t1, tf⟩ := id x1.reads
      have tf0 := tf 0
      have tf1 := tf 1
      clear tf
      have o10 := (o9.keptT (by decide) (by decide) (by decide) (by decide) (but_set _ (w.heap.size + 1) 0 (.slice Ao x.ts.length co)) (blk_type x1)).keptT (by decide) (by decide) (by decide) (by decide) (but_set _ (w.heap.size + 1) 1 (.slice Ab x.os.length cb)) (blk_type (x1.set0 _))
      have b9 := (b1.setCell (p := ⟨w.heap.size + 1, 0, none⟩) (Nat.le_succ _) (.slice Ao x.ts.length co)).setCell (p := ⟨w.heap.size + 1, 1, none⟩) (Nat.le_succ _) (.slice Ab x.os.length cb)
      obtain ⟨p0, p1, -⟩ := ((x1.set0 (.slice Ao x.ts.length co)).set1 (.slice Ab x.os.length cb)).reads
      clear x0 x1 o9 b1
      go_wp2
      exact bodyPost_ret (v := .tuple #[.agg #[.slice Ao x.ts.length co, .slice Ab x.os.length cb], .bool false]) (by simp [results, Try.results42, go_sem, p0, p1]) rfl ⟨_, _, rfl, o10, b9⟩
    | true =>
      obtain ⟨n, hn, rfl⟩ := HBI.out.1 rfl
      have k0 : (0 : Int) ≤ (n : Int) := by omega
      have k1 : (n : Int) < (q.ts.length : Int) := by omega
      obtain ⟨t, ad, A', c', A9, c9, ho, rfl, had, g0, g1, g2, -⟩ := (hT.below b1 (Nat.le_refl _)).tx hn
      by_cases hd : t.d = 0
      · obtain ⟨rfl, rfl⟩ := HX.out.yes_ HVq.out hn (by rw [ho]; exact hd)
        have e0 : (t.d != 0) = false := by rw [bne_eq_false_iff_eq]; exact hd
        obtain ⟨gT, rfl, -⟩ := cr_head o2 hn
        obtain ⟨hx1, hx2, hgB, hx3⟩ := cr_dec o2 rfl hn 3
        obtain ⟨cs, fr, hty⟩ := o2.head rfl hn
        have n1 := ty_ne x1 hty (by decide)
        have n6 := ty_ne x6 hty (by decide)
        obtain ⟨u0, u1, -⟩ := id x6.reads
        clear HX HVq HBV HBI HB2 hd o2
        go_upto_region 7 with fail
        have x1' := x1.far (p := ⟨gT, n * 3 + 2, none⟩) n1 (.int .i64 3)
        have x6' := x6.far (p := ⟨gT, n * 3 + 2, none⟩) n6 (.int .i64 3)
        have b1' := b1.setCell (p := ⟨gT, n * 3 + 2, none⟩) hgB (.int .i64 3)
        have ho' : q.ts[n] = t := ho
        clear x1 x6 b1 u0 u1 y0 y1 x0 g0 g1 g2 hx1 hx2
        obtain ⟨W, hW⟩ : ∃ x, w4.setCell ⟨gT, n * 3 + 2, none⟩ (.int .i64 3) = x := ⟨_, rfl⟩
        rw [hW] at x1' x6' b1' hx3 ⊢
        clear hW
        have x1 := x1'
        have b1 := b1'
        obtain ⟨u0, u1, -⟩ := id x6'.reads
        have o9 : OwnCr col W w.heap.size (.agg #[.slice (some ⟨gT, 0, none⟩) q.ts.length co, .slice Ab q.os.length cb]) (lateC q n hn) := hx3
        have x0 := trivial
        clear hx3 x1' b1' x6'
        obtain ⟨t0, t1, tf⟩ := id x1.reads
        have tf0 := tf 0
        have tf1 := tf 1
        clear tf
        have o10 := (o9.keptT (by decide) (by decide) (by decide) (by decide) (but_set _ (w.heap.size + 1) 0 (.slice (some ⟨gT, 0, none⟩) q.ts.length co)) (blk_type x1)).keptT (by decide) (by decide) (by decide) (by decide) (but_set _ (w.heap.size + 1) 1 (.slice Ab q.os.length cb)) (blk_type (x1.set0 _))
        have b9 := (b1.setCell (p := ⟨w.heap.size + 1, 0, none⟩) (Nat.le_succ _) (.slice (some ⟨gT, 0, none⟩) q.ts.length co)).setCell (p := ⟨w.heap.size + 1, 1, none⟩) (Nat.le_succ _) (.slice Ab q.os.length cb)
        obtain ⟨p0, p1, -⟩ := ((x1.set0 (.slice (some ⟨gT, 0, none⟩) q.ts.length co)).set1 (.slice Ab q.os.length cb)).reads
        clear x0 x1 o9 b1
        go_wp2
        exact bodyPost_ret (v := .tuple #[.agg #[.slice (some ⟨gT, 0, none⟩) q.ts.length co, .slice Ab q.os.length cb], .bool true]) (by simp [results, Try.results42, go_sem, p0, p1]) rfl ⟨_, _, rfl, o10, b9⟩
      · obtain ⟨rfl, rfl⟩ := HX.out.no_ HVq.out fun m hm e => by
          have e2 : n = m := by omega
          subst e2
          rw [ho]
          exact hd
        have e0 : (t.d != 0) = true := by rw [bne_iff_ne]; exact hd
        clear HX HVq HBV HBI HB2 hd
        obtain ⟨u0, u1, -⟩ := id x6.reads
        have o9 := o2
        clear o2
        obtain ⟨t0, t1, tf⟩ := id x1.reads
        have tf0 := tf 0
        have tf1 := tf 1
        clear tf
        have o10 := (o9.keptT (by decide) (by decide) (by decide) (by decide) (but_set _ (w.heap.size + 1) 0 (.slice Ao x.ts.length co)) (blk_type x1)).keptT (by decide) (by decide) (by decide) (by decide) (but_set _ (w.heap.size + 1) 1 (.slice Ab x.os.length cb)) (blk_type (x1.set0 _))
        have b9 := (b1.setCell (p := ⟨w.heap.size + 1, 0, none⟩) (Nat.le_succ _) (.slice Ao x.ts.length co)).setCell (p := ⟨w.heap.size + 1, 1, none⟩) (Nat.le_succ _) (.slice Ab x.os.length cb)
        obtain ⟨p0, p1, -⟩ := ((x1.set0 (.slice Ao x.ts.length co)).set1 (.slice Ab x.os.length cb)).reads
        clear x0 x1 o9 b1
        go_wp2
        exact bodyPost_ret (v := .tuple #[.agg #[.slice Ao x.ts.length co, .slice Ab x.os.length cb], .bool false]) (by simp [results, Try.results42, go_sem, p0, p1]) rfl ⟨_, _, rfl, o10, b9⟩
end Go.Proofs.Ytelmeknpmlbplaa
