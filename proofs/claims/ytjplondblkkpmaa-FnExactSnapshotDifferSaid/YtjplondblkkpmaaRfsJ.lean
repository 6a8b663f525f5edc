/- The coordinator with the slices $SA and $SB is stored as the answer, with the word $BB. -/
/- Laws on coordinators: a coordinator is boxed. -/
/- On to the world behind D. -/
/- An exact law begins: the argument's box, its size, a copy for the model. -/
/- The program's own copy of the argument is boxed. -/
/- The program's copy is as the argument; the region draws. -/
/- Laws on functions that answer numbers. -/
/- What the boxes hold is read again. -/
/- The coordinator with the slices P4 and P5 is boxed as P6, in block P7, behind it the world P3; ahead of region P1. -/
/- The draw, the program's answer, the model's, and that they are the same: behind it w5, all facts on it by way of dx. -/
/-
  Walk: the refs of a shard behind the first committed transactions, by the program.
-/
import Derived.Test.YtjplondblkkpmaaRfsA
namespace Go.Proofs.Ytjplondblkkpmaa
open Go.RowKit Wo Pu Rf Co

set_option linter.unusedSimpArgs false in
set_option linter.unusedVariables false in
set_option maxRecDepth 100000 in
set_option maxHeartbeats 16000000 in
theorem implCoordinatorRefs_is (zs : List Int) (v : Value) (q : Crd) (s m : Int) (w : World) (h : Crdd w w.heap.size v q) (hf : FitC q) (hz : RefsC q s m zs) :
    Calls Try.prog 12 #[v, .int .i64 s, .int .i64 m] w (IntsOf zs w) := by
  obtain ⟨bv, hbv⟩ := bool_ofP' (CV q)
  obtain ⟨bs, hbs⟩ := bool_ofP' (0 ≤ s ∧ s ≤ 2)
  obtain ⟨bo, hbo⟩ := bool_ofP' (0 ≤ m ∧ m ≤ (q.os.length : Int))
  have HZ := hid hz
  have HBV := hid hbv
  have HBS := hid hbs
  have HBO := hid hbo
  have CVal : Hid (∀ y, Below w.heap.size w y → Calls Try.prog 35 #[v] y (Ret (.bool bv) y)) := fun y hy => implCoordinatorValid_is bv v q y (h.on hy hy.size) hf hbv
  have CR : Hid (∀ y (k : Nat), Below w.heap.size w y → CV q → k ≤ q.os.length → Calls Try.prog 38 #[v, .int .i64 s, .int .i64 k] y (RefsA (refsC q s k) y)) := fun y k hy hv hk => refsAfter_is v q s k y (h.on hy hy.size) hf hv hk
  have C1 : Hid (∀ y, Calls Try.prog 36 #[.int .i64 s] y (Same (.bool bs) y)) := fun y => shardNumberValid_is bs s y hbs
  clear hz hbv hbs
  obtain ⟨A, c, A2, c2, rfl, -, hc, -, hc2⟩ := h
  have C2 : Hid (∀ y, Calls Try.prog 37 #[.agg #[.slice A q.ts.length c, .slice A2 q.os.length c2], .int .i64 m] y (Ret (.bool bo) y)) := fun y => ordered_is bo _ _ _ _ _ _ m y hbo
  clear hf hbo
  unfold crV at *
  have b1 := (Below.refl w.heap.size w).alloc (Nat.le_refl _) (.cells #[.slice A q.ts.length c, .slice A2 q.os.length c2] 26)
  have x0 := Blk2s.new_ w 26 (.slice A q.ts.length c) (.slice A2 q.os.length c2)
  go_enter Try.func12, Try.ntmps12
  go_upto_region 1 with fail
  obtain ⟨w1, hw1⟩ : ∃ x, w.alloc (.cells #[.slice A q.ts.length c, .slice A2 q.os.length c2] 26) = x := ⟨_, rfl⟩
  rw [hw1] at b1 x0 ⊢
  clear hw1
  obtain ⟨y0, y1, -⟩ := id x0.reads
  go_wp2_with fail
  refine (CVal.out _ b1).mono ?_
  rintro e w2 ⟨rfl, d⟩
  replace b1 := b1.trans (d.mono b1.size)
  replace x0 := x0.later d
  clear y0 y1 d CVal
  obtain ⟨y0, y1, -⟩ := id x0.reads
  cases bv with
  | false =>
    have HNo : Hid (¬ (CV q ∧ (0 ≤ s ∧ s ≤ 2) ∧ (0 ≤ m ∧ m ≤ (q.os.length : Int)))) := fun e => by have := HBV.out.2 e.1; cases this
    clear C1 C2 CR HBV HBS HBO
    have ez : zs = [] := HZ.out.no_ HNo.out
    subst ez
    have o9 := OwnI.nil_new (w := w2) (B := w.heap.size) b1.size
    have b9 := b1.alloc b1.size (.cells #[] 3)
    go_wp2
    go_ret
    exact .mk_ o9 b9
  | true =>
    have HVq := hid (HBV.out.1 rfl)
    go_wp2_with fail
    refine (C1.out _).mono ?_
    rintro e w3 ⟨rfl, rfl⟩
    cases bs with
    | false =>
      have HNo : Hid (¬ (CV q ∧ (0 ≤ s ∧ s ≤ 2) ∧ (0 ≤ m ∧ m ≤ (q.os.length : Int)))) := fun e => by have := HBS.out.2 e.2.1; cases this
      clear C1 C2 CR HBV HBS HBO
      have ez : zs = [] := HZ.out.no_ HNo.out
      subst ez
      have o9 := OwnI.nil_new (w := w2) (B := w.heap.size) b1.size
      have b9 := b1.alloc b1.size (.cells #[] 3)
      go_wp2
      go_ret
      exact .mk_ o9 b9
    | true =>
      have HBs := hid (HBS.out.1 rfl)
      go_wp2_with fail
      refine (C2.out _).mono ?_
      rintro e w2 ⟨rfl, d⟩
      replace b1 := b1.trans (d.mono b1.size)
      replace x0 := x0.later d
      clear y0 y1 d C2
      obtain ⟨y0, y1, -⟩ := id x0.reads
      cases bo with
      | false =>
        have HNo : Hid (¬ (CV q ∧ (0 ≤ s ∧ s ≤ 2) ∧ (0 ≤ m ∧ m ≤ (q.os.length : Int)))) := fun e => by have := HBO.out.2 e.2.2; cases this
        clear C1 CR HBV HBS HBO
        have ez : zs = [] := HZ.out.no_ HNo.out
        subst ez
        have o9 := OwnI.nil_new (w := w2) (B := w.heap.size) b1.size
        have b9 := b1.alloc b1.size (.cells #[] 3)
        go_wp2
        go_ret
        exact .mk_ o9 b9
      | true =>
        have hm := HBO.out.1 rfl
        obtain ⟨k, rfl⟩ := Int.eq_ofNat_of_zero_le hm.1
        have hk : k ≤ q.os.length := by omega
        have ez : zs = refsC q s k := by
          rcases HZ.out with ⟨k', e, -, -, -, e2⟩ | ⟨hn, -⟩
          · have e3 : k' = k := by omega
            rw [e2, e3]
          · exact absurd ⟨HVq.out, HBs.out, hm⟩ hn
        subst ez
        have CX := hid (CR.out w2 k b1 HVq.out hk)
        have hl4 := refsC_len q s k
        obtain ⟨rs, hrs⟩ : ∃ rs, refsC q s k = rs := ⟨_, rfl⟩
        rw [hrs] at CX hl4
        have HR := hid hrs
        clear C1 CR HBV HBS HBO HZ hrs hm
        go_wp2_with fail
        refine CX.out.mono ?_
        rintro e w5 ⟨rfl, d⟩
        have HI := hid (ra_info hl4)
        have HSZ := hid (ra_size hl4)
        have hs5 : (w5.alloc (.cells (ints [0, 0, 0, 0]).toArray 61)).heap[w5.heap.size]? = some (.cells (ints [0, 0, 0, 0]).toArray 61 (0, 0)) := heap_alloc_new w5 _
        have d4 := (Below.refl w5.heap.size w5).alloc (Nat.le_refl _) (.cells (ints [0, 0, 0, 0]).toArray 61)
        have d5 := below_setRow d4 (Nat.le_refl _) (ints rs).toArray
        have b5 := (b1.trans (d.mono b1.size)).trans (d5.mono (Nat.le_trans b1.size d.size))
        have a5 : Arr4 ((w5.alloc (.cells (ints [0, 0, 0, 0]).toArray 61)).setRow w5.heap.size (ints rs).toArray) w5.heap.size 61 (ints rs) := setRow_heap _ _ _ _ _ _ hs5
        clear y0 y1 d d4 d5 x0 CX
        go_upto_region 4 with (refine wpList_store_rowTo rfl 61 _ _ rfl rfl w5.heap.size (ints rs).toArray rfl rfl 61 (ints [0, 0, 0, 0]).toArray hs5 HI.out HSZ.out.symm (ints_ones _) ?_)
        clear hs5
        obtain ⟨w6, hw6⟩ : ∃ x, (w5.alloc (.cells (ints [0, 0, 0, 0]).toArray 61)).setRow w5.heap.size (ints rs).toArray = x := ⟨_, rfl⟩
        obtain ⟨g, hgg⟩ : ∃ x, w5.heap.size = x := ⟨_, rfl⟩
        have hw6' : (w5.alloc (.cells #[.int .i64 0, .int .i64 0, .int .i64 0, .int .i64 0] 61)).setRow w5.heap.size (ints rs).toArray = w6 := hw6
        try rw [hw6']
        try rw [hw6]
        rw [hw6] at a5 b5
        rw [hgg] at a5
        try rw [hgg]
        clear hw6 hw6' hgg
        have CN := hid (copyNumbers_of (some ⟨g, 0, none⟩) 4 4 rs w6 a5.row hl4 (by omega))
        have HL4 := hid hl4
        have hz := b5.size
        clear hl4
        go_wp2_with fail
        refine CN.out.mono ?_
        rintro e w7 ⟨Aw, cw, rfl, ow, d⟩
        have o9 := rowB_base ow hz
        have b9 := b5.trans (d.mono hz)
        clear ow d CN
        go_wp2
        go_ret
        rw [HR.out]
        exact .mk_ o9 b9
end Go.Proofs.Ytjplondblkkpmaa
