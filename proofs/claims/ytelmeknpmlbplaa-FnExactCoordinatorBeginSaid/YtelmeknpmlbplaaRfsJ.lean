/- The coordinator with the slices $SA and $SB is stored as the answer, with the word $BB. -/
/- Laws on coordinators: a coordinator is boxed. -/
/-
  Walk: the refs of a shard behind the first committed transactions, by the program.
-/
import Derived.Test.YtelmeknpmlbplaaUpdF
import Derived.Test.YtelmeknpmlbplaaG3D
import Derived.Test.YtelmeknpmlbplaaValK
import Derived.Test.YtelmeknpmlbplaaG3C
namespace Go.Proofs.Ytelmeknpmlbplaa
open Go.RowKit Wo Pu Rf Co

theorem ints_oneA (zs : List Int) : ∀ v ∈ (ints zs).toArray.toList, v.oneCell' = true := fun v hv => by
  simp only [ints] at hv
  obtain ⟨z, -, rfl⟩ := List.mem_map.1 hv
  rfl
set_option linter.unusedSimpArgs false in
set_option linter.unusedVariables false in
set_option maxRecDepth 100000 in
set_option maxHeartbeats 16000000 in
theorem implCoordinatorRefs_is (zs : List Int) (v : Value) (q : Crd) (s m : Int) (w : World) (h : Crdd w w.heap.size v q) (hf : FitC q) (hz : RefsC q s m zs) :
    Calls Try.prog 15 #[v, .int .i64 s, .int .i64 m] w (IntsOf zs w) := by
  obtain ⟨bv, hbv⟩ := bool_ofP' (CV q)
  obtain ⟨bs, hbs⟩ := bool_ofP' (0 ≤ s ∧ s ≤ 2)
  have HZ := hid hz
  have HF := hid hf
  have HBV := hid hbv
  have HBS := hid hbs
  have CVal : Hid (∀ y, Below w.heap.size w y → Calls Try.prog 33 #[v] y (Ret (.bool bv) y)) := fun y hy => implCoordinatorValid_is bv v q y (h.on hy hy.size) hf hbv
  have C1 : Hid (∀ y, Calls Try.prog 49 #[.int .i64 s] y (Same (.bool bs) y)) := fun y => shardNumberValid_is bs s y hbs
  have hf1 := hf.ts
  have hf2 := hf.os
  clear hz hbv hbs
  obtain ⟨A, c, A2, c2, rfl, hT, hc, hO, hc2⟩ := h
  clear hf
  unfold crV at *
  have b1 := (Below.refl w.heap.size w).alloc (Nat.le_refl _) (.cells #[.slice A q.ts.length c, .slice A2 q.os.length c2] 26)
  have x0 := Blk2s.new_ w 26 (.slice A q.ts.length c) (.slice A2 q.os.length c2)
  go_enter Try.func15, Try.ntmps15
  go_upto_region 1 with fail
  obtain ⟨w1, hw1⟩ : ∃ x, w.alloc (.cells #[.slice A q.ts.length c, .slice A2 q.os.length c2] 26) = x := ⟨_, rfl⟩
  rw [hw1] at b1 x0 ⊢
  clear hw1
  obtain ⟨y0, y1, -⟩ := id x0.reads
  go_wp2_with fail
  refine (CVal.out _ b1).mono ?_
  rintro e w2 ⟨rfl, d⟩
  replace b1 := b1.trans (d.mono b1.size)
  replace x0 := x0.later d
  clear y0 y1 d CVal
  obtain ⟨y0, y1, -⟩ := id x0.reads
  cases bv with
  | false =>
    have HNo : Hid (¬ (CV q ∧ (0 ≤ s ∧ s ≤ 2) ∧ (0 ≤ m ∧ m ≤ (q.os.length : Int)))) := fun e => by have := HBV.out.2 e.1; cases this
    clear C1 HBV HBS
    have ez : zs = [] := HZ.out.no_ HNo.out
    subst ez
    have o9 := OwnI.nil_new (w := w2) (B := w.heap.size) b1.size
    have b9 := b1.alloc b1.size (.cells #[] 3)
    go_wp2
    go_ret
    exact .mk_ o9 b9
  | true =>
    have HVq := hid (HBV.out.1 rfl)
    go_wp2_with fail
    refine (C1.out _).mono ?_
    rintro e w3 ⟨rfl, rfl⟩
    cases bs with
    | false =>
      have HNo : Hid (¬ (CV q ∧ (0 ≤ s ∧ s ≤ 2) ∧ (0 ≤ m ∧ m ≤ (q.os.length : Int)))) := fun e => by have := HBS.out.2 e.2.1; cases this
      clear C1 HBV HBS
      have ez : zs = [] := HZ.out.no_ HNo.out
      subst ez
      have o9 := OwnI.nil_new (w := w2) (B := w.heap.size) b1.size
      have b9 := b1.alloc b1.size (.cells #[] 3)
      go_wp2
      go_ret
      exact .mk_ o9 b9
    | true =>
      have HBs := hid (HBS.out.1 rfl)
      by_cases hm0 : m < 0
      · have e0 : decide (m < 0) = true := decide_eq_true hm0
        have HNo : Hid (¬ (CV q ∧ (0 ≤ s ∧ s ≤ 2) ∧ (0 ≤ m ∧ m ≤ (q.os.length : Int)))) := fun e => by have := e.2.2; omega
        clear C1 HBV HBS hm0
        have ez : zs = [] := HZ.out.no_ HNo.out
        subst ez
        have o9 := OwnI.nil_new (w := w2) (B := w.heap.size) b1.size
        have b9 := b1.alloc b1.size (.cells #[] 3)
        go_wp2
        go_ret
        exact .mk_ o9 b9
      · obtain ⟨k, rfl⟩ := Int.eq_ofNat_of_zero_le (show 0 ≤ m by omega)
        have e0 : decide ((k : Int) < 0) = false := decide_eq_false (by omega)
        by_cases hmk : q.os.length < k
        · have e1 : decide ((q.os.length : Int) < (k : Int)) = true := decide_eq_true (by omega)
          have e2 : decide (q.os.length < k) = true := decide_eq_true hmk
          have HNo : Hid (¬ (CV q ∧ (0 ≤ s ∧ s ≤ 2) ∧ (0 ≤ (k : Int) ∧ (k : Int) ≤ (q.os.length : Int)))) := fun e => by have := e.2.2; omega
          clear C1 HBV HBS hm0 hmk
          have ez : zs = [] := HZ.out.no_ HNo.out
          subst ez
          have o9 := OwnI.nil_new (w := w2) (B := w.heap.size) b1.size
          have b9 := b1.alloc b1.size (.cells #[] 3)
          go_wp2
          go_ret
          exact .mk_ o9 b9
        · have e1 : decide ((q.os.length : Int) < (k : Int)) = false := decide_eq_false (by omega)
          have e2 : decide (q.os.length < k) = false := decide_eq_false hmk
          have hk : k ≤ q.os.length := by omega
          have ez : zs = refsC q s k := by
            rcases HZ.out with ⟨k', e, -, -, -, e2⟩ | ⟨hn, -⟩
            · have e3 : k' = k := by omega
              rw [e2, e3]
            · exact absurd ⟨HVq.out, HBs.out, by omega, by omega⟩ hn
          subst ez
          clear C1 HBV HBS hm0 hmk HZ
          go_wp2_with fail
          refine (newRefs_is _).mono ?_
          rintro e w3 ⟨rfl, d⟩
          have b3 := b1.trans (d.mono b1.size)
          have x3 := x0.later d
          have hs3 : (w3.alloc (.cells (ints [0, 0, 0, 0]).toArray 78)).heap[w3.heap.size]? = some (.cells (ints [0, 0, 0, 0]).toArray 78 (0, 0)) := heap_alloc_new w3 _
          have d4 := (Below.refl w3.heap.size w3).alloc (Nat.le_refl _) (.cells (ints [0, 0, 0, 0]).toArray 78)
          have d5 := below_setRow d4 (Nat.le_refl _) (ints [-1, -1, -1, -1]).toArray
          have x5 := x3.later d5
          have b5 := b3.trans (d5.mono b3.size)
          have a5 : Arr4 ((w3.alloc (.cells (ints [0, 0, 0, 0]).toArray 78)).setRow w3.heap.size (ints [-1, -1, -1, -1]).toArray) w3.heap.size 78 (ints [-1, -1, -1, -1]) := setRow_heap _ _ _ _ _ _ hs3
          have hg3 : w.heap.size < w3.heap.size := x3.lt
          clear y0 y1 d d4 d5 x0 b1 x3 b3
          go_upto_region 4 with (refine wpList_store_rowTo rfl 78 _ _ rfl rfl w3.heap.size (ints [-1, -1, -1, -1]).toArray rfl rfl 78 (ints [0, 0, 0, 0]).toArray hs3 info_ra rfl (ints_ones _) ?_)
          clear hs3
          obtain ⟨w5, hw5⟩ : ∃ x, (w3.alloc (.cells (ints [0, 0, 0, 0]).toArray 78)).setRow w3.heap.size (ints [-1, -1, -1, -1]).toArray = x := ⟨_, rfl⟩
          obtain ⟨g, hgg⟩ : ∃ x, w3.heap.size = x := ⟨_, rfl⟩
          have hw5' : (w3.alloc (.cells #[.int .i64 0, .int .i64 0, .int .i64 0, .int .i64 0] 78)).setRow w3.heap.size (ints [-1, -1, -1, -1]).toArray = w5 := hw5
          try rw [hw5']
          try rw [hw5]
          rw [hw5] at a5 x5 b5
          rw [hgg] at a5 hg3
          try rw [hgg]
          clear hw5 hw5' hgg
          obtain ⟨y0, y1, -⟩ := id x5.reads
          have i0 : (0 : Int) ≤ (k : Int) := by omega
          have i1 : (k : Int) ≤ (c2 : Int) := by omega
          go_wp2_with fail
          go_loopw [38] (fun i wr => ∃ j : Nat, j ≤ k ∧ i = .int .i64 j ∧ Arr4 wr g 78 (ints (refsC q s j)) ∧ Blk2s wr w.heap.size 26 (.slice A q.ts.length c) (.slice A2 q.os.length c2) ∧ Below w.heap.size w wr) (fun i _ => k - (intOf i).toNat)
          case atStart => exact ⟨0, Nat.zero_le _, rfl, a5, x5, b5⟩
          case round =>
            clear a5 x5 b5 y0 y1
            obtain ⟨j, hj, rfl, a, x0, hb⟩ := hrel
            have hz := hb.size
            obtain ⟨y0, y1, -⟩ := id x0.reads
            by_cases hlt : j < k
            · have hko : j < q.os.length := by omega
              obtain ⟨n, hn, eo, -⟩ := HVq.out.order.2 _ (List.getElem_mem hko)
              obtain ⟨ad2, rfl, hbl2, hc9⟩ := (hO.below hb (Nat.le_refl _)).int_ hko
              rw [eo] at hc9
              obtain ⟨t, ad, A', c', A9, c9, ho, rfl, had, g0, g1, g2, -, -, g5, -⟩ := (hT.below hb (Nat.le_refl _)).tx hn
              have htv := HVq.out.txs t (by rw [← ho]; exact List.getElem_mem hn)
              have hps := (HF.out.ps t (by rw [← ho]; exact List.getElem_mem hn)).1
              have q0 : (0 : Int) ≤ (j : Int) := by omega
              have q1 : (j : Int) < (k : Int) := by omega
              have q2 : (0 : Int) ≤ (n : Int) := by omega
              have q3 : (n : Int) < (q.ts.length : Int) := by omega
              have HSU : Hid (refsC q s (j + 1) = setR (refsC q s j) (usAt t.ps s)) := by show _ = _; rw [refsC_succ hko hn eo, ho]
              have H4 := hid (usAt_valid (s := s) htv.parts)
              have hul : (usAt t.ps s).length ≤ 4 := by
                unfold usAt
                rcases hf : t.ps.find? (fun p => p.s == s) with _ | p
                · rw [hf]; simp
                · rw [hf]; exact (pv_few htv.parts).2 p (List.mem_of_find?_eq_some hf)
              have CU := updatesFor_is w.heap.size A' c' A9 c9 t s wr hz g5 hps
              obtain ⟨us, hus⟩ : ∃ us, usAt t.ps s = us := ⟨_, rfl⟩
              rw [hus] at HSU H4 hul CU
              clear htv hps g5 ho eo hus
              go_wp2_with fail
              refine CU.mono ?_
              rintro e w6 ⟨Au, cu, rfl, ru, d⟩
              have a6 := a.below d a.lt
              have x6 := x0.later d
              have hb6 := hb.trans (d.mono hz)
              have HRU : Hid (∀ y, Below g w6 y → Row y w.heap.size Au (upsV us)) := fun y hy => ru.below hy (Nat.le_of_lt hg3)
              have hl4 := refsC_len q s j
              obtain ⟨rs, hrs⟩ : ∃ rs, refsC q s j = rs := ⟨_, rfl⟩
              rw [hrs] at a6 HSU hl4
              clear CU ru g0 g1 g2 hc9 y0 y1 d a x0 hb hz hrs
              go_wp2_with fail
              go_loopw [50] (fun i wx => ∃ l : Nat, l ≤ us.length ∧ i = .int .i64 l ∧ Arr4 wx g 78 (ints (setR rs (us.take l))) ∧ Blk2s wx w.heap.size 26 (.slice (some ad) q.ts.length c) (.slice (some ad2) q.os.length c2) ∧ Below w.heap.size w wx ∧ Below g w6 wx ∧ w6.heap.size ≤ wx.heap.size) (fun i _ => us.length - (intOf i).toNat)
              case atStart => exact ⟨0, Nat.zero_le _, rfl, a6, x6, hb6, Below.refl _ _, Nat.le_refl _⟩
              case round =>
                clear a6 x6 hb6
                obtain ⟨l, hl, rfl, ax, x7, hb7, hbg, hz7⟩ := hrel
                by_cases hlu : l < us.length
                · obtain ⟨o, ad3, ho3, rfl, ha3, p0, p1, p2⟩ := (HRU.out _ hbg).up_ hlu
                  have h4 := H4.out o (by rw [← ho3]; exact List.getElem_mem hlu)
                  obtain ⟨r, hr⟩ := Int.eq_ofNat_of_zero_le h4.1
                  have i5 : (0 : Int) ≤ (l : Int) := by omega
                  have i6 : (l : Int) < (us.length : Int) := by omega
                  have i7 : (0 : Int) ≤ (r : Int) := by omega
                  have i8 : (r : Int) < 4 := by omega
                  rw [hr] at p0
                  have al := (Below.refl wr.heap.size wr).alloc (Nat.le_refl _) (.cells #[.int .i64 (r : Int), .int .i64 o.o, .int .i64 o.n] 38)
                  obtain ⟨z0, z1, z2, -⟩ := (Blk3s.new_ wr 38 (.int .i64 (r : Int)) (.int .i64 o.o) (.int .i64 o.n)).reads
                  have a8 := ax.below al ax.lt
                  have hsl : (setR rs (us.take l)).length = 4 := by rw [setR_length]; exact hl4
                  obtain ⟨vv, v0⟩ : ∃ v, (wr.alloc (.cells #[.int .i64 (r : Int), .int .i64 o.o, .int .i64 o.n] 38)).cell? ⟨g, r, none⟩ = some v := ⟨_, a8.read (i := r) (by rw [ints_length, hsl]; omega)⟩
                  have v1 := a8.frozen r
                  have a9 := a8.set r (.int .i64 o.n)
                  have e9 : (ints (setR rs (us.take l))).set r (.int .i64 o.n) = ints (setR rs (us.take (l + 1))) := by
                    rw [List.take_succ_eq_append_getElem hlu, setR_snoc, ho3, hr]
                    unfold ints
                    rw [List.map_set]
                    rfl
                  rw [e9] at a9
                  have hzw := hb7.size
                  have x9 := (x7.later al).far (p := ⟨g, r, none⟩) (by show w.heap.size ≠ g; omega) (.int .i64 o.n)
                  have b9 := (hb7.trans (al.mono hzw)).setCell (p := ⟨g, r, none⟩) (by show w.heap.size ≤ g; omega) (.int .i64 o.n)
                  have g9 := (hbg.trans (al.mono (by have := ax.lt; omega))).setCell (p := ⟨g, r, none⟩) (Nat.le_refl _) (.int .i64 o.n)
                  have s9 : w6.heap.size ≤ ((wr.alloc (.cells #[.int .i64 (r : Int), .int .i64 o.o, .int .i64 o.n] 38)).setCell ⟨g, r, none⟩ (.int .i64 o.n)).heap.size := g9.size
                  clear ax x7 hb7 hbg a8 e9 ho3 h4 hr hsl
                  go_wp2
                  go_roundw
                  case rel => exact ⟨l + 1, by omega, by go_num, a9, x9, b9, g9, s9⟩
                  case measure => simp [intOf]; omega
                · have hl' : l = us.length := by omega
                  subst hl'
                  rw [List.take_length, ← HSU.out] at ax
                  go_wp2
                  go_roundw
                  case rel => exact ⟨j + 1, by omega, by go_num, ax, x7, hb7⟩
                  case measure => simp [intOf]; omega
            · have hj' : j = k := by omega
              subst hj'
              have hl4 := refsC_len q s j
              have CN := copyNumbers_of (some ⟨g, 0, none⟩) 4 4 (refsC q s j) wr a.row hl4 (by omega)
              obtain ⟨zs, hzs⟩ : ∃ zs, refsC q s j = zs := ⟨_, rfl⟩
              rw [hzs] at CN
              have HZS := hid hzs
              clear hl4 hzs
              go_wp2_with fail
              refine CN.mono ?_
              rintro e w6 ⟨Aw, cw, rfl, ow, d⟩
              have o9 := rowB_base ow hz
              have b9 := hb.trans (d.mono hz)
              clear ow d CN
              go_wp2
              go_ret
              rw [HZS.out]
              exact .mk_ o9 b9
end Go.Proofs.Ytelmeknpmlbplaa
