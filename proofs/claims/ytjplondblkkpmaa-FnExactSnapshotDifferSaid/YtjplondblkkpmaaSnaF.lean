/- The coordinator with the slices $SA and $SB is stored as the answer, with the word $BB. -/
/- Laws on coordinators: a coordinator is boxed. -/
/- On to the world behind D. -/
/- An exact law begins: the argument's box, its size, a copy for the model. -/
/- The program's own copy of the argument is boxed. -/
/- The program's copy is as the argument; the region draws. -/
/- Laws on functions that answer numbers. -/
/- What the boxes hold is read again. -/
/- The coordinator with the slices P4 and P5 is boxed as P6, in block P7, behind it the world P3; ahead of region P1. -/
/- The draw, the program's answer, the model's, and that they are the same: behind it w5, all facts on it by way of dx. -/
/-
  Walks: the number of first transactions up to a transaction, on both sides.
-/
import Derived.Test.YtjplondblkkpmaaG5X
import Derived.Test.YtjplondblkkpmaaRepI
import Derived.Test.YtjplondblkkpmaaValK
namespace Go.Proofs.Ytjplondblkkpmaa
open Go.RowKit Wo Pu Rf Co
set_option linter.unusedVariables false
set_option linter.unusedSimpArgs false

set_option maxHeartbeats 4000000 in
theorem implSnapshotFirst_is (z : Int) (v : Value) (q : Crd) (t : Int) (w : World) (h : Crdd w w.heap.size v q) (hf : FitC q) (hz : FirstO q t z) :
    Calls Try.prog 17 #[v, .int .i64 t] w (Ret (.int .i64 z) w) := by
  obtain ⟨bv, hbv⟩ := bool_ofP' (CV q)
  have HZ := hid hz
  have HBV := hid hbv
  have CVal : Hid (∀ y, Below w.heap.size w y → Calls Try.prog 35 #[v] y (Ret (.bool bv) y)) := fun y hy => implCoordinatorValid_is bv v q y (h.on hy hy.size) hf hbv
  have hf2 := hf.os
  clear hz hbv
  obtain ⟨A, c, A2, c2, rfl, -, hc, hO, hc2⟩ := h
  clear hf
  unfold crV at *
  have b1 := (Below.refl w.heap.size w).alloc (Nat.le_refl _) (.cells #[.slice A q.ts.length c, .slice A2 q.os.length c2] 26)
  have x0 := Blk2s.new_ w 26 (.slice A q.ts.length c) (.slice A2 q.os.length c2)
  go_enter Try.func17, Try.ntmps17
  go_upto_region 1 with fail
  obtain ⟨w1, hw1⟩ : ∃ x, w.alloc (.cells #[.slice A q.ts.length c, .slice A2 q.os.length c2] 26) = x := ⟨_, rfl⟩
  rw [hw1] at b1 x0 ⊢
  clear hw1
  obtain ⟨y0, y1, -⟩ := id x0.reads
  go_wp2_with fail
  refine (CVal.out _ b1).mono ?_
  rintro e w2 ⟨rfl, d⟩
  replace b1 := b1.trans (d.mono b1.size)
  replace x0 := x0.later d
  clear y0 y1 d CVal
  obtain ⟨y0, y1, -⟩ := id x0.reads
  cases bv with
  | false =>
    have F : Hid (z = -1) := HZ.out.no fun e => by have := HBV.out.2 e.1; cases this
    clear HZ HBV
    go_wp2
    go_ret
    rw [F.out]
    exact .mk_ b1
  | true =>
    have hv := hid (HBV.out.1 rfl)
    have CX := hid (slIndex_is A2 c2 q.os t w2 w.heap.size (hO.below b1 (Nat.le_refl _)) (by omega))
    clear HBV
    go_wp2_with fail
    refine CX.out.mono ?_
    rintro e w3 ⟨i, rfl, hi, rfl⟩
    clear CX
    rcases hi with ⟨k, hk, rfl, e⟩ | ⟨rfl, hn⟩
    · have F : Hid (z = (k : Int) + 1) := HZ.out.here hv.out hk e
      have e0 : ((k : Int) == -1) = false := by rw [beq_eq_false_iff_ne]; omega
      have e1 : IntKind.i64.wrap ((k : Int) + 1) = (k : Int) + 1 := IntWalk.i64_in _ (by omega)
      clear HZ e
      go_wp2
      go_ret
      rw [F.out]
      exact .mk_ b1
    · have F : Hid (z = -1) := HZ.out.no fun e => hn e.2
      clear HZ hn
      go_wp2
      go_ret
      rw [F.out]
      exact .mk_ b1
set_option maxHeartbeats 4000000 in
theorem specSnapshotFirst_is (z : Int) (v : Value) (q : Crd) (t : Int) (w : World) (h : Crdd w w.heap.size v q) (hf : FitC q) (hz : FirstO q t z) :
    Calls Try.prog 18 #[v, .int .i64 t] w (Ret (.int .i64 z) w) := by
  obtain ⟨bv, hbv⟩ := bool_ofP' (CV q)
  have HZ := hid hz
  have HBV := hid hbv
  have CVal : Hid (∀ y, Below w.heap.size w y → Calls Try.prog 19 #[v] y (Ret (.bool bv) y)) := fun y hy => specCoordinatorValid_is bv v q y (h.on hy hy.size) hf hbv
  have hf2 := hf.os
  clear hz hbv
  obtain ⟨A, c, A2, c2, rfl, -, hc, hO, hc2⟩ := h
  clear hf
  unfold crV at *
  have b1 := (Below.refl w.heap.size w).alloc (Nat.le_refl _) (.cells #[.slice A q.ts.length c, .slice A2 q.os.length c2] 26)
  have x0 := Blk2s.new_ w 26 (.slice A q.ts.length c) (.slice A2 q.os.length c2)
  go_enter Try.func18, Try.ntmps18
  go_upto_region 1 with fail
  obtain ⟨w1, hw1⟩ : ∃ x, w.alloc (.cells #[.slice A q.ts.length c, .slice A2 q.os.length c2] 26) = x := ⟨_, rfl⟩
  rw [hw1] at b1 x0 ⊢
  clear hw1
  obtain ⟨y0, y1, -⟩ := id x0.reads
  go_wp2_with fail
  go_loopw [5] (fun i wr => ∃ k : Nat, k ≤ q.os.length ∧ i = .int .i64 k ∧ Hid (NaTo q.os t k) ∧ Blk2s wr w.heap.size 26 (.slice A q.ts.length c) (.slice A2 q.os.length c2) ∧ Below w.heap.size w wr) (fun i _ => q.os.length - (intOf i).toNat)
  case atStart => exact ⟨0, Nat.zero_le _, rfl, .zero _ _, x0, b1⟩
  case round =>
    clear x0 b1 y0 y1
    obtain ⟨k, hk, rfl, H, x0, hb⟩ := hrel
    have hz := hb.size
    obtain ⟨y0, y1, -⟩ := id x0.reads
    by_cases hlt : k < q.os.length
    · have k0 : (0 : Int) ≤ (k : Int) := by omega
      have k1 : (k : Int) < (q.os.length : Int) := by omega
      have CV1 := hid (CVal.out _ hb)
      go_wp2_with fail
      refine CV1.out.mono ?_
      rintro e w2 ⟨rfl, d⟩
      replace hb := hb.trans (d.mono hz)
      replace x0 := x0.later d
      clear y0 y1 d CV1
      obtain ⟨y0, y1, -⟩ := id x0.reads
      cases bv with
      | false =>
        have F : Hid (z = -1) := HZ.out.no fun e => by have := HBV.out.2 e.1; cases this
        clear HZ HBV H CVal
        go_wp2
        go_ret
        rw [F.out]
        exact .mk_ hb
      | true =>
        obtain ⟨ad, rfl, hbl, hcell⟩ := (hO.below hb (Nat.le_refl _)).int_ hlt
        obtain ⟨y, hy⟩ : ∃ y, q.os[k] = y := ⟨_, rfl⟩
        rw [hy] at hcell
        by_cases hyt : y = t
        · have e0 : (y == t) = true := beq_iff_eq.2 hyt
          have F : Hid (z = (k : Int) + 1) := HZ.out.here (HBV.out.1 rfl) hlt (hy.trans hyt)
          have e1 : IntKind.i64.wrap ((k : Int) + 1) = (k : Int) + 1 := IntWalk.i64_in _ (by omega)
          clear HZ HBV H CVal hyt hy
          go_wp2
          go_ret
          rw [F.out]
          exact .mk_ hb
        · have e0 : (y == t) = false := beq_eq_false_iff_ne.2 hyt
          have HN := hid (H.out.next hlt (by rw [hy]; exact hyt))
          clear H hyt hy
          go_wp2
          go_roundw
          case rel => exact ⟨k + 1, by omega, by go_num, HN, x0, hb⟩
          case measure => simp [intOf]; omega
    · have hk' : k = q.os.length := by omega
      subst hk'
      have F : Hid (z = -1) := HZ.out.no fun e => H.out.all e.2
      clear HZ HBV H CVal
      go_wp2
      go_ret
      rw [F.out]
      exact .mk_ hb
end Go.Proofs.Ytjplondblkkpmaa
