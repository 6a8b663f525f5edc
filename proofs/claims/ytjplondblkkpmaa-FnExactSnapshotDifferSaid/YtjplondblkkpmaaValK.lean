/- The coordinator with the slices $SA and $SB is stored as the answer, with the word $BB. -/
/- Laws on coordinators: a coordinator is boxed. -/
/- On to the world behind D. -/
/- An exact law begins: the argument's box, its size, a copy for the model. -/
/- The program's own copy of the argument is boxed. -/
/- The program's copy is as the argument; the region draws. -/
/- Laws on functions that answer numbers. -/
/- What the boxes hold is read again. -/
/- The coordinator with the slices P4 and P5 is boxed as P6, in block P7, behind it the world P3; ahead of region P1. -/
/- The draw, the program's answer, the model's, and that they are the same: behind it w5, all facts on it by way of dx. -/
/-
  Walk: which coordinators are valid, by the program.
-/
import Derived.Test.YtjplondblkkpmaaValJ
namespace Go.Proofs.Ytjplondblkkpmaa
open Go.RowKit Wo Pu Rf Co

set_option linter.unusedVariables false in
def VTo (q : Crd) (k : Nat) : Prop := ∀ j (h : j < q.ts.length), j < k → TxV q.ts[j]
set_option linter.unusedVariables false in
set_option linter.unusedSimpArgs false in
theorem VTo.zero (q : Crd) : VTo q 0 := fun _ _ h => absurd h (Nat.not_lt_zero _)
set_option linter.unusedVariables false in
set_option linter.unusedSimpArgs false in
theorem VTo.next {q : Crd} {k : Nat} (h : VTo q k) (hk : k < q.ts.length) (hv : TxV q.ts[k]) : VTo q (k + 1) := fun i hi hl => by
  by_cases e : i = k
  · subst e; exact hv
  · exact h i hi (by omega)
set_option linter.unusedVariables false in
set_option linter.unusedSimpArgs false in
theorem VTo.all {q : Crd} (h : VTo q q.ts.length) : ∀ t ∈ q.ts, TxV t := fun t ht => by
  obtain ⟨j, hj, rfl⟩ := List.mem_iff_getElem.1 ht
  exact h j hj hj
set_option linter.unusedVariables false in
set_option linter.unusedSimpArgs false in
set_option maxRecDepth 100000 in
set_option maxHeartbeats 8000000 in
theorem implCoordinatorValid_is (b : Bool) (v : Value) (q : Crd) (w : World) (h : Crdd w w.heap.size v q) (hf : FitC q) (hb : b = true ↔ CV q) :
    Calls Try.prog 35 #[v] w (Ret (.bool b) w) := by
  have HB := hid hb
  have no : b ≠ true → b = false := fun h => by cases b; rfl; exact absurd rfl h
  have NO : Hid (¬ CV q → b = false) := fun h => no fun e => h (hb.1 e)
  obtain ⟨A, c, A2, c2, rfl, h1, -, h2, -⟩ := h
  have f1 := hf.ts
  have f2 := hf.os
  have HF := hid hf
  unfold crV
  have al := (Below.refl w.heap.size w).alloc (Nat.le_refl _) (.cells #[.slice A q.ts.length c, .slice A2 q.os.length c2] 26)
  have x0 := Blk2s.new_ w 26 (.slice A q.ts.length c) (.slice A2 q.os.length c2)
  obtain ⟨w1, hw1⟩ : ∃ x, w.alloc (.cells #[.slice A q.ts.length c, .slice A2 q.os.length c2] 26) = x := ⟨_, rfl⟩
  rw [hw1] at al x0
  have HR1 : Hid (∀ y, Below w1.heap.size w1 y → Txs y y.heap.size A q.ts) := fun y hy => (h1.on al).on hy
  have HR2 : Hid (∀ y, Below w1.heap.size w1 y → Row y y.heap.size A2 (ints q.os)) := fun y hy => (((h2.below al (Nat.le_refl _)).more al.size).below hy (Nat.le_refl _)).more hy.size
  have HX : Hid (∀ y, Below w1.heap.size w1 y → (y.cell? ⟨w.heap.size, 0, none⟩ = some (.slice A q.ts.length c) ∧ y.cell? ⟨w.heap.size, 1, none⟩ = some (.slice A2 q.os.length c2))) := fun y hy => ⟨(x0.later hy).reads.1, (x0.later hy).reads.2.1⟩
  have hb2 := Below.refl w1.heap.size w1
  obtain ⟨y0, y1⟩ := HX.out _ hb2
  clear h1 h2 hb no x0 hf
  go_enter Try.func35, Try.ntmps35
  go_upto_region 1 with fail
  clear hw1
  by_cases h12 : q.ts.length ≤ 12
  · have e0 : decide ((12 : Int) < (q.ts.length : Int)) = false := decide_eq_false (by omega)
    have e1 : decide (12 < q.ts.length) = false := decide_eq_false (by omega)
    go_wp2_with fail
    go_loopw [12] (fun i wr => ∃ k : Nat, k ≤ q.ts.length ∧ i = .int .i64 k ∧ Hid (VTo q k) ∧ Below w1.heap.size w1 wr) (fun i _ => q.ts.length - (intOf i).toNat)
    case atStart => exact ⟨0, Nat.zero_le _, rfl, .zero _, hb2⟩
    case round =>
      clear hb2 y0 y1
      obtain ⟨k, hk, rfl, H, hbr⟩ := hrel
      have hz := hbr.size
      by_cases hlt : k < q.ts.length
      · obtain ⟨t, ad, A', c', A3, c3, ho, e2, had, g0, g1, g2, -, -, g5, g6⟩ := (HR1.out _ hbr).tx hlt
        have hps := HF.out.ps t (by rw [← ho]; exact List.getElem_mem hlt)
        have hus := HF.out.us t (by rw [← ho]; exact List.getElem_mem hlt)
        have k0 : (0 : Int) ≤ (k : Int) := by omega
        have k1 : (k : Int) < (q.ts.length : Int) := by omega
        obtain ⟨bt, hbt⟩ := bool_ofP' (TxV t)
        have CT := hid fun y (hy : Below wr.heap.size wr y) => implTxnValid_is bt A' c' A3 c3 t y (g5.on hy) ((g6.below hy (Nat.le_refl _)).more hy.size) (by omega) (by omega) (fun p hp => Nat.le_trans (hus p hp) (by omega)) hbt
        have HBT := hid hbt
        have HO := hid ho
        subst e2
        have d1 := (Below.refl wr.heap.size wr).alloc (Nat.le_refl _) (.cells #[.slice A' t.ps.length c', .slice A3 t.vs.length c3, .int .i64 t.d] 33)
        have hb1 := hbr.trans (d1.mono hbr.size)
        obtain ⟨z0, z1, z2, -⟩ := (Blk3s.new_ wr 33 (.slice A' t.ps.length c') (.slice A3 t.vs.length c3) (.int .i64 t.d)).reads
        clear hbt ho g5 g6 hps hus
        go_wp2_with fail
        refine (CT.out _ d1).mono ?_
        rintro e w2 ⟨rfl, d2⟩
        have hb2 := hb1.trans (d2.mono hb1.size)
        obtain ⟨y0, y1⟩ := HX.out _ hb2
        clear g0 g1 g2 z0 z1 z2 CT d1 hb1 d2
        cases bt with
        | false =>
          have F : Hid (b = false) := NO.out fun e => by have := HBT.out.2 (HO.out ▸ e.txs _ (List.getElem_mem hlt)); cases this
          go_wp2
          go_ret
          rw [F.out]
          exact .mk_ (al.trans (hb2.mono al.size))
        | true =>
          have HN := hid (H.out.next hlt (by rw [HO.out]; exact HBT.out.1 rfl))
          go_wp2
          go_roundw
          case rel => exact ⟨k + 1, by omega, by go_num, HN, hb2⟩
          case measure => simp [intOf]; omega
      · have hk' : k = q.ts.length := by omega
        subst hk'
        obtain ⟨y0, y1⟩ := HX.out _ hbr
        have CO : Hid (∀ y, Below w1.heap.size w1 y → Calls Try.prog 61 #[.agg #[.slice A q.ts.length c, .slice A2 q.os.length c2]] y (Ret (.bool b) y)) := fun y hy => orderValid_is b A c A2 c2 q y (HR1.out y hy) (HR2.out y hy) h12 (by omega) (HB.out.trans (ov_iff h12 H.out.all).symm)
        clear H HB
        go_wp2_with fail
        refine (CO.out _ hbr).mono ?_
        rintro e w2 ⟨rfl, d2⟩
        have hb2 := hbr.trans (d2.mono hbr.size)
        have F : Hid (b = b) := rfl
        go_wp2
        go_ret
        exact .mk_ (al.trans (hb2.mono al.size))
  · have e0 : decide ((12 : Int) < (q.ts.length : Int)) = true := decide_eq_true (by omega)
    have e1 : decide (12 < q.ts.length) = true := decide_eq_true (by omega)
    have F : Hid (b = false) := NO.out fun e => h12 e.many
    clear h12
    go_wp2
    go_ret
    rw [F.out]
    exact .mk_ (al.trans (hb2.mono al.size))
end Go.Proofs.Ytjplondblkkpmaa
