/- The coordinator with the slices $SA and $SB is stored as the answer, with the word $BB. -/
/- Laws on coordinators: a coordinator is boxed. -/
/-
  Walk: the shards that a transaction of a coordinator waits for, by the program.
-/
import Derived.Test.YtelmeknpmlbplaaWaiI
import Derived.Test.YtelmeknpmlbplaaValK
namespace Go.Proofs.Ytelmeknpmlbplaa
open Go.RowKit Wo Pu Rf Co

set_option linter.unusedVariables false in
set_option linter.unusedSimpArgs false in
theorem crd_parts {x : World} {B n m c k : Nat} {A A2 : Option Addr} {q : Crd} (h : Crdd x B (.agg #[.slice A n c, .slice A2 m k]) q) : Txs x B A q.ts ∧ Row x B A2 (ints q.os) ∧ n = q.ts.length ∧ m = q.os.length := by
  obtain ⟨A', c', A3, c3, e, h1, -, h2, -⟩ := h
  unfold crV at e
  injection e with e
  have e := congrArg Array.toList e
  simp at e
  obtain ⟨⟨rfl, rfl, rfl⟩, rfl, rfl, rfl⟩ := e
  exact ⟨h1, h2, rfl, rfl⟩
set_option linter.unusedVariables false in
set_option linter.unusedSimpArgs false in
theorem waitsD_len (t : Tx) (h : t.vs.length = t.ps.length) : (waitsD t).length ≤ t.ps.length := by
  unfold waitsD
  by_cases hd : t.d = 0
  · rw [if_pos hd, ← waitsTo_all h]
    exact waitsTo_len t t.ps.length
  · rw [if_neg hd]; simp
set_option linter.unusedSimpArgs false in
set_option linter.unusedVariables false in
set_option maxRecDepth 100000 in
set_option maxHeartbeats 8000000 in
theorem implCoordinatorWaits_is (zs : List Int) (v : Value) (q : Crd) (t : Int) (w : World) (h : Crdd w w.heap.size v q) (hf : FitC q) (hz : Waits q t zs) :
    Calls Try.prog 20 #[v, .int .i64 t] w (IntsOf zs w) := by
  obtain ⟨bv, hbv⟩ := bool_ofP' (CV q)
  obtain ⟨bi, hbi⟩ := bool_ofP' (∃ k, k < q.ts.length ∧ t = ((k : Nat) : Int))
  have HZ := hid hz
  have HBV := hid hbv
  have HBI := hid hbi
  have CVal : Hid (∀ y, Below w.heap.size w y → Calls Try.prog 33 #[v] y (Ret (.bool bv) y)) := fun y hy => implCoordinatorValid_is bv v q y (h.on hy hy.size) hf hbv
  have CI : Hid (∀ A c A2 c2 y, Calls Try.prog 57 #[.agg #[.slice A q.ts.length c, .slice A2 q.os.length c2], .int .i64 t] y (Ret (.bool bi) y)) := fun A c A2 c2 y => has_is bi A A2 q.ts.length q.os.length c c2 t y hbi
  have hf1 := hf.ts
  have HF := hid hf
  clear hz hbv hbi
  obtain ⟨A, c, A2, c2, rfl, hT, hc, -, hc2⟩ := h
  clear hf
  unfold crV at *
  have b1 := (Below.refl w.heap.size w).alloc (Nat.le_refl _) (.cells #[.slice A q.ts.length c, .slice A2 q.os.length c2] 26)
  have x0 := Blk2s.new_ w 26 (.slice A q.ts.length c) (.slice A2 q.os.length c2)
  go_enter Try.func20, Try.ntmps20
  go_upto_region 1 with fail
  obtain ⟨w1, hw1⟩ : ∃ x, w.alloc (.cells #[.slice A q.ts.length c, .slice A2 q.os.length c2] 26) = x := ⟨_, rfl⟩
  rw [hw1] at b1 x0 ⊢
  clear hw1
  obtain ⟨y0, y1, -⟩ := id x0.reads
  go_wp2_with fail
  refine (CVal.out _ b1).mono ?_
  rintro e w2 ⟨rfl, d⟩
  replace b1 := b1.trans (d.mono b1.size)
  replace x0 := x0.later d
  clear y0 y1 d CVal
  obtain ⟨y0, y1, -⟩ := id x0.reads
  cases bv with
  | false =>
    have HNo : Hid (¬ (CV q ∧ ∃ n, ∃ h : n < q.ts.length, t = (n : Int) ∧ q.ts[n].d = 0)) := fun e => by have := HBV.out.2 e.1; cases this
    clear CI HBV HBI
    have o9 := OwnI.nil_new (w := w2) (B := w.heap.size) b1.size
    have b9 := b1.alloc b1.size (.cells #[] 3)
    have ez : zs = [] := HZ.out.no_ HNo.out
    subst ez
    go_wp2
    go_ret
    exact .mk_ o9 b9
  | true =>
    have HVq := hid (HBV.out.1 rfl)
    go_wp2_with fail
    refine (CI.out _ _ _ _ _).mono ?_
    rintro e w2 ⟨rfl, d⟩
    replace b1 := b1.trans (d.mono b1.size)
    replace x0 := x0.later d
    clear y0 y1 d CI
    obtain ⟨y0, y1, -⟩ := id x0.reads
    cases bi with
    | false =>
      have HNo : Hid (¬ (CV q ∧ ∃ n, ∃ h : n < q.ts.length, t = (n : Int) ∧ q.ts[n].d = 0)) := fun ⟨_, n, h1, h2, _⟩ => by have := HBI.out.2 ⟨n, h1, h2⟩; cases this
      clear HBV HBI
      have o9 := OwnI.nil_new (w := w2) (B := w.heap.size) b1.size
      have b9 := b1.alloc b1.size (.cells #[] 3)
      have ez : zs = [] := HZ.out.no_ HNo.out
      subst ez
      go_wp2
      go_ret
      exact .mk_ o9 b9
    | true =>
      obtain ⟨n, hn, rfl⟩ := HBI.out.1 rfl
      have k0 : (0 : Int) ≤ (n : Int) := by omega
      have k1 : (n : Int) < (q.ts.length : Int) := by omega
      obtain ⟨t, ad, A', c', A9, c9, ho, rfl, had, g0, g1, g2, -, -, g5, g6⟩ := (hT.below b1 (Nat.le_refl _)).tx hn
      have htv := HVq.out.txs t (by rw [← ho]; exact List.getElem_mem hn)
      have hps := (HF.out.ps t (by rw [← ho]; exact List.getElem_mem hn)).1
      have HE : Hid (zs = waitsD t) := by
        show zs = _
        unfold waitsD
        by_cases hd : t.d = 0
        · rw [if_pos hd, HZ.out.yes_ HVq.out hn (by rw [ho]; exact hd), ho]
        · rw [if_neg hd]
          exact HZ.out.no_ fun ⟨_, m, h1, h2, h3⟩ => by
            have e2 : m = n := by omega
            subst e2
            rw [ho] at h3
            exact hd h3
      have CW := hid (txWaits_is A' c' A9 c9 t w2 (g5.more b1.size) (g6.more b1.size) hps htv.len)
      rw [← HE.out] at CW
      clear HZ HE HBV HBI HVq ho htv g5 g6 hps
      go_wp2_with fail
      refine CW.out.mono ?_
      rintro e w3 ⟨Aw, cw, rfl, ow, d⟩
      have o9 := rowB_base ow b1.size
      have b9 := b1.trans (d.mono b1.size)
      clear ow d CW
      go_wp2
      go_ret
      exact .mk_ o9 b9
end Go.Proofs.Ytelmeknpmlbplaa
