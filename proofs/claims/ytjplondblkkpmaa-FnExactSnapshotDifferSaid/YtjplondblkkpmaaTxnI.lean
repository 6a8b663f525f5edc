/- The coordinator with the slices $SA and $SB is stored as the answer, with the word $BB. -/
/- Laws on coordinators: a coordinator is boxed. -/
/- On to the world behind D. -/
/- An exact law begins: the argument's box, its size, a copy for the model. -/
/- The program's own copy of the argument is boxed. -/
/- The program's copy is as the argument; the region draws. -/
/- Laws on functions that answer numbers. -/
/- What the boxes hold is read again. -/
/- The coordinator with the slices P4 and P5 is boxed as P6, in block P7, behind it the world P3; ahead of region P1. -/
/- The draw, the program's answer, the model's, and that they are the same: behind it w5, all facts on it by way of dx. -/
/-
  Walks: which parts and transactions are valid, by the program.
-/
import Derived.Test.YtjplondblkkpmaaChnI
import Derived.Test.YtjplondblkkpmaaCooS
import Derived.Test.YtjplondblkkpmaaDrawD
import Derived.Test.YtjplondblkkpmaaG3C
namespace Go.Proofs.Ytjplondblkkpmaa
open Go.RowKit Wo Pu Rf Co

set_option linter.unusedVariables false in
set_option linter.unusedSimpArgs false in
theorem shardNumberValid_is (b : Bool) (n : Int) (w : World) (hb : b = true ↔ (0 ≤ n ∧ n ≤ 2)) : Calls Try.prog 36 #[.int .i64 n] w (Same (.bool b) w) := by
  have HB := hid hb
  clear hb
  by_cases h0 : 0 ≤ n
  · have e0 : decide (0 ≤ n) = true := decide_eq_true h0
    by_cases h1 : n < 3
    · have e1 : decide (n < 3) = true := decide_eq_true h1
      have F := hid (HB.out.2 ⟨h0, by omega⟩)
      clear h0 h1
      go_enter Try.func36, Try.ntmps36
      go_wp2
      go_ret
      rw [F.out]
      exact ⟨rfl, rfl⟩
    · have e1 : decide (n < 3) = false := decide_eq_false h1
      have F : Hid (b = false) := by
        show b = false
        rw [← Bool.not_eq_true]
        exact fun e => by have := (HB.out.1 e).2; omega
      clear h0 h1
      go_enter Try.func36, Try.ntmps36
      go_wp2
      go_ret
      rw [F.out]
      exact ⟨rfl, rfl⟩
  · have e0 : decide (0 ≤ n) = false := decide_eq_false h0
    have F : Hid (b = false) := by
      show b = false
      rw [← Bool.not_eq_true]
      exact fun e => by have := (HB.out.1 e).1; omega
    clear h0
    go_enter Try.func36, Try.ntmps36
    go_wp2
    go_ret
    rw [F.out]
    exact ⟨rfl, rfl⟩
set_option linter.unusedVariables false in
set_option linter.unusedSimpArgs false in
set_option maxRecDepth 100000 in
set_option maxHeartbeats 4000000 in
theorem partValid_is (b : Bool) (A : Option Addr) (c : Nat) (p : Part) (w : World) (hr : Row w w.heap.size A (upsV p.us)) (hm : p.us.length ≤ 1048600) (hb : b = true ↔ ((0 ≤ p.s ∧ p.s ≤ 2) ∧ UV p.us)) :
    Calls Try.prog 92 #[.agg #[.int .i64 p.s, .slice A p.us.length c]] w (Ret (.bool b) w) := by
  obtain ⟨bs, hbs⟩ := bool_of (0 ≤ p.s ∧ p.s ≤ 2)
  obtain ⟨bu, hbu⟩ := bool_of (UV p.us)
  have F : Hid (b = (bs && bu)) := by
    show b = _
    rw [Bool.eq_iff_iff, hb, Bool.and_eq_true, hbs, hbu]
  have al := (Below.refl w.heap.size w).alloc (Nat.le_refl _) (.cells #[.int .i64 p.s, .slice A p.us.length c] 36)
  have C1 : Hid (∀ x, Calls Try.prog 36 #[.int .i64 p.s] x (Same (.bool bs) x)) := fun x => shardNumberValid_is bs _ x hbs
  have C2 : Hid (∀ x, Below w.heap.size w x → Calls Try.prog 96 #[.slice A p.us.length c] x (Ret (.bool bu) x)) := fun x hx => implUpdatesValid_is bu A c p.us x ((hr.below hx (Nat.le_refl _)).more hx.size) hm hbu
  clear hb hbs hbu hr
  go_enter Try.func92, Try.ntmps92
  go_wp2_with fail
  refine (C1.out _).mono ?_
  rintro e w1 ⟨rfl, rfl⟩
  cases bs with
  | false =>
    go_wp2
    go_ret
    rw [F.out]
    exact .mk_ al
  | true =>
    go_wp2_with fail
    refine (C2.out _ al).mono ?_
    rintro e w2 ⟨rfl, d⟩
    have b2 := al.trans (d.mono al.size)
    go_wp2
    go_ret
    rw [F.out]
    exact .mk_ b2
set_option linter.unusedVariables false in
/-- The shard of the last of the first k parts; -1 if there is none. -/
def lastS (ps : List Part) (k : Nat) : Int := if h : 0 < k ∧ k - 1 < ps.length then (ps[k - 1]'h.2).s else -1
set_option linter.unusedVariables false in
set_option linter.unusedSimpArgs false in
theorem lastS_zero (ps : List Part) : lastS ps 0 = -1 := by unfold lastS; rw [dif_neg (by omega)]
set_option linter.unusedVariables false in
set_option linter.unusedSimpArgs false in
theorem lastS_next {ps : List Part} {k : Nat} (hk : k < ps.length) : lastS ps (k + 1) = ps[k].s := by
  unfold lastS
  rw [dif_pos (by omega)]
  rfl
set_option linter.unusedVariables false in
set_option linter.unusedSimpArgs false in
theorem lastS_lt {ps : List Part} {k : Nat} (hk : k < ps.length) (h1 : 0 ≤ ps[k].s) : lastS ps k < ps[k].s ↔ ∀ j (hj : j < ps.length), j + 1 = k → ps[j].s < ps[k].s := by
  unfold lastS
  by_cases e : 0 < k
  · rw [dif_pos (by omega)]
    refine ⟨fun h j hj e2 => ?_, fun h => h (k - 1) (by omega) (by omega)⟩
    have : j = k - 1 := by omega
    subst this
    exact h
  · rw [dif_neg (by omega)]
    exact ⟨fun _ j hj e2 => by omega, fun _ => by omega⟩
set_option linter.unusedVariables false in
set_option linter.unusedSimpArgs false in
set_option maxRecDepth 100000 in
set_option maxHeartbeats 8000000 in
theorem partsValid_is (b : Bool) (A : Option Addr) (c : Nat) (ps : List Part) (w : World) (h : Parts w w.heap.size A ps) (hm : ps.length ≤ 1048600) (hu : ∀ p ∈ ps, p.us.length ≤ 1048600) (hb : b = true ↔ PartsV ps) :
    Calls Try.prog 80 #[.slice A ps.length c] w (Ret (.bool b) w) := by
  have HB := hid hb
  have HU := hid hu
  clear hb hu
  go_enter Try.func80, Try.ntmps80
  go_wp2_with fail
  go_loopw [3, 8] (fun l i wr => ∃ k : Nat, k ≤ ps.length ∧ i = .int .i64 k ∧ l = .int .i64 (lastS ps k) ∧ Hid (PGood ps k) ∧ Below w.heap.size w wr) (fun _ i _ => ps.length - (intOf i).toNat)
  case atStart => exact ⟨0, Nat.zero_le _, rfl, by rw [lastS_zero], .zero ps, Below.refl _ _⟩
  case round =>
    obtain ⟨k, hk, rfl, rfl, H, hbr⟩ := hrel
    have hz := hbr.size
    by_cases hlt : k < ps.length
    · obtain ⟨p, ad, A', c', ho, rfl, had, g0, g1, -, g3⟩ := (h.on hbr).part hlt
      have hul := HU.out p (by rw [← ho]; exact List.getElem_mem hlt)
      have k0 : (0 : Int) ≤ (k : Int) := by omega
      have k1 : (k : Int) < (ps.length : Int) := by omega
      obtain ⟨bp, hbp⟩ := bool_of ((0 ≤ p.s ∧ p.s ≤ 2) ∧ UV p.us)
      have x5 := Blk2s.new_ wr 36 (.int .i64 p.s) (.slice A' p.us.length c')
      have al := (Below.refl wr.heap.size wr).alloc (Nat.le_refl _) (.cells #[.int .i64 p.s, .slice A' p.us.length c'] 36)
      have CP : Hid (∀ x, Below wr.heap.size wr x → Calls Try.prog 92 #[.agg #[.int .i64 p.s, .slice A' p.us.length c']] x (Ret (.bool bp) x)) := fun x hx => partValid_is bp A' c' p x ((g3.below hx (Nat.le_refl _)).more hx.size) hul hbp
      have HBP := hid hbp
      have HO := hid ho
      have e9 : Hid (lastS ps (k + 1) = p.s) := by show _ = _; rw [lastS_next hlt, ho]
      obtain ⟨ls, hls⟩ : ∃ ls, lastS ps k = ls := ⟨_, rfl⟩
      rw [hls]
      have HLS := hid hls
      clear hbp ho hls
      go_upto_region 5 with fail
      obtain ⟨w3, hw3⟩ : ∃ x, wr.alloc (.cells #[.int .i64 p.s, .slice A' p.us.length c'] 36) = x := ⟨_, rfl⟩
      rw [hw3] at x5 al ⊢
      clear hw3 g0 g1
      obtain ⟨y0, y1, -⟩ := id x5.reads
      go_wp2_with fail
      refine (CP.out _ al).mono ?_
      rintro e w4 ⟨rfl, d⟩
      have hb9 := hbr.trans ((al.trans (d.mono al.size)).mono hz)
      replace x5 := x5.later d
      clear y0 y1 CP
      obtain ⟨y0, y1, -⟩ := id x5.reads
      cases bp with
      | false =>
        have F : Hid (b = false) := by
          show b = false
          rw [← Bool.not_eq_true]
          exact fun e => by
            have hg := (partsV_iff.1 (HB.out.1 e)).2 k hlt hlt
            rw [HO.out] at hg
            have := HBP.out.2 ⟨hg.1, hg.2.1⟩
            cases this
        clear H
        go_wp2
        go_ret
        rw [F.out]
        exact .mk_ hb9
      | true =>
        have hv := HBP.out.1 rfl
        by_cases hord : ls < p.s
        · have e1 : decide (p.s ≤ ls) = false := decide_eq_false (by omega)
          have HN := hid (H.out.succ hlt (by rw [HO.out]; exact hv.1) (by rw [HO.out]; exact hv.2) ((lastS_lt hlt (by rw [HO.out]; exact hv.1.1)).1 (by rw [HLS.out, HO.out]; exact hord)))
          clear H hv hord
          go_wp2
          go_roundw
          case rel => exact ⟨k + 1, by omega, by go_num, by rw [e9.out], HN, hb9⟩
          case measure => simp [intOf]; omega
        · have e1 : decide (p.s ≤ ls) = true := decide_eq_true (by omega)
          have F : Hid (b = false) := by
            show b = false
            rw [← Bool.not_eq_true]
            exact fun e => by
              have hg := (partsV_iff.1 (HB.out.1 e)).2 k hlt hlt
              have := (lastS_lt hlt hg.1.1).2 hg.2.2
              rw [HLS.out, HO.out] at this
              exact hord this
          clear H hv hord
          go_wp2
          go_ret
          rw [F.out]
          exact .mk_ hb9
    · have hk' : k = ps.length := by omega
      subst hk'
      have hb9 := hbr
      by_cases h0 : ps.length = 0
      · have F : Hid (b = false) := by
          show b = false
          rw [← Bool.not_eq_true]
          exact fun e => (HB.out.1 e).1 (List.eq_nil_of_length_eq_zero h0)
        have e0 : decide (0 < (ps.length : Int)) = false := decide_eq_false (by omega)
        have e1 : decide (0 < ps.length) = false := decide_eq_false (by omega)
        clear h0 H
        go_wp2
        go_ret
        rw [F.out]
        exact .mk_ hb9
      · have F : Hid (b = true) := HB.out.2 (partsV_iff.2 ⟨fun e => h0 (by rw [e]; rfl), H.out⟩)
        have e0 : decide (0 < (ps.length : Int)) = true := decide_eq_true (by omega)
        have e1 : decide (0 < ps.length) = true := decide_eq_true (by omega)
        clear h0 H
        go_wp2
        go_ret
        rw [F.out]
        exact .mk_ hb9
set_option linter.unusedVariables false in
/-- What the votes decide: a against it, m missing. -/
def decOf (a m : Nat) : Int := if 0 < a then 3 else if 0 < m then 0 else 2
set_option linter.unusedVariables false in
set_option linter.unusedSimpArgs false in
set_option maxHeartbeats 4000000 in
theorem decision_is (a m x : Nat) (w : World) :
    Calls Try.prog 83 #[.agg #[.int .i64 (a : Nat), .int .i64 (m : Nat), .int .i64 (x : Nat)]] w (Ret (.int .i64 (decOf a m)) w) := by
  have al := (Below.refl w.heap.size w).alloc (Nat.le_refl _) (.cells #[.int .i64 (a : Nat), .int .i64 (m : Nat), .int .i64 (x : Nat)] 105)
  unfold decOf
  by_cases ha : 0 < a
  · have e0 : decide ((0 : Int) < (a : Int)) = true := decide_eq_true (by omega)
    have e1 : decide (0 < a) = true := decide_eq_true ha
    rw [if_pos ha]
    clear ha
    go_enter Try.func83, Try.ntmps83
    go_wp2
    go_ret
    exact .mk_ al
  · have e0 : decide ((0 : Int) < (a : Int)) = false := decide_eq_false (by omega)
    have e1 : decide (0 < a) = false := decide_eq_false ha
    rw [if_neg ha]
    clear ha
    by_cases hm : 0 < m
    · have e2 : decide ((0 : Int) < (m : Int)) = true := decide_eq_true (by omega)
      have e3 : decide (0 < m) = true := decide_eq_true hm
      rw [if_pos hm]
      clear hm
      go_enter Try.func83, Try.ntmps83
      go_wp2
      go_ret
      exact .mk_ al
    · have e2 : decide ((0 : Int) < (m : Int)) = false := decide_eq_false (by omega)
      have e3 : decide (0 < m) = false := decide_eq_false hm
      rw [if_neg hm]
      clear hm
      go_enter Try.func83, Try.ntmps83
      go_wp2
      go_ret
      exact .mk_ al
end Go.Proofs.Ytjplondblkkpmaa
