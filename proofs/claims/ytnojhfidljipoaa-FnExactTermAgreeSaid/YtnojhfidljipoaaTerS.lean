/-
  Walks: the model's decision from states.
-/
import Derived.Test.YtnojhfidljipoaaTerP
namespace Go.Proofs.Ytnojhfidljipoaa
open Go.RowKit Wo Pu
set_option linter.unusedVariables false
set_option linter.unusedSimpArgs false

theorem l23Has_is (b : Bool) (A : Option Addr) (c : Nat) (zs : List Int) (x : Int) (w : World) (B : Nat) (hr : Row w B A (ints zs)) (hm : zs.length ≤ 1048600) (hb : b = true ↔ x ∈ zs) :
    Calls Try.prog 23 #[.slice A zs.length c, .int .i64 x] w (Same (.bool b) w) := by
  have HB := hid hb
  clear hb
  go_enter Try.func23, Try.ntmps23
  go_wp2_with fail
  refine (l1Has_is b A c zs x _ B hr hm HB.out).mono ?_
  rintro e w1 ⟨rfl, rfl⟩
  go_wp2
  go_ret
  exact ⟨rfl, rfl⟩
set_option maxHeartbeats 4000000 in
theorem l23States_is (b : Bool) (A : Option Addr) (c : Nat) (zs : List Int) (w : World) (B : Nat) (hr : Row w B A (ints zs)) (hm : zs.length ≤ 1048600) (hb : b = true ↔ StV zs) :
    Calls Try.prog 22 #[.slice A zs.length c] w (Same (.bool b) w) := by
  have HB := hid hb
  clear hb
  go_enter Try.func22, Try.ntmps22
  go_wp2_with fail
  go_loopw [3] (fun i wr => ∃ k : Nat, k ≤ zs.length ∧ i = .int .i64 k ∧ Hid (VTo zs k) ∧ wr = w) (fun i _ => zs.length - (intOf i).toNat)
  case atStart => exact ⟨0, Nat.zero_le _, rfl, .zero zs, rfl⟩
  case round =>
    obtain ⟨k, hk, rfl, H, rfl⟩ := hrel
    by_cases hlt : k < zs.length
    · obtain ⟨ad, rfl, hbl, hc⟩ := hr.int_ hlt
      have q0 : (0 : Int) ≤ (k : Int) := by omega
      have q1 : (k : Int) < (zs.length : Int) := by omega
      obtain ⟨z, hz⟩ : ∃ z, zs[k] = z := ⟨_, rfl⟩
      rw [hz] at hc
      by_cases hv : 0 ≤ z ∧ z ≤ 3
      · have HN := hid (H.out.next hlt (by rw [hz]; exact hv))
        clear H hz
        go_wp2_with fail
        refine (l6In_yes z 0 3 _ hv.1 hv.2).mono ?_
        rintro e w1 ⟨rfl, rfl⟩
        go_wp2
        go_roundw
        case rel => exact ⟨k + 1, by omega, by go_num, HN, trivial⟩
        case measure => simp [intOf]; omega
      · have hv' : z < 0 ∨ 3 < z := by omega
        have F : Hid (b = false) := by
          show b = false
          rw [← Bool.not_eq_true]
          exact fun e => hv (hz ▸ (HB.out.1 e).1 zs[k] (List.getElem_mem hlt))
        clear H hz hv
        go_wp2_with fail
        refine (l6In_no z 0 3 _ hv').mono ?_
        rintro e w1 ⟨rfl, rfl⟩
        go_wp2
        go_ret
        rw [F.out]
        exact ⟨rfl, rfl⟩
    · have hk' : k = zs.length := by omega
      subst hk'
      by_cases hl : 1 ≤ zs.length ∧ zs.length ≤ 3
      · have F : Hid (b = true) := HB.out.2 ⟨H.out.all, hl⟩
        clear H
        go_wp2_with fail
        refine (l6In_yes zs.length 1 3 _ (by omega) (by omega)).mono ?_
        rintro e w1 ⟨rfl, rfl⟩
        go_wp2
        go_ret
        rw [F.out]
        exact ⟨rfl, rfl⟩
      · have F : Hid (b = false) := by
          show b = false
          rw [← Bool.not_eq_true]
          exact fun e => hl (HB.out.1 e).2
        clear H
        go_wp2_with fail
        refine (l6In_no zs.length 1 3 _ (by omega)).mono ?_
        rintro e w1 ⟨rfl, rfl⟩
        go_wp2
        go_ret
        rw [F.out]
        exact ⟨rfl, rfl⟩
set_option maxHeartbeats 4000000 in
theorem specTermAgree_is (b : Bool) (A : Option Addr) (c : Nat) (zs : List Int) (w : World) (B : Nat) (hr : Row w B A (ints zs)) (hm : zs.length ≤ 1048600) (hb : b = true ↔ StA zs) :
    Calls Try.prog 12 #[.slice A zs.length c] w (Same (.bool b) w) := by
  obtain ⟨v, hv⟩ := bool_of (StV zs)
  obtain ⟨m, hc⟩ := bool_of (2 ∈ zs)
  obtain ⟨m3, h3⟩ := bool_of (3 ∈ zs)
  obtain ⟨m0, h0⟩ := bool_of (0 ∈ zs)
  obtain ⟨n, hn⟩ := bool_of (StN zs)
  have F := hid (stA_of b zs v m n hb hv hc hn)
  have G := hid (stN_of n zs m3 m0 hn h3 h0)
  have HV := hid hv
  have HC := hid hc
  have H3 := hid h3
  have H0 := hid h0
  clear hv hc h3 h0 hn hb
  go_enter Try.func12, Try.ntmps12
  go_wp2_with fail
  refine (l23States_is v A c zs _ B hr hm HV.out).mono ?_
  rintro e w1 ⟨rfl, rfl⟩
  cases v with
  | false =>
    go_wp2
    go_ret
    rw [F.out]
    exact ⟨rfl, rfl⟩
  | true =>
    go_wp2_with fail
    refine (l23Has_is m A c zs 2 _ B hr hm HC.out).mono ?_
    rintro e w1 ⟨rfl, rfl⟩
    cases m with
    | false =>
      go_wp2
      go_ret
      rw [F.out]
      exact ⟨rfl, rfl⟩
    | true =>
      go_wp2_with fail
      refine (l23Has_is m3 A c zs 3 _ B hr hm H3.out).mono ?_
      rintro e w1 ⟨rfl, rfl⟩
      cases m3 with
      | true =>
        go_wp2
        go_ret
        rw [F.out, G.out]
        exact ⟨rfl, rfl⟩
      | false =>
        go_wp2_with fail
        refine (l23Has_is m0 A c zs 0 _ B hr hm H0.out).mono ?_
        rintro e w1 ⟨rfl, rfl⟩
        rw [G.out] at F
        clear G H0
        cases m0 with
        | true =>
          go_wp2
          go_ret
          rw [F.out]
          exact ⟨rfl, rfl⟩
        | false =>
          go_wp2
          go_ret
          rw [F.out]
          exact ⟨rfl, rfl⟩
set_option maxHeartbeats 4000000 in
theorem l23Decide_is (d : Int) (A : Option Addr) (c : Nat) (zs : List Int) (w : World) (B : Nat) (hr : Row w B A (ints zs)) (hm : zs.length ≤ 1048600) (ha : StA zs) (hd : StD zs d) :
    Calls Try.prog 26 #[.slice A zs.length c] w (Same (.int .i64 d) w) := by
  obtain ⟨m, hc⟩ := bool_of (2 ∈ zs)
  obtain ⟨m3, h3⟩ := bool_of (3 ∈ zs)
  obtain ⟨m0, h0⟩ := bool_of (0 ∈ zs)
  obtain ⟨n, hn⟩ := bool_of (StN zs)
  have F := hid (stD_of d zs true m n (by simpa using ha) hc hn hd)
  have G := hid (stN_of n zs m3 m0 hn h3 h0)
  have HC := hid hc
  have H3 := hid h3
  have H0 := hid h0
  clear hc h3 h0 hn hd ha
  go_enter Try.func26, Try.ntmps26
  go_wp2_with fail
  refine (l23Has_is m A c zs 2 _ B hr hm HC.out).mono ?_
  rintro e w1 ⟨rfl, rfl⟩
  cases m with
  | true =>
    go_wp2
    go_ret
    rw [F.out]
    exact ⟨rfl, rfl⟩
  | false =>
    go_wp2_with fail
    refine (l23Has_is m3 A c zs 3 _ B hr hm H3.out).mono ?_
    rintro e w1 ⟨rfl, rfl⟩
    cases m3 with
    | true =>
      go_wp2
      go_ret
      rw [F.out, G.out]
      exact ⟨rfl, rfl⟩
    | false =>
      go_wp2_with fail
      refine (l23Has_is m0 A c zs 0 _ B hr hm H0.out).mono ?_
      rintro e w1 ⟨rfl, rfl⟩
      rw [G.out] at F
      clear G H0
      cases m0 with
      | true =>
        go_wp2
        go_ret
        rw [F.out]
        exact ⟨rfl, rfl⟩
      | false =>
        go_wp2
        go_ret
        rw [F.out]
        exact ⟨rfl, rfl⟩
set_option maxHeartbeats 4000000 in
theorem specTermDecide_is (d : Int) (A : Option Addr) (c : Nat) (zs : List Int) (w : World) (B : Nat) (hr : Row w B A (ints zs)) (hm : zs.length ≤ 1048600) (hd : StD zs d) :
    Calls Try.prog 16 #[.slice A zs.length c] w (Same (.int .i64 d) w) := by
  obtain ⟨a, ha⟩ := bool_of (StA zs)
  have HA := hid ha
  have HD := hid hd
  clear ha hd
  go_enter Try.func16, Try.ntmps16
  go_wp2_with fail
  refine (specTermAgree_is a A c zs _ B hr hm HA.out).mono ?_
  rintro e w1 ⟨rfl, rfl⟩
  cases a with
  | false =>
    have F := hid (HD.out.bad (fun e => by simpa using HA.out.2 e))
    go_wp2
    go_ret
    rw [F.out]
    exact ⟨rfl, rfl⟩
  | true =>
    go_wp2_with fail
    refine (l23Decide_is d A c zs _ B hr hm (HA.out.1 trivial) HD.out).mono ?_
    rintro e w1 ⟨rfl, rfl⟩
    go_wp2
    go_ret
    exact ⟨rfl, rfl⟩
end Go.Proofs.Ytnojhfidljipoaa
