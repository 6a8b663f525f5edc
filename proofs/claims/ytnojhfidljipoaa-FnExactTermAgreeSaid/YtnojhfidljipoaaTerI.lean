/-
  Walks: the program's decision from states.
-/
import Derived.Test.YtnojhfidljipoaaTerS
import Derived.Test.YtnojhfidljipoaaConI
namespace Go.Proofs.Ytnojhfidljipoaa
open Go.RowKit Wo Pu
set_option linter.unusedVariables false
set_option linter.unusedSimpArgs false

set_option maxHeartbeats 4000000 in
theorem abortable_is (n : Bool) (A : Option Addr) (c : Nat) (zs : List Int) (w : World) (B : Nat) (hr : Row w B A (ints zs)) (hm : zs.length ≤ 1048600) (hn : n = true ↔ StN zs) :
    Calls Try.prog 21 #[.slice A zs.length c] w (Same (.bool n) w) := by
  obtain ⟨m3, h3⟩ := bool_of (3 ∈ zs)
  obtain ⟨m0, h0⟩ := bool_of (0 ∈ zs)
  have G := hid (stN_of n zs m3 m0 hn h3 h0)
  have H3 := hid h3
  have H0 := hid h0
  clear hn h3 h0
  go_enter Try.func21, Try.ntmps21
  go_wp2_with fail
  refine (slContains_is m3 A c zs 3 _ B hr hm H3.out).mono ?_
  rintro e w1 ⟨rfl, rfl⟩
  cases m3 with
  | true =>
    go_wp2
    go_ret
    rw [G.out]
    exact ⟨rfl, rfl⟩
  | false =>
    go_wp2_with fail
    refine (slContains_is m0 A c zs 0 _ B hr hm H0.out).mono ?_
    rintro e w1 ⟨rfl, rfl⟩
    go_wp2
    go_ret
    rw [G.out]
    exact ⟨by simp, rfl⟩
set_option maxHeartbeats 4000000 in
theorem stateValid_is (b : Bool) (z : Int) (w : World) (hb : b = true ↔ 0 ≤ z ∧ z ≤ 3) :
    Calls Try.prog 19 #[.int .i64 z] w (Same (.bool b) w) := by
  have F : Hid (b = (decide (0 ≤ z) && decide (z ≤ 3))) := by
    show _ = _
    rw [Bool.eq_iff_iff, hb]
    simp
  clear hb
  by_cases h0 : 0 ≤ z
  · have e0 : decide (0 ≤ z) = true := decide_eq_true h0
    by_cases h1 : z ≤ 3
    · have e1 : decide (z ≤ 3) = true := decide_eq_true h1
      clear h0 h1
      go_enter Try.func19, Try.ntmps19
      go_wp2
      go_ret
      rw [F.out, e0, e1]
      exact ⟨rfl, rfl⟩
    · have e1 : decide (z ≤ 3) = false := decide_eq_false h1
      clear h0 h1
      go_enter Try.func19, Try.ntmps19
      go_wp2
      go_ret
      rw [F.out, e0, e1]
      exact ⟨rfl, rfl⟩
  · have e0 : decide (0 ≤ z) = false := decide_eq_false h0
    clear h0
    go_enter Try.func19, Try.ntmps19
    go_wp2
    go_ret
    rw [F.out, e0]
    exact ⟨rfl, rfl⟩
set_option maxHeartbeats 4000000 in
theorem implTermAgree_is (b : Bool) (A : Option Addr) (c : Nat) (zs : List Int) (w : World) (B : Nat) (hr : Row w B A (ints zs)) (hm : zs.length ≤ 1048600) (hb : b = true ↔ StA zs) :
    Calls Try.prog 11 #[.slice A zs.length c] w (Same (.bool b) w) := by
  have HB := hid hb
  clear hb
  have FF : Hid (¬ StV zs → b = false) := fun h => by
    rw [← Bool.not_eq_true]
    exact fun e => h (HB.out.1 e).1
  go_enter Try.func11, Try.ntmps11
  by_cases hl : 1 ≤ zs.length ∧ zs.length ≤ 3
  · obtain ⟨hl1, hl3⟩ := hl
    have e0 : ((zs.length : Int) == 0) = false := by rw [beq_eq_false_iff_ne]; omega
    have e1 : decide ((3 : Int) < (zs.length : Int)) = false := decide_eq_false (by omega)
    go_wp2_with fail
    go_loopw [15] (fun i wr => ∃ k : Nat, k ≤ zs.length ∧ i = .int .i64 k ∧ Hid (VTo zs k) ∧ wr = w) (fun i _ => zs.length - (intOf i).toNat)
    case atStart => exact ⟨0, Nat.zero_le _, rfl, .zero zs, rfl⟩
    case round =>
      obtain ⟨k, hk, rfl, H, rfl⟩ := hrel
      by_cases hlt : k < zs.length
      · obtain ⟨ad, rfl, hbl, hc⟩ := hr.int_ hlt
        have q0 : (0 : Int) ≤ (k : Int) := by omega
        have q1 : (k : Int) < (zs.length : Int) := by omega
        obtain ⟨z, hz⟩ : ∃ z, zs[k] = z := ⟨_, rfl⟩
        rw [hz] at hc
        obtain ⟨bz, hbz⟩ := bool_of (0 ≤ z ∧ z ≤ 3)
        have CZ := hid (stateValid_is bz z wr hbz)
        cases bz with
        | true =>
          have HN := hid (H.out.next hlt (by rw [hz]; exact hbz.1 rfl))
          clear H hz hbz
          go_wp2_with fail
          refine CZ.out.mono ?_
          rintro e w1 ⟨rfl, rfl⟩
          go_wp2
          go_roundw
          case rel => exact ⟨k + 1, by omega, by go_num, HN, trivial⟩
          case measure => simp [intOf]; omega
        | false =>
          have F : Hid (b = false) := FF.out fun h => by
            have := hbz.2 (hz ▸ h.1 zs[k] (List.getElem_mem hlt))
            cases this
          clear H hz hbz
          go_wp2_with fail
          refine CZ.out.mono ?_
          rintro e w1 ⟨rfl, rfl⟩
          go_wp2
          go_ret
          rw [F.out]
          exact ⟨rfl, rfl⟩
      · have hk' : k = zs.length := by omega
        subst hk'
        have hsv : StV zs := ⟨H.out.all, hl1, hl3⟩
        obtain ⟨v, hv⟩ := bool_of (StV zs)
        obtain ⟨m, hm2⟩ := bool_of (2 ∈ zs)
        obtain ⟨n, hn⟩ := bool_of (StN zs)
        have G := hid (stA_of b zs v m n HB.out hv hm2 hn)
        have V : Hid (v = true) := hv.2 hsv
        have HM := hid hm2
        have HN := hid hn
        clear H hsv hv hm2 hn
        go_wp2_with fail
        refine (slContains_is m A c zs 2 _ B hr hm HM.out).mono ?_
        rintro e w1 ⟨rfl, rfl⟩
        cases m with
        | false =>
          go_wp2
          go_ret
          rw [G.out, V.out]
          exact ⟨rfl, rfl⟩
        | true =>
          go_wp2_with fail
          refine (abortable_is n A c zs _ B hr hm HN.out).mono ?_
          rintro e w1 ⟨rfl, rfl⟩
          go_wp2
          go_ret
          rw [G.out, V.out]
          exact ⟨by simp, rfl⟩
  · have F : Hid (b = false) := FF.out fun h => hl h.2
    by_cases h0 : zs.length = 0
    · have e0 : ((zs.length : Int) == 0) = true := by rw [beq_iff_eq]; omega
      go_wp2
      go_ret
      rw [F.out]
      exact ⟨rfl, rfl⟩
    · have e0 : ((zs.length : Int) == 0) = false := by rw [beq_eq_false_iff_ne]; omega
      have e1 : decide ((3 : Int) < (zs.length : Int)) = true := decide_eq_true (by omega)
      go_wp2
      go_ret
      rw [F.out]
      exact ⟨rfl, rfl⟩
set_option maxHeartbeats 4000000 in
theorem implTermDecide_is (d : Int) (A : Option Addr) (c : Nat) (zs : List Int) (w : World) (B : Nat) (hr : Row w B A (ints zs)) (hm : zs.length ≤ 1048600) (hd : StD zs d) :
    Calls Try.prog 15 #[.slice A zs.length c] w (Same (.int .i64 d) w) := by
  obtain ⟨a, ha⟩ := bool_of (StA zs)
  obtain ⟨m, hc⟩ := bool_of (2 ∈ zs)
  obtain ⟨n, hn⟩ := bool_of (StN zs)
  have F := hid (stD_of d zs a m n ha hc hn hd)
  have HA := hid ha
  have HC := hid hc
  have HN := hid hn
  clear ha hd hc hn
  go_enter Try.func15, Try.ntmps15
  go_wp2_with fail
  refine (implTermAgree_is a A c zs _ B hr hm HA.out).mono ?_
  rintro e w1 ⟨rfl, rfl⟩
  cases a with
  | false =>
    go_wp2
    go_ret
    rw [F.out]
    exact ⟨rfl, rfl⟩
  | true =>
    go_wp2_with fail
    refine (slContains_is m A c zs 2 _ B hr hm HC.out).mono ?_
    rintro e w1 ⟨rfl, rfl⟩
    cases m with
    | true =>
      go_wp2
      go_ret
      rw [F.out]
      exact ⟨rfl, rfl⟩
    | false =>
      go_wp2_with fail
      refine (abortable_is n A c zs _ B hr hm HN.out).mono ?_
      rintro e w1 ⟨rfl, rfl⟩
      cases n with
      | true =>
        go_wp2
        go_ret
        rw [F.out]
        exact ⟨rfl, rfl⟩
      | false =>
        go_wp2
        go_ret
        rw [F.out]
        exact ⟨rfl, rfl⟩
end Go.Proofs.Ytnojhfidljipoaa
