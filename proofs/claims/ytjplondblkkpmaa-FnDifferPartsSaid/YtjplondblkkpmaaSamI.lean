/-
  Walk: whether two lists of numbers are the same.
-/
import Derived.Test.YtjplondblkkpmaaG0C
namespace Go.Proofs.Ytjplondblkkpmaa
open Go.RowKit Wo Pu

set_option maxHeartbeats 2000000 in
theorem sameInts_b (B B' : Nat) (A A' : Option Addr) (c c' : Nat) (zs zs' : List Int) (w : World) (hr : Row w B A (ints zs)) (hr' : Row w B' A' (ints zs')) (hm : zs.length ≤ 1048576) (b : Bool) (hb : Hid (b = true ↔ zs = zs')) :
    Calls Try.prog 14 #[.slice A zs.length c, .slice A' zs'.length c'] w (Quiet (.bool b) w) := by
  by_cases h3 : zs.length = zs'.length
  · have H3 := hid h3
    have e3 : (((zs.length : Nat) : Int) != ((zs'.length : Nat) : Int)) = false := by rw [h3]; simp
    clear h3
    go_enter Try.func14, Try.ntmps14
    go_wp2_with fail
    go_loopw [5] (fun i wr => ∃ k : Nat, k ≤ zs.length ∧ i = .int .i64 k ∧ Dr w wr ∧ Hid (zs.take k = zs'.take k)) (fun i _ => zs.length - (intOf i).toNat)
    case atStart => exact ⟨0, Nat.zero_le _, rfl, .refl _, by show zs.take 0 = zs'.take 0; simp⟩
    case round =>
      obtain ⟨k, hk, rfl, HW, H⟩ := hrel
      obtain ⟨d, rfl⟩ := id HW
      by_cases hlt : k < zs.length
      · have hlt2 : k < zs'.length := by have := H3.out; omega
        obtain ⟨ad, rfl, _, hc⟩ := hr.int_ hlt
        obtain ⟨ad', rfl, _, hc'⟩ := hr'.int_ hlt2
        by_cases he : zs[k] = zs'[k]
        · have H2 : Hid (zs.take (k + 1) = zs'.take (k + 1)) := by
            show zs.take (k + 1) = zs'.take (k + 1)
            rw [List.take_succ_eq_append_getElem hlt, List.take_succ_eq_append_getElem hlt2, H.out, he]
          clear H
          go_wp2
          go_quiet (fail)
          go_wp2
          go_roundw
          case rel => exact ⟨k + 1, by omega, by go_num, ⟨_, rfl⟩, H2⟩
          case measure => simp [intOf]; omega
        · have F : Hid (b = false) := by
            show b = false
            cases b
            · rfl
            · refine absurd ?_ he
              have := hb.out.1 rfl
              simp only [this]
          clear H
          go_wp2
          go_quiet (fail)
          go_wp2
          go_ret
          rw [F.out]
          exact (HW.drewN _).quiet _
      · have hk' : k = zs.length := by omega
        have F : Hid (b = true) := hb.out.2 (by have := H.out; rw [hk', List.take_length, H3.out, List.take_length] at this; exact this)
        subst hk'
        clear H
        go_wp2
        go_ret
        rw [F.out]
        exact HW.quiet _
  · have F : Hid (b = false) := by
      show b = false
      cases b
      · rfl
      · exact absurd (congrArg List.length (hb.out.1 rfl)) h3
    go_enter Try.func14, Try.ntmps14
    go_wp2
    go_ret
    rw [F.out]
    exact (Dr.refl _).quiet _

theorem sameInts_bret (A A' : Option Addr) (c c' : Nat) (zs zs' : List Int) (w : World) (B B' : Nat) (hr : Row w B A (ints zs)) (hr' : Row w B' A' (ints zs')) (hm : zs.length ≤ 1048576) (b : Bool) (hb : b = true ↔ zs = zs') :
    Calls Try.prog 14 #[.slice A zs.length c, .slice A' zs'.length c'] w (Ret (.bool b) w) :=
  (sameInts_b B B' A A' c c' zs zs' w hr hr' hm b (hid hb)).mono fun _ _ ⟨he, d, hd⟩ => ⟨he, by subst hd; exact Wo.Below.drewN (Below.refl _ _) d⟩
set_option maxHeartbeats 1000000 in
theorem ascending_is (B : Nat) (A : Option Addr) (c : Nat) (L : List Int) (w : World) (hr : Row w B A (ints L)) (hm : L.length ≤ 1048576) (HA : Hid (L.Pairwise (· < ·))) :
    Calls Try.prog 24 #[.slice A L.length c] w (Ret (.bool true) w) := by
  go_enter Try.func24, Try.ntmps24
  go_wp2
  go_loopw [3] (fun i wr => ∃ k : Nat, 1 ≤ k ∧ k ≤ L.length + 1 ∧ i = .int .i64 k ∧ Dr w wr) (fun i _ => L.length - (intOf i).toNat)
  case atStart => exact ⟨1, by omega, by omega, rfl, .refl _⟩
  case round =>
    obtain ⟨k, hk0, hk, rfl, HW⟩ := hrel
    by_cases hlt : k < L.length
    · obtain ⟨ad, rfl, hb, hc⟩ := (HW.row hr).int_ hlt
      obtain ⟨ad', he, _, hc'⟩ := (HW.row hr).int_ (k := k - 1) (by omega)
      obtain rfl : ad = ad' := by injection he
      clear he
      have hlt2 := List.pairwise_iff_getElem.1 HA.out (k - 1) k (by omega) hlt (by omega)
      have hle : ¬ L[k] ≤ L[k - 1] := by omega
      have k0 : 0 ≤ (k : Int) - 1 := by omega
      have k1 : (k : Int) - 1 < (L.length : Int) := by omega
      have kn : ((k : Int) - 1).toNat = k - 1 := by omega
      have kw : IntKind.i64.wrap ((k : Int) - 1) = (k : Int) - 1 := IntWalk.i64_in _ (by omega)
      go_wp2
      go_quiet (fail)
      clear kw kn
      go_wp2
      go_roundw
      case rel => exact ⟨k + 1, by omega, by omega, by go_num, HW.drewN _⟩
      case measure => simp [intOf]; omega
    · go_wp2
      go_ret
      exact .mk_ (HW.below _)
end Go.Proofs.Ytjplondblkkpmaa
