/-
  Walk: whether a list has a number.
-/
import Derived.Test.YtjplondblkkpmaaG0C
namespace Go.Proofs.Ytjplondblkkpmaa
open Go.RowKit Wo Pu

set_option maxHeartbeats 4000000 in
theorem hasInt_is (b : Bool) (A : Option Addr) (c : Nat) (zs : List Int) (x : Int) (w : World) (B : Nat) (hr : Row w B A (ints zs)) (hm : zs.length ≤ 1048600) (hb : b = true ↔ x ∈ zs) :
    Calls Try.prog 20 #[.slice A zs.length c, .int .i64 x] w (Same (.bool b) w) := by
  have HB := hid hb
  clear hb
  go_enter Try.func20, Try.ntmps20
  go_wp2_with fail
  go_loop [5] (fun i => ∃ k : Nat, k ≤ zs.length ∧ i = .int .i64 k ∧ Hid (NotTo zs x k)) (fun i => zs.length - (intOf i).toNat)
  case atStart => exact ⟨0, Nat.zero_le _, rfl, .zero zs x⟩
  case round =>
    obtain ⟨k, hk, rfl, H⟩ := hrel
    by_cases hlt : k < zs.length
    · obtain ⟨ad, rfl, hbl, hc⟩ := hr.int_ hlt
      have q0 : (0 : Int) ≤ (k : Int) := by omega
      have q1 : (k : Int) < (zs.length : Int) := by omega
      by_cases hv : zs[k] = x
      · have e0 : (zs[k] == x) = true := by rw [beq_iff_eq]; exact hv
        have F := hid (HB.out.2 (by rw [← hv]; exact List.getElem_mem hlt))
        clear H hv
        go_wp2
        go_ret
        rw [F.out]
        exact ⟨rfl, rfl⟩
      · have e0 : (zs[k] == x) = false := by rw [beq_eq_false_iff_ne]; exact hv
        have HN := hid (H.out.next hlt hv)
        clear H hv
        go_wp2
        go_round
        case rel => exact ⟨k + 1, by omega, by go_num, HN⟩
        case measure => simp [intOf]; omega
    · have hk' : k = zs.length := by omega
      subst hk'
      have F : Hid (b = false) := by
        show b = false
        rw [← Bool.not_eq_true]
        exact fun e => H.out.all (HB.out.1 e)
      clear H
      go_wp2
      go_ret
      rw [F.out]
      exact ⟨rfl, rfl⟩
end Go.Proofs.Ytjplondblkkpmaa
