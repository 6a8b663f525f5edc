/-
  Walks: the laws' own helpers on updates: compared, turned round.
-/
import Derived.Test.YtimoabghkmebfabDrawV
namespace Go.Proofs.Ytimoabghkmebfab
open Go.RowKit Wo Pu Rf

set_option maxHeartbeats 2000000 in
theorem sameUpdates_ret (A A2 : Option Addr) (c c2 : Nat) (os : List Up) (w : World) (B C : Nat) (h : Row w B A (upsV os)) (h2 : Row w C A2 (upsV os)) (hn : os.length ≤ 1048600) :
    Calls Try.prog 21 #[.slice A os.length c, .slice A2 os.length c2] w (Ret (.bool true) w) := by
  go_enter Try.func21, Try.ntmps21
  go_wp2
  go_loopw [5] (fun i wr => ∃ k : Nat, k ≤ os.length ∧ i = .int .i64 k ∧ Dr w wr) (fun i _ => os.length - (intOf i).toNat)
  case atStart => exact ⟨0, Nat.zero_le _, rfl, .refl _⟩
  case round =>
    obtain ⟨k, hk, rfl, HW⟩ := hrel
    by_cases hlt : k < os.length
    · obtain ⟨o, ad, ho, rfl, ha1, g0, g1, g2⟩ := (HW.row h).up_ hlt
      obtain ⟨o2, ad2, ho2, rfl, ha2, g20, g21, g22⟩ := (HW.row h2).up_ hlt
      obtain rfl : o = o2 := by rw [← ho, ← ho2]
      have k0 : 0 ≤ (k : Int) := by omega
      have k1 : (k : Int) < (os.length : Int) := by omega
      clear ho ho2
      go_wp2
      go_quiet (fail)
      go_wp2
      go_roundw
      case rel => exact ⟨k + 1, by omega, by go_num, HW.drewN _⟩
      case measure => simp [intOf]; omega
    · have hk' : k = os.length := by omega
      subst hk'
      go_wp2
      go_ret
      exact .mk_ (HW.below _)
end Go.Proofs.Ytimoabghkmebfab
