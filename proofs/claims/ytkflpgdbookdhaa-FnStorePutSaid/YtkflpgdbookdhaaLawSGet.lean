/-
  Walk of the law on what StoreGet finds in drawn stores.
-/
import Derived.Test.YtkflpgdbookdhaaDrawSg
import Derived.Test.YtkflpgdbookdhaaLawGet
import Derived.Test.YtkflpgdbookdhaaLawsOb
namespace Go.Proofs.Ytkflpgdbookdhaa
open Go.RowKit Wo Pu

set_option maxHeartbeats 1000000 in
theorem sameInts_same (B C : Nat) (A A' : Option Addr) (c c' : Nat) (zs : List Int) (w : World) (hr : Row w B A (ints zs)) (hr' : Row w C A' (ints zs)) (hm : zs.length ≤ maxLen) :
    Calls Try.prog 30 #[.slice A zs.length c, .slice A' zs.length c'] w (Quiet (.bool true) w) := by
  unfold maxLen at hm
  go_enter Try.func30, Try.ntmps30
  go_wp2
  go_loopw [5] (fun i wr => ∃ k : Nat, k ≤ zs.length ∧ i = .int .i64 k ∧ Dr w wr) (fun i _ => zs.length - (intOf i).toNat)
  case atStart => exact ⟨0, Nat.zero_le _, rfl, .refl _⟩
  case round =>
    obtain ⟨k, hk, rfl, HW⟩ := hrel
    by_cases hlt : k < zs.length
    · obtain ⟨ad, rfl, hb, hc⟩ := (HW.row hr).int_ hlt
      obtain ⟨ad', rfl, hb', hc'⟩ := (HW.row hr').int_ hlt
      go_wp2
      go_quiet (fail)
      go_wp2
      go_roundw
      case rel => exact ⟨k + 1, by omega, by go_num, HW.drewN _⟩
      case measure => simp [intOf]; omega
    · have hk' : k = zs.length := by omega
      subst hk'
      go_wp2
      go_ret
      exact HW.quiet _

theorem sameObject_same (B C : Nat) (A A' : Option Addr) (c c' : Nat) (kd : Int) (zs : List Int) (s : ByteArray) (w : World) (hr : Row w B A (ints zs)) (hr' : Row w C A' (ints zs)) (hB : B ≤ w.heap.size) (hC : C ≤ w.heap.size) (hm : zs.length ≤ maxLen) :
    Calls Try.prog 23 #[ob kd A zs.length c s, ob kd A' zs.length c' s] w (Ret (.bool true) w) := by
  unfold ob
  go_enter Try.func23, Try.ntmps23
  go_wp2_with fail
  refine (sameInts_same B C A A' c c' zs _ ((hr.alloc hB _).alloc (by simp; omega) _) ((hr'.alloc hC _).alloc (by simp; omega) _) hm).mono ?_
  rintro e w1 ⟨rfl, d, rfl⟩
  go_wp2
  go_ret
  exact .mk_ (Wo.Below.drewN (((Below.refl _ _).alloc (Nat.le_refl _) _).alloc (by simp) _) _)

theorem fnd_is {os : List Ob} {x : Int} {r : Nat} (h : (fndO os x r).isSome = true) : iOb ((fndO os x r).getD ob0) = x ∧ (fndO os x r).getD ob0 ∈ os := by
  unfold fndO at h ⊢
  split at h
  · rename_i hs
    rw [if_pos hs]
    by_cases hr : r < os.length
    · by_cases hi : iOb os[r] = x
      · simp [hr, Option.filter, hi]
      · simp [hr, Option.filter, hi] at h
    · simp [hr] at h
  · cases h

end Go.Proofs.Ytkflpgdbookdhaa
