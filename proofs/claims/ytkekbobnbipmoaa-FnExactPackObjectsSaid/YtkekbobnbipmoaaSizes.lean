/-
  Walks: sizes of operations, and the laws' own helpers on them: copies and comparisons.
-/
import Derived.Test.YtkekbobnbipmoaaOps
import Derived.Test.YtkekbobnbipmoaaIds
namespace Go.Proofs.Ytkekbobnbipmoaa
open Go.RowKit Wo Pu

theorem Same.int_ {a b : Int} {w : World} (h : b = a) : Same (.int .i64 a) w (.returned (.int .i64 b)) w := by subst h; exact ⟨rfl, rfl⟩
/-- An operation as a value. -/
def opA (o : Op2) : Value := .agg #[.int .i64 o.a, .int .i64 o.n, .string o.t]

set_option maxHeartbeats 1000000 in
theorem implDeltaSize_any (A : Option Addr) (c : Nat) (os : List Op2) (w : World) (h : Row w w.heap.size A (opsV os)) (hn : os.length ≤ 1048576) (ht : tsz os os.length ≤ 1048576) :
    Calls Try.prog 71 #[.slice A os.length c] w (Ret (.int .i64 (dsz os)) w) := by
  go_enter Try.func71, Try.ntmps71
  go_wp2_with fail
  go_loopw [3, 10] (fun l i wr => ∃ k : Nat, k ≤ os.length ∧ i = .int .i64 k ∧ l = .int .i64 ((os.length : Int) + (tsz os k : Nat)) ∧ tsz os k ≤ 1048576 ∧ Below w.heap.size w wr) (fun _ i _ => os.length - (intOf i).toNat)
  case atStart => exact ⟨0, Nat.zero_le _, rfl, by rw [tsz_zero]; simp, by rw [tsz_zero]; omega, Below.refl _ _⟩
  case round =>
    obtain ⟨k, hk, rfl, rfl, hq, hb⟩ := hrel
    by_cases hlt : k < os.length
    · obtain ⟨o, ad, ho, rfl, ha, g0, g1, g2⟩ := (h.below hb (Nat.le_refl _)).op_ hlt
      have hs := tsz_succ hlt
      have hl := tsz_le (os := os) (k := k + 1) (by omega)
      rw [ho] at hs
      have HS := hid hs
      have hso : tsz os k + o.t.size ≤ 1048576 := by omega
      have hz := hb.size
      clear ho hs hl
      go_wp2
      go_roundw
      case rel => exact ⟨k + 1, by omega, by go_num, by rw [HS.out]; congr 1; omega, by rw [HS.out]; exact hso, hb.alloc hz _⟩
      case measure => simp [intOf]; omega
    · have hk' : k = os.length := by omega
      subst hk'
      go_wp2
      go_ret
      exact .int_ (by unfold dsz; rw [Int.natCast_add]) hb
set_option maxHeartbeats 1000000 in
theorem specDeltaSize_any (A : Option Addr) (c : Nat) (os : List Op2) (w : World) (h : Row w w.heap.size A (opsV os)) (hn : os.length ≤ 1048576) (ht : tsz os os.length ≤ 1048576) :
    Calls Try.prog 73 #[.slice A os.length c] w (Same (.int .i64 (dsz os)) w) := by
  go_enter Try.func73, Try.ntmps73
  go_wp2_with fail
  go_loop [3, 4] (fun l i => ∃ k : Nat, k ≤ os.length ∧ i = .int .i64 k ∧ l = .int .i64 ((k : Int) + (tsz os k : Nat)) ∧ tsz os k ≤ 1048576) (fun _ i => os.length - (intOf i).toNat)
  case atStart => exact ⟨0, Nat.zero_le _, rfl, by rw [tsz_zero]; simp, by rw [tsz_zero]; omega⟩
  case round =>
    obtain ⟨k, hk, rfl, rfl, hq⟩ := hrel
    by_cases hlt : k < os.length
    · obtain ⟨o, ad, ho, rfl, ha, g0, g1, g2⟩ := h.op_ hlt
      have hs := tsz_succ hlt
      have hl := tsz_le (os := os) (k := k + 1) (by omega)
      rw [ho] at hs
      have HS := hid hs
      have hso : tsz os k + o.t.size ≤ 1048576 := by omega
      clear ho hs hl
      go_wp2
      go_round
      case rel => exact ⟨k + 1, by omega, by go_num, by rw [HS.out]; congr 1; omega, by rw [HS.out]; exact hso⟩
      case measure => simp [intOf]; omega
    · have hk' : k = os.length := by omega
      subst hk'
      go_wp2
      go_ret
      exact .int_ (by unfold dsz; rw [Int.natCast_add])

set_option maxHeartbeats 2000000 in
theorem sameOps_same (A A2 : Option Addr) (c c2 : Nat) (os : List Op2) (w : World) (h : Row w w.heap.size A (opsV os)) (h2 : Row w w.heap.size A2 (opsV os)) (hn : os.length ≤ 1048576) :
    Calls Try.prog 42 #[.slice A os.length c, .slice A2 os.length c2] w (Ret (.bool true) w) := by
  go_enter Try.func42, Try.ntmps42
  go_wp2
  go_loopw [5] (fun i wr => ∃ k : Nat, k ≤ os.length ∧ i = .int .i64 k ∧ Dr w wr) (fun i _ => os.length - (intOf i).toNat)
  case atStart => exact ⟨0, Nat.zero_le _, rfl, .refl _⟩
  case round =>
    obtain ⟨k, hk, rfl, HW⟩ := hrel
    by_cases hlt : k < os.length
    · obtain ⟨o, ad, ho, rfl, ha1, g0, g1, g2⟩ := (HW.row h).op_ hlt
      obtain ⟨o2, ad2, ho2, rfl, ha2, g20, g21, g22⟩ := (HW.row h2).op_ hlt
      obtain rfl : o = o2 := by rw [← ho, ← ho2]
      have k0 : 0 ≤ (k : Int) := by omega
      have k1 : (k : Int) < (os.length : Int) := by omega
      clear ho ho2
      go_wp2_with fail
      go_quiet (fail)
      go_wp2
      go_roundw
      case rel => exact ⟨k + 1, by omega, by go_num, HW.drewN _⟩
      case measure => simp [intOf]; omega
    · have hk' : k = os.length := by omega
      subst hk'
      go_wp2
      go_ret
      exact .mk_ (HW.below _)
end Go.Proofs.Ytkekbobnbipmoaa
