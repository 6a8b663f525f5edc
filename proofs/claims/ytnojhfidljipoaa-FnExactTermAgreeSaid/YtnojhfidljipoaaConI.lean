/-
  Walks: whether a list has a number, by the standard library.
-/
import Derived.Test.YtnojhfidljipoaaHasL
namespace Go.Proofs.Ytnojhfidljipoaa
open Go.RowKit Wo Pu
set_option linter.unusedVariables false
set_option linter.unusedSimpArgs false

/-- Where a number is first. -/
def AtI (zs : List Int) (x z : Int) : Prop := (∃ (k : Nat) (h : k < zs.length), z = (k : Int) ∧ zs[k] = x) ∨ (z = -1 ∧ x ∉ zs)
def NaTo (zs : List Int) (x : Int) (k : Nat) : Prop := ∀ j (h : j < zs.length), j < k → zs[j] ≠ x
theorem NaTo.zero (zs : List Int) (x : Int) : NaTo zs x 0 := fun _ _ h => absurd h (Nat.not_lt_zero _)
theorem NaTo.next {zs : List Int} {x : Int} {k : Nat} (h : NaTo zs x k) (hk : k < zs.length) (hv : zs[k] ≠ x) : NaTo zs x (k + 1) := fun i hi hl => by
  by_cases e : i = k
  · subst e; exact hv
  · exact h i hi (by omega)
theorem NaTo.all {zs : List Int} {x : Int} (h : NaTo zs x zs.length) : x ∉ zs := fun hm => by
  obtain ⟨j, hj, e⟩ := List.mem_iff_getElem.1 hm
  exact h j hj hj e
/-- Behind it: an index. -/
def AtO (zs : List Int) (x : Int) (w : World) (e : Ending) (w' : World) : Prop := ∃ z, e = .returned (.int .i64 z) ∧ AtI zs x z ∧ w' = w
set_option maxHeartbeats 4000000 in
theorem slIndex_is (A : Option Addr) (c : Nat) (zs : List Int) (x : Int) (w : World) (B : Nat) (hr : Row w B A (ints zs)) (hm : zs.length ≤ 1048600) :
    Calls Try.prog 27 #[.slice A zs.length c, .int .i64 x] w (AtO zs x w) := by
  go_enter Try.func27, Try.ntmps27
  go_wp2_with fail
  go_loopw [8] (fun i wr => ∃ k : Nat, k ≤ zs.length ∧ i = .int .i64 k ∧ Hid (NaTo zs x k) ∧ wr = w) (fun i _ => zs.length - (intOf i).toNat)
  case atStart => exact ⟨0, Nat.zero_le _, rfl, .zero _ _, rfl⟩
  case round =>
    obtain ⟨k, hk, rfl, H, rfl⟩ := hrel
    by_cases hlt : k < zs.length
    · obtain ⟨ad, rfl, hbl, hcell⟩ := hr.int_ hlt
      have k0 : (0 : Int) ≤ (k : Int) := by omega
      have k1 : (k : Int) < (zs.length : Int) := by omega
      obtain ⟨y, hy⟩ : ∃ y, zs[k] = y := ⟨_, rfl⟩
      rw [hy] at hcell
      by_cases hxy : x = y
      · have e0 : (x == y) = true := beq_iff_eq.2 hxy
        have HF := hid (show AtI zs x (k : Int) from .inl ⟨k, hlt, rfl, by rw [hy]; exact hxy.symm⟩)
        clear hxy hy
        go_wp2
        go_ret
        exact ⟨_, rfl, HF.out, rfl⟩
      · have e0 : (x == y) = false := beq_eq_false_iff_ne.2 hxy
        have HN := hid (H.out.next hlt (by rw [hy]; exact fun e => hxy e.symm))
        clear hxy hy
        go_wp2
        go_roundw
        case rel => exact ⟨k + 1, by omega, by go_num, HN, trivial⟩
        case measure => simp [intOf]; omega
    · have hk' : k = zs.length := by omega
      subst hk'
      have HF := hid (show AtI zs x (-1) from .inr ⟨rfl, H.out.all⟩)
      go_wp2
      go_ret
      exact ⟨_, rfl, HF.out, rfl⟩
set_option maxHeartbeats 4000000 in
theorem slContains_is (b : Bool) (A : Option Addr) (c : Nat) (zs : List Int) (x : Int) (w : World) (B : Nat) (hr : Row w B A (ints zs)) (hm : zs.length ≤ 1048600) (hb : b = true ↔ x ∈ zs) :
    Calls Try.prog 20 #[.slice A zs.length c, .int .i64 x] w (Same (.bool b) w) := by
  have HB := hid hb
  clear hb
  go_enter Try.func20, Try.ntmps20
  go_wp2_with fail
  refine (slIndex_is A c zs x _ B hr hm).mono ?_
  rintro e w1 ⟨z, rfl, hz, rfl⟩
  have F : Hid (b = decide (0 ≤ z)) := by
    show _ = _
    rw [Bool.eq_iff_iff, HB.out, decide_eq_true_eq]
    rcases hz with ⟨k, hk, rfl, e⟩ | ⟨rfl, hn⟩
    · exact ⟨fun _ => by omega, fun _ => e ▸ List.getElem_mem hk⟩
    · exact ⟨fun h => absurd h hn, fun h => by omega⟩
  clear HB hz
  go_wp2
  go_ret
  rw [F.out]
  exact ⟨rfl, rfl⟩
end Go.Proofs.Ytnojhfidljipoaa
