/-
  Walks: which refs and updates are valid, by the model; what it makes of them.
-/
import Derived.Test.YtelmeknpmlbplaaUpK
namespace Go.Proofs.Ytelmeknpmlbplaa
open Go.RowKit Wo Pu Rf

/-! ### Ids. -/
instance (n : Int) : Decidable (Val n) := by unfold Val; exact inferInstance
theorem l11Value_is (b : Bool) (n : Int) (w : World) (hb : b = true ↔ Val n) : Calls Try.prog 113 #[.int .i64 n] w (Same (.bool b) w) := by
  have HB := hid hb
  clear hb
  by_cases h : Val n
  · have F := hid (HB.out.2 h)
    obtain ⟨h1, h2⟩ := h
    go_enter Try.func113, Try.ntmps113
    go_wp2_with (go_at_call 53; refine (l6In_yes n (-1) 990 _ h1 h2).mono ?_; rintro e w' ⟨rfl, rfl⟩)
    go_ret
    rw [F.out]
    exact ⟨rfl, rfl⟩
  · have F : Hid (b = false) := by
      show b = false
      rw [← Bool.not_eq_true]
      exact fun e => h (HB.out.1 e)
    have h' : n < -1 ∨ 990 < n := by unfold Val at h; omega
    clear h
    go_enter Try.func113, Try.ntmps113
    go_wp2_with (go_at_call 53; refine (l6In_no n (-1) 990 _ h').mono ?_; rintro e w' ⟨rfl, rfl⟩)
    go_ret
    rw [F.out]
    exact ⟨rfl, rfl⟩
/-- The first k are ids. -/
def ValTo (zs : List Int) (k : Nat) : Prop := ∀ z ∈ zs.take k, Val z
theorem ValTo.zero (zs : List Int) : ValTo zs 0 := fun z h => by simp at h
theorem ValTo.next {zs : List Int} {k : Nat} (h : ValTo zs k) (hk : k < zs.length) (hv : Val zs[k]) : ValTo zs (k + 1) := fun z hz => by
  rw [List.take_succ_eq_append_getElem hk] at hz
  rcases List.mem_append.1 hz with hz | hz
  · exact h z hz
  · rw [List.mem_singleton.1 hz]; exact hv
theorem ValTo.all {zs : List Int} (h : ValTo zs zs.length) : ∀ z ∈ zs, Val z := by unfold ValTo at h; rwa [List.take_length] at h
end Go.Proofs.Ytelmeknpmlbplaa
