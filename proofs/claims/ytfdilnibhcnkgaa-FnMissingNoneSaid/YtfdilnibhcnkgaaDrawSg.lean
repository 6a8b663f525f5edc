/-
  Walks: the drawn arguments of StoreValid and of StoreGet.
-/
import Derived.Test.YtfdilnibhcnkgaaDrawSp
namespace Go.Proofs.Ytfdilnibhcnkgaa
open Go.RowKit Wo Pu

/-- A list of valid objects of the call's own. -/
def StMade (w : World) (e : Ending) (w' : World) : Prop :=
  ∃ v os, e = .returned v ∧ OwnObs w' w.heap.size v os ∧ os.length ≤ 22 ∧ (∀ p ∈ os, vOb p = true) ∧ Below w.heap.size w w'
/-- The same, and a number. -/
def SgMade (w : World) (e : Ending) (w' : World) : Prop :=
  ∃ v os x, e = .returned (.tuple #[v, .int .i64 x]) ∧ OwnObs w' w.heap.size v os ∧ os.length ≤ 22 ∧ (∀ p ∈ os, vOb p = true) ∧ -1 ≤ x ∧ x ≤ 999 ∧ Below w.heap.size w w'

set_option maxHeartbeats 4000000 in
theorem DrawStoreValid_any (A : Option Addr) (c : Nat) (bs : List Int) (w : World) (h : Code_ w A c bs) :
    Calls Try.prog 22 #[.slice A bs.length c] w (StMade w) := by
  go_enter Try.func22, Try.ntmps22
  go_wp2_with fail
  refine (l6Open_any A c bs w h).mono ?_
  rintro e w1 ⟨rfl, R1, b1⟩
  go_wp2_with fail
  refine (l91Spoilt_any w.heap.size 0 w1 R1 (by omega)).mono ?_
  rintro e w2 ⟨v, os, rfl, h2, hl, hv, R2, T2⟩
  go_wp2
  go_ret
  exact ⟨v, os, rfl, h2.base b1.size, hl, hv, b1.trans (T2.below b1.size (Nat.le_refl _))⟩

end Go.Proofs.Ytfdilnibhcnkgaa
