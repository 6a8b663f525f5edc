/-
  Walk: whether a list has a number.
-/
import Derived.Test.YteeffchnbkkpfabDoorLockI
namespace Go.Proofs.YteeffchnbkkpfabDoor
open Go.RowKit Wo Pu Rf Lk

def NotTo (zs : List Int) (x : Int) (k : Nat) : Prop := x ∉ zs.take k
theorem NotTo.zero (zs : List Int) (x : Int) : NotTo zs x 0 := by unfold NotTo; simp
theorem NotTo.next {zs : List Int} {x : Int} {k : Nat} (h : NotTo zs x k) (hk : k < zs.length) (hv : ¬ zs[k] = x) : NotTo zs x (k + 1) := by
  unfold NotTo at *
  rw [List.take_succ_eq_append_getElem hk]
  intro hm
  rcases List.mem_append.1 hm with hm | hm
  · exact h hm
  · exact hv (List.mem_singleton.1 hm).symm
theorem NotTo.all {zs : List Int} {x : Int} (h : NotTo zs x zs.length) : x ∉ zs := by unfold NotTo at h; rwa [List.take_length] at h
end Go.Proofs.YteeffchnbkkpfabDoor
