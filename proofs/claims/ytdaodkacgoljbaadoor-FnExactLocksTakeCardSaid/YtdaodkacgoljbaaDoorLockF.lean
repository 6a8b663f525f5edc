/-
  Walks: locks freed, and whose they are, by the model.
-/
import Derived.Test.YtdaodkacgoljbaaDoorLockT
namespace Go.Proofs.YtdaodkacgoljbaaDoor
open Go.RowKit Wo Pu Rf Lk

theorem free_next {zs : List Int} {t : Int} {k : Nat} (h : k < zs.length) : freeL t (zs.take (k + 1)) = freeL t (zs.take k) ++ [free1 t zs[k]] := by
  unfold freeL
  rw [List.take_succ_eq_append_getElem h, List.map_append]
  rfl
end Go.Proofs.YtdaodkacgoljbaaDoor
