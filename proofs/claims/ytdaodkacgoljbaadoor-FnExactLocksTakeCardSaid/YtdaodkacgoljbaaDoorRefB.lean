/-
  Walks: RefsApply, RefsDiffer and UpdatesCross of the model.
-/
import Derived.Test.YtdaodkacgoljbaaDoorRefA
namespace Go.Proofs.YtdaodkacgoljbaaDoor
open Go.RowKit Wo Pu Rf

/-- What RefsApply answers. -/
def Applied (zs : List Int) (us : List Up) (y : RWay) (w : World) (e : Ending) (w' : World) : Prop := ∃ A c, e = .returned (.tuple #[.slice A (applied zs us y).length c, .bool y.ok]) ∧ OwnI w' w.heap.size (.slice A (applied zs us y).length c) (applied zs us y) ∧ Below w.heap.size w w'
end Go.Proofs.YtdaodkacgoljbaaDoor
