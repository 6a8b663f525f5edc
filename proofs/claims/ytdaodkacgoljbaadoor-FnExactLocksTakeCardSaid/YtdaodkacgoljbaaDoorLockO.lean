/-
  Walks: LocksFree and LocksOf of the model.
-/
import Derived.Test.YtdaodkacgoljbaaDoorLockF
namespace Go.Proofs.YtdaodkacgoljbaaDoor
open Go.RowKit Wo Pu Rf Lk

end Go.Proofs.YtdaodkacgoljbaaDoor
