/-
  Walks: the laws' own helpers on updates: compared, turned round.
-/
import Derived.Test.YtdaodkacgoljbaaDoorDrawV
namespace Go.Proofs.YtdaodkacgoljbaaDoor
open Go.RowKit Wo Pu Rf

end Go.Proofs.YtdaodkacgoljbaaDoor
