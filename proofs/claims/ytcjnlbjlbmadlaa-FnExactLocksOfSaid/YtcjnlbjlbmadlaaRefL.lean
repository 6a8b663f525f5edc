/-
  Walks: the laws' own helpers on updates: compared, turned round.
-/
import Derived.Test.YtcjnlbjlbmadlaaDrawV
namespace Go.Proofs.Ytcjnlbjlbmadlaa
open Go.RowKit Wo Pu Rf

end Go.Proofs.Ytcjnlbjlbmadlaa
