/-
  Walks of laws on votes of coordinators.
-/
import Derived.Test.YtelmeknpmlbplaaVotJ
import Derived.Test.YtelmeknpmlbplaaCopB
import Derived.Test.YtelmeknpmlbplaaDrawE
import Derived.Test.YtelmeknpmlbplaaSameC
namespace Go.Proofs.Ytelmeknpmlbplaa
open Go.RowKit Wo Pu Rf Co

end Go.Proofs.Ytelmeknpmlbplaa
