/-
  Walks of laws on votes of coordinators.
-/
import Derived.Test.YtjplondblkkpmaaVotJ
import Derived.Test.YtjplondblkkpmaaCopB
import Derived.Test.YtjplondblkkpmaaDrawE
import Derived.Test.YtjplondblkkpmaaSameC
namespace Go.Proofs.Ytjplondblkkpmaa
open Go.RowKit Wo Pu Rf Co

end Go.Proofs.Ytjplondblkkpmaa
