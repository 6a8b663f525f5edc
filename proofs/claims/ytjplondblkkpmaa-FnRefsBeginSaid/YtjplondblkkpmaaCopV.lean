/-
  Walk: a transaction is aborted late, by the program.
-/
import Derived.Test.YtjplondblkkpmaaG3C
import Derived.Test.YtjplondblkkpmaaValK
import Derived.Test.YtjplondblkkpmaaG5C
namespace Go.Proofs.Ytjplondblkkpmaa
open Go.RowKit Wo Pu Rf Co

end Go.Proofs.Ytjplondblkkpmaa
