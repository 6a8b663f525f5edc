/-
  Walks: the shards that a transaction waits for, and a transaction after a vote, by the program.
-/
import Derived.Test.YtjplondblkkpmaaG3C
import Derived.Test.YtjplondblkkpmaaTxnJ
import Derived.Test.YtjplondblkkpmaaG5X
namespace Go.Proofs.Ytjplondblkkpmaa
open Go.RowKit Wo Pu Rf Co

set_option linter.unusedVariables false in
/-- The shards that it waits for, if it is not decided. -/
def waitsD (t : Tx) : List Int := if t.d = 0 then waitsT t else []
end Go.Proofs.Ytjplondblkkpmaa
