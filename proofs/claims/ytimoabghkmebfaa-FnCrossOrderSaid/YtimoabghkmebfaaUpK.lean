/-
  Walks: the laws' own helpers on updates: copies, comparisons, sizes, inverses, marks.
-/
import Derived.Test.YtimoabghkmebfaaUps
import Derived.Test.YtimoabghkmebfaaIntK
import Derived.Deep.RegionLaw
namespace Go.Proofs.Ytimoabghkmebfaa
open Go.RowKit Wo Pu Rf

/-- An update as a value. -/
def upA (o : Up) : Value := .agg #[.int .i64 o.r, .int .i64 o.o, .int .i64 o.n]
end Go.Proofs.Ytimoabghkmebfaa
