/-
  Walk: whether a list has a number.
-/
import Derived.Test.YtelmeknpmlbplaaG0C
namespace Go.Proofs.Ytelmeknpmlbplaa
open Go.RowKit Wo Pu

end Go.Proofs.Ytelmeknpmlbplaa
