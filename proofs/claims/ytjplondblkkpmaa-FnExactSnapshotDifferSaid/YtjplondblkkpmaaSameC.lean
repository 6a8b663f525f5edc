/-
  Walks: the laws' own comparisons of parts and coordinators.
-/
import Derived.Test.YtjplondblkkpmaaG0C
import Derived.Test.YtjplondblkkpmaaG3C
import Derived.Deep.Cut
namespace Go.Proofs.Ytjplondblkkpmaa
open Go.RowKit Wo Pu Rf Co

theorem RowC.later {B : Nat} {W : World} {A : Option Addr} {xs : List Value} (h : Row W B A xs) (x : Later B W) : Row x.w B A xs := h.below x.h (Nat.le_refl _)
theorem Parts.later_ {B : Nat} {W : World} {A : Option Addr} {ps : List Part} (h : Parts W B A ps) (x : Later B W) : Parts x.w B A ps := h.below x.h (Nat.le_refl _)
end Go.Proofs.Ytjplondblkkpmaa
