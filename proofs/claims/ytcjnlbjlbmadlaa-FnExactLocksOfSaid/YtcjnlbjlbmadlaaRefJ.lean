/-
  Walks: the program's updates of an array of refs; which refs are updated.
-/
import Derived.Test.YtcjnlbjlbmadlaaRefH
namespace Go.Proofs.Ytcjnlbjlbmadlaa
open Go.RowKit Wo Pu Rf

/-- What updated answers. -/
def Updt (b : Bool) (zs : List Int) (us : List Up) (w : World) (e : Ending) (w' : World) : Prop := e = .returned (.tuple #[.agg (ints (if b then setR zs us else zs)).toArray, .bool b]) ∧ Below w.heap.size w w'
theorem Arr4.setRow {w : World} {g : Nat} {t : TypeId} {vs : List Value} (h : Arr4 w g t vs) (cs : List Value) : Arr4 (w.setRow g cs.toArray) g t cs := setRow_heap w g _ _ t _ h
theorem Arr4.farRow {w : World} {g g' : Nat} {t : TypeId} {vs : List Value} (h : Arr4 w g t vs) (hg : g ≠ g') (cs : Array Value) : Arr4 (w.setRow g' cs) g t vs := (setRow_other w g' g cs hg).trans h
theorem Arr4.alloc {w : World} {g : Nat} {t : TypeId} {vs : List Value} (h : Arr4 w g t vs) (o : Obj) : Arr4 (w.alloc o) g t vs := (heap_alloc_old w o h.lt).trans h
end Go.Proofs.Ytcjnlbjlbmadlaa
