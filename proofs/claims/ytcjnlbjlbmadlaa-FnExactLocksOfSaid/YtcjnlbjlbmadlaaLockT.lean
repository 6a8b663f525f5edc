/-
  Walks: locks taken, by the model.
-/
import Derived.Test.YtcjnlbjlbmadlaaLockS
namespace Go.Proofs.Ytcjnlbjlbmadlaa
open Go.RowKit Wo Pu Rf Lk

/-- Behind it: numbers of the call's own, and whether. -/
def Took (qs : List Int) (ok : Bool) (w : World) (e : Ending) (w' : World) : Prop := ∃ A c, e = .returned (.tuple #[.slice A qs.length c, .bool ok]) ∧ OwnI w' w.heap.size (.slice A qs.length c) qs ∧ Below w.heap.size w w'
/-- What l12Take answers. -/
def takes (zs : List Int) (t : Int) (us : List Up) (ok : Bool) : List Int := if ok then setR zs (lk t us) else zs
theorem lk_get {t : Int} {us : List Up} {k : Nat} (h : k < us.length) (h2 : k < (lk t us).length) : (lk t us)[k] = lk1 t us[k] := by
  have e : (lk t us)[k]? = some (lk1 t us[k]) := by
    unfold lk
    rw [List.getElem?_map, List.getElem?_eq_getElem h]
    rfl
  rw [List.getElem?_eq_getElem h2] at e
  injection e
end Go.Proofs.Ytcjnlbjlbmadlaa
