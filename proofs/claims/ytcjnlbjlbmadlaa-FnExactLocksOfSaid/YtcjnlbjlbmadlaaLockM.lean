/-
  Words for the laws on locks.
-/
import Derived.Test.YtcjnlbjlbmadlaaLockI
namespace Go.Proofs.Ytcjnlbjlbmadlaa
open Go.RowKit Wo Pu Rf Lk

theorem Wo.Row.on {w w' : World} {A : Option Addr} {vs : List Value} (h : Row w w.heap.size A vs) (hb : Below w.heap.size w w') : Row w' w'.heap.size A vs := (h.below hb (Nat.le_refl _)).more hb.size
theorem took_le {zs : List Int} {us : List Up} {y : RWay} {n : Nat} (h : zs.length ≤ n) : (applied zs us y).length ≤ n := by
  cases y with
  | bad => exact Nat.zero_le _
  | no => exact h
  | yes => show (setR zs us).length ≤ n; rw [setR_length]; exact h
theorem lway_yes {zs : List Int} {t : Int} {us : List Up} {y : RWay} {qs : List Int} (h : IsLWay zs t us y) (hk : y.ok = true) (hq : applied zs (lk t us) y = qs) : LV zs ∧ TV t ∧ UV us ∧ Fits zs (lk t us) ∧ setR zs (lk t us) = qs := by
  cases y with
  | bad => cases hk
  | no => cases hk
  | yes => exact ⟨h.1, h.2.1, h.2.2.1, h.2.2.2, hq⟩
theorem lway_none {zs : List Int} {t : Int} {us : List Up} {y : RWay} {qs : List Int} (h : IsLWay zs t us y) (hk : y.ok = false) (hq : applied zs (lk t us) y = qs) (h0 : qs.length ≠ 0) : LV zs ∧ TV t ∧ UV us ∧ ¬ Fits zs (lk t us) ∧ zs = qs := by
  cases y with
  | bad => exact absurd (by rw [← hq]; rfl) h0
  | no => exact ⟨h.1, h.2.1, h.2.2.1, h.2.2.2, hq⟩
  | yes => cases hk
end Go.Proofs.Ytcjnlbjlbmadlaa
