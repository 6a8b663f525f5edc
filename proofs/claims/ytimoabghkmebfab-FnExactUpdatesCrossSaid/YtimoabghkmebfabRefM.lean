/-
  Words for the laws on refs: what RefsApply answers, as a list and a bool.
-/
import Derived.Test.YtimoabghkmebfabRefI
namespace Go.Proofs.Ytimoabghkmebfab
open Go.RowKit Wo Pu Rf

/-- Behind it: refs of the call's own, and whether. -/
def AppTo (qs : List Int) (ok : Bool) (w : World) (e : Ending) (w' : World) : Prop := ∃ A c, e = .returned (.tuple #[.slice A qs.length c, .bool ok]) ∧ OwnI w' w.heap.size (.slice A qs.length c) qs ∧ Below w.heap.size w w'
theorem implApply_to (qs : List Int) (ok : Bool) (y : RWay) (A A2 : Option Addr) (c c2 : Nat) (zs : List Int) (us : List Up) (w : World) (hz : Row w w.heap.size A (ints zs)) (hu : Row w w.heap.size A2 (upsV us)) (hmz : zs.length ≤ 1048600) (hm : us.length ≤ 1048600) (hy : IsRWay zs us y) (hq : applied zs us y = qs) (hk : y.ok = ok) :
    Calls Try.prog 18 #[.slice A zs.length c, .slice A2 us.length c2] w (AppTo qs ok w) := by
  subst hq
  subst hk
  exact implRefsApply_is y A A2 c c2 zs us w hz hu hmz hm hy
theorem specApply_to (qs : List Int) (ok : Bool) (y : RWay) (A A2 : Option Addr) (c c2 : Nat) (zs : List Int) (us : List Up) (w : World) (hz : Row w w.heap.size A (ints zs)) (hu : Row w w.heap.size A2 (upsV us)) (hmz : zs.length ≤ 1048600) (hm : us.length ≤ 1048600) (hy : IsRWay zs us y) (hq : applied zs us y = qs) (hk : y.ok = ok) :
    Calls Try.prog 19 #[.slice A zs.length c, .slice A2 us.length c2] w (AppTo qs ok w) := by
  subst hq
  subst hk
  exact specRefsApply_is y A A2 c c2 zs us w hz hu hmz hm hy
theorem applied_le {zs : List Int} {us : List Up} {y : RWay} {n : Nat} (h : zs.length ≤ n) : (applied zs us y).length ≤ n := by
  cases y with
  | bad => exact Nat.zero_le _
  | no => exact h
  | yes => show (setR zs us).length ≤ n; rw [setR_length]; exact h
theorem way_yes {zs : List Int} {us : List Up} {y : RWay} {qs : List Int} (h : IsRWay zs us y) (hk : y.ok = true) (hq : applied zs us y = qs) : RV zs ∧ UV us ∧ Fits zs us ∧ setR zs us = qs := by
  cases y with
  | bad => cases hk
  | no => cases hk
  | yes => exact ⟨h.1, h.2.1, h.2.2, hq⟩
theorem Wo.Row.on {w w' : World} {A : Option Addr} {vs : List Value} (h : Row w w.heap.size A vs) (hb : Below w.heap.size w w') : Row w' w'.heap.size A vs := (h.below hb (Nat.le_refl _)).more hb.size
theorem difL_le : ∀ (xs ys : List Int) (k : Int), (difL k xs ys).length ≤ xs.length
  | [], _, _ => Nat.zero_le _
  | _ :: _, [], _ => Nat.zero_le _
  | a :: xs, b :: ys, k => by
    have ih := difL_le xs ys (k + 1)
    unfold difL
    by_cases e : a = b
    · rw [if_pos e, List.length_cons]; omega
    · rw [if_neg e, List.length_cons, List.length_cons]; omega
theorem difs_le {v : Bool} {a b : List Int} {n : Nat} (h : a.length ≤ n) : (difs v a b).length ≤ n := by
  unfold difs
  cases v with
  | false => exact Nat.zero_le _
  | true => rw [if_pos rfl]; exact Nat.le_trans (difL_le a b 0) h
theorem difs_inv (v : Bool) (a b : List Int) : difs v b a = inv (difs v a b) := by
  unfold difs
  cases v with
  | false => rfl
  | true => rw [if_pos rfl, if_pos rfl]; exact difL_inv a b 0
theorem implDiffer_to (ds : List Up) (v : Bool) (A A2 : Option Addr) (c c2 : Nat) (a b : List Int) (w : World) (ha : Row w w.heap.size A (ints a)) (hb : Row w w.heap.size A2 (ints b)) (hma : a.length ≤ 1048600) (hmb : b.length ≤ 1048600) (hv : v = true ↔ RV a ∧ RV b) (hd : difs v a b = ds) :
    Calls Try.prog 22 #[.slice A a.length c, .slice A2 b.length c2] w (UpsOf ds w) := by
  subst hd
  exact implRefsDiffer_is v A A2 c c2 a b w ha hb hma hmb hv
theorem specDiffer_to (ds : List Up) (v : Bool) (A A2 : Option Addr) (c c2 : Nat) (a b : List Int) (w : World) (ha : Row w w.heap.size A (ints a)) (hb : Row w w.heap.size A2 (ints b)) (hma : a.length ≤ 1048600) (hmb : b.length ≤ 1048600) (hv : v = true ↔ RV a ∧ RV b) (hd : difs v a b = ds) :
    Calls Try.prog 31 #[.slice A a.length c, .slice A2 b.length c2] w (UpsOf ds w) := by
  subst hd
  exact specRefsDiffer_is v A A2 c c2 a b w ha hb hma hmb hv
end Go.Proofs.Ytimoabghkmebfab
