/-
  Plain facts on stores.
-/
import Derived.Test.YtkekbobnbipmoaaObs
namespace Go.Proofs.Ytkekbobnbipmoaa
open Pu

def vOb (o : Ob) : Bool := vldB o.kd o.zs o.s.size
def iOb (o : Ob) : Int := oid o.kd o.zs o.s.data.toList
def stB (last : Int) : List Ob → Bool
  | [] => true
  | o :: os => decide (last < iOb o) && stB (iOb o) os
def storeB (os : List Ob) : Bool := stB (-1) os && decide (os.length ≤ 16)
def prevO (os : List Ob) (k : Nat) : Int := if h : 0 < k ∧ k ≤ os.length then iOb (os[k - 1]'(by omega)) else -1

theorem prevO_zero (os : List Ob) : prevO os 0 = -1 := by simp [prevO]
theorem prevO_succ {os : List Ob} {k : Nat} (hk : k < os.length) : prevO os (k + 1) = iOb os[k] := by
  unfold prevO
  rw [dif_pos ⟨by omega, by omega⟩]
  rfl
theorem prevO_pos {os : List Ob} {k : Nat} (hk : k < os.length) (h0 : 0 < k) : prevO os k = iOb (os[k - 1]'(by omega)) := by
  unfold prevO
  rw [dif_pos ⟨h0, by omega⟩]
theorem stB_drop {last : Int} {os : List Ob} {k : Nat} (hk : k < os.length) : stB last (os.drop k) = (decide (last < iOb os[k]) && stB (iOb os[k]) (os.drop (k + 1))) := by
  rw [List.drop_eq_getElem_cons hk]; rfl
theorem stB_no {os : List Ob} {k : Nat} (hk : k < os.length) (h : iOb os[k] ≤ prevO os k) : stB (prevO os k) (os.drop k) = false := by
  rw [stB_drop hk, decide_eq_false (by omega)]; rfl
theorem stB_yes {os : List Ob} {k : Nat} (hk : k < os.length) (h : prevO os k < iOb os[k]) : stB (prevO os k) (os.drop k) = stB (prevO os (k + 1)) (os.drop (k + 1)) := by
  rw [stB_drop hk, decide_eq_true h, prevO_succ hk]; rfl
theorem storeB_a {os : List Ob} (h : stB (-1) os = false) : storeB os = false := by simp [storeB, h]
theorem storeB_b {os : List Ob} (h : ¬ os.length ≤ 16) : storeB os = false := by simp [storeB, h]
theorem storeB_c {os : List Ob} (h : stB (-1) os = true) : storeB os = decide (os.length ≤ 16) := by simp [storeB, h]
theorem iOb_valid {o : Ob} : (0 ≤ iOb o) ↔ vOb o = true := oid_valid
theorem iOb_range (o : Ob) : -1 ≤ iOb o ∧ iOb o < 991 := oid_range _ _ _
theorem iOb_of {o : Ob} (h : vOb o = true) : iOb o = idOf o.kd o.zs o.s.data.toList := if_pos h
theorem iOb_no {o : Ob} (h : vOb o = false) : iOb o = -1 := if_neg (by show ¬ vldB o.kd o.zs o.s.size = true; have : vldB o.kd o.zs o.s.size = false := h; rw [this]; decide)

theorem stB_sorted {last : Int} {os : List Ob} (h : stB last os = true) : ∀ i (hi : i < os.length), last < iOb os[i] ∧ ∀ j (hj : j < os.length), i < j → iOb os[i] < iOb os[j] := by
  induction os generalizing last with
  | nil => intro i hi; simp at hi
  | cons o os ih =>
    simp only [stB, Bool.and_eq_true, decide_eq_true_eq] at h
    intro i hi
    have r := ih h.2
    cases i with
    | zero =>
      refine ⟨h.1, fun j hj h0 => ?_⟩
      cases j with
      | zero => omega
      | succ j => exact (r j (by simpa using hj)).1
    | succ i =>
      have hi' : i < os.length := by simpa using hi
      refine ⟨by have := (r i hi').1; simp only [List.getElem_cons_succ]; omega, fun j hj h0 => ?_⟩
      cases j with
      | zero => omega
      | succ j => exact (r i hi').2 j (by simpa using hj) (by omega)
theorem storeB_parts {os : List Ob} (h : storeB os = true) : stB (-1) os = true ∧ os.length ≤ 16 := by simpa [storeB] using h
theorem storeB_valid {os : List Ob} (h : storeB os = true) : ∀ i (hi : i < os.length), vOb os[i] = true := fun i hi => by
  have := (stB_sorted (storeB_parts h).1 i hi).1
  exact iOb_valid.1 (by omega)
end Go.Proofs.Ytkekbobnbipmoaa
