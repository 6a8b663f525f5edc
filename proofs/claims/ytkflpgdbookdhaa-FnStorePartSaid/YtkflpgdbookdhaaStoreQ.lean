/-
  Plain facts: a store without one object, and with one twice.
-/
import Derived.Test.YtkflpgdbookdhaaStoreP
namespace Go.Proofs.Ytkflpgdbookdhaa
open Pu

theorem stB_mono {a b : Int} {os : List Ob} (h : stB b os = true) (hab : a ≤ b) : stB a os = true := by
  cases os with
  | nil => rfl
  | cons o os =>
    simp only [stB, Bool.and_eq_true, decide_eq_true_eq] at h ⊢
    exact ⟨by omega, h.2⟩
theorem stB_less {os : List Ob} : ∀ {last : Int} {k : Nat}, stB last os = true → stB last (os.take k ++ os.drop (k + 1)) = true := by
  induction os with
  | nil => intro last k _; simp [stB]
  | cons o os ih =>
    intro last k h
    simp only [stB, Bool.and_eq_true, decide_eq_true_eq] at h
    cases k with
    | zero => simpa using stB_mono h.2 (by omega)
    | succ k =>
      simp only [List.take_succ_cons, List.drop_succ_cons, List.cons_append, stB, Bool.and_eq_true, decide_eq_true_eq]
      exact ⟨h.1, ih h.2⟩
theorem stB_twice {os : List Ob} : ∀ {last : Int} {k : Nat}, k < os.length → stB last (os.take (k + 1) ++ os.drop k) = false := by
  induction os with
  | nil => intro last k h; simp at h
  | cons o os ih =>
    intro last k h
    cases k with
    | zero => simp [stB]
    | succ k =>
      simp only [List.take_succ_cons, List.drop_succ_cons, List.cons_append, stB]
      rw [ih (by simpa using h)]
      simp
theorem storeB_less {os : List Ob} {k : Nat} (h : storeB os = true) : storeB (os.take k ++ os.drop (k + 1)) = true := by
  obtain ⟨h1, h2⟩ := storeB_parts h
  rw [storeB_c (stB_less h1)]
  simp; omega
theorem storeB_twice {os : List Ob} {k : Nat} (hk : k < os.length) : storeB (os.take (k + 1) ++ os.drop k) = false := storeB_a (stB_twice hk)
end Go.Proofs.Ytkflpgdbookdhaa
