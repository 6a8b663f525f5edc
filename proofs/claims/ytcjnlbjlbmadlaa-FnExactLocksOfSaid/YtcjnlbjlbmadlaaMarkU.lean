/-
  Walks: marks written into updates of the call's own, and read again.
-/
import Derived.Test.YtcjnlbjlbmadlaaUpK
namespace Go.Proofs.Ytcjnlbjlbmadlaa
open Go.RowKit Wo Pu Rf

/-- The marks from k on. -/
def mkU (k i : Nat) : Up := ⟨(k + 3 * i : Nat), ((k + 3 * i + 1 : Nat) : Int), ((k + 3 * i + 2 : Nat) : Int)⟩
def mksU (k n : Nat) : List Up := (List.range n).map (mkU k)
theorem mksU_length (k n : Nat) : (mksU k n).length = n := by simp [mksU]
theorem mksU_get (k n i : Nat) (h : i < (mksU k n).length) : (mksU k n)[i] = mkU k i := by simp [mksU]
theorem upsV_set {os : List Up} {m : Nat} (h : m < os.length) (o : Up) : (((upsV os).set (m * 3) (.int .i64 o.r)).set (m * 3 + 1) (.int .i64 o.o)).set (m * 3 + 2) (.int .i64 o.n) = upsV (os.set m o) := by
  have hl := upsV_length os
  apply List.ext_getElem?
  intro j
  by_cases hj : j < os.length * 3
  · obtain ⟨q, d, hd, rfl⟩ : ∃ q d, d < 3 ∧ j = q * 3 + d := ⟨j / 3, j % 3, by omega, by omega⟩
    have hq : q < os.length := by omega
    rw [upsV_get (os := os.set m o) (by rw [List.length_set]; exact hq) hd]
    by_cases e : q = m
    · subst e
      have ho : (os.set q o)[q]'(by rw [List.length_set]; exact hq) = o := by simp
      rw [ho]
      have key : d = 0 ∨ d = 1 ∨ d = 2 := by omega
      rcases key with rfl | rfl | rfl
      · rw [List.getElem?_set_ne (by omega), List.getElem?_set_ne (by omega), Nat.add_zero, List.getElem?_set_self (by omega)]; rfl
      · rw [List.getElem?_set_ne (by omega), List.getElem?_set_self (by simp; omega)]; rfl
      · rw [List.getElem?_set_self (by simp; omega)]; rfl
    · have ho : (os.set m o)[q]'(by rw [List.length_set]; exact hq) = os[q] := by rw [List.getElem_set_ne (by omega)]
      rw [ho, List.getElem?_set_ne (by omega), List.getElem?_set_ne (by omega), List.getElem?_set_ne (by omega), upsV_get hq hd]
  · rw [List.getElem?_eq_none (by simp; omega), List.getElem?_eq_none (by rw [upsV_length, List.length_set]; omega)]
theorem set_takeU {os : List Up} {k n m : Nat} (h : os.take m = (mksU k n).take m) (hl : os.length = n) (hm : m < n) : (os.set m (mkU k m)).take (m + 1) = (mksU k n).take (m + 1) := by
  rw [List.take_succ_eq_append_getElem (by simpa using (by omega : m < os.length)), List.take_succ_eq_append_getElem (by rw [mksU_length]; exact hm), List.take_set_of_le (Nat.le_refl m), h, mksU_get]
  simp
end Go.Proofs.Ytcjnlbjlbmadlaa
