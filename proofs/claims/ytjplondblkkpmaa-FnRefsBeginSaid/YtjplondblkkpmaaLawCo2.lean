/- The coordinator with the slices $SA and $SB is stored as the answer, with the word $BB. -/
/- Laws on coordinators: a coordinator is boxed. -/
/- On to the world behind D. -/
/- An exact law begins: the argument's box, its size, a copy for the model. -/
/- The program's own copy of the argument is boxed. -/
/- The program's copy is as the argument; the region draws. -/
/- Laws on functions that answer numbers. -/
/- What the boxes hold is read again. -/
/- The coordinator with the slices P4 and P5 is boxed as P6, in block P7, behind it the world P3; ahead of region P1. -/
/- The draw, the program's answer, the model's, and that they are the same: behind it w5, all facts on it by way of dx. -/
/-
  Walks of laws on refused votes, votes against, late transactions.
-/
import Derived.Test.YtjplondblkkpmaaLawCo1
import Derived.Test.YtjplondblkkpmaaWatJ
import Derived.Test.YtjplondblkkpmaaHasK
namespace Go.Proofs.Ytjplondblkkpmaa
open Go.RowKit Wo Pu Rf Co

set_option linter.unusedVariables false in
set_option linter.unusedSimpArgs false in
theorem late_again {q x : Crd} {t : Int} {b : Bool} (h : Late q t x b) (hv : CV q) : Late x t x false := by
  cases b with
  | true => exact .no h.valid (late_once h)
  | false => cases h with
    | bad h => exact absurd hv h
    | no h1 h2 => exact .no h1 h2
set_option linter.unusedVariables false in
set_option linter.unusedSimpArgs false in
theorem counted_iff {q x : Crd} {t s : Int} {y b : Bool} (h : Counted q t s y x b) (hv : CV q) : (b = true ↔ ∃ n k, Awaits q t s n k) ∧ (b = false → x = q) := by
  cases h with
  | bad h => exact absurd hv h
  | no _ h => exact ⟨⟨fun e => (by cases e), fun ⟨n, k, a⟩ => absurd a (h n k)⟩, fun _ => rfl⟩
  | yes n k a _ => exact ⟨⟨fun _ => ⟨n, k, a⟩, fun _ => rfl⟩, fun e => (by cases e)⟩
set_option linter.unusedVariables false in
set_option linter.unusedSimpArgs false in
theorem counted_no {q x : Crd} {t s : Int} (h : Counted q t s false x true) : ∃ n, ∃ hn : n < q.ts.length, ∃ k, t = (n : Int) ∧ x = noC q n k hn := by
  obtain ⟨x', hx⟩ : ∃ x', x' = x := ⟨x, rfl⟩
  generalize hb : true = b at h
  generalize hy : false = y at h
  cases h with
  | bad _ => cases hb
  | no _ _ => cases hb
  | yes n k a _ => subst hy; exact ⟨n, a.hi, k, a.ht, rfl⟩
/- The second timeout, and the comparisons. -/
end Go.Proofs.Ytjplondblkkpmaa
