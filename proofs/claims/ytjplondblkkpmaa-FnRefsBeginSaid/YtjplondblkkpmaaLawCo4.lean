/-
  Walks of laws on votes against, and on the number of transactions.
-/
import Derived.Test.YtjplondblkkpmaaLawCo2
namespace Go.Proofs.Ytjplondblkkpmaa
open Go.RowKit Wo Pu Rf Co

set_option linter.unusedVariables false in
set_option linter.unusedSimpArgs false in
theorem begun_iff {q x : Crd} {ps : List Part} {b : Bool} (h : Begun q ps x b) (hv : CV q) (h0 : q.ts.length ≠ 0) (hl : ¬ x.ts.length < q.ts.length) : (b = true ∧ q.ts.length < 12) ∨ (b = false ∧ ¬ q.ts.length < 12 ∧ x = q) := by
  cases h with
  | bad _ => exact absurd (show none_.ts.length < q.ts.length by show 0 < _; omega) hl
  | full _ _ h => exact .inr ⟨rfl, h, rfl⟩
  | yes _ _ h => exact .inl ⟨rfl, h⟩
end Go.Proofs.Ytjplondblkkpmaa
