/- The coordinator with the slices $SA and $SB is stored as the answer, with the word $BB. -/
/- Laws on coordinators: a coordinator is boxed. -/
/- On to the world behind D. -/
/- An exact law begins: the argument's box, its size, a copy for the model. -/
/- The program's own copy of the argument is boxed. -/
/- The program's copy is as the argument; the region draws. -/
/- Laws on functions that answer numbers. -/
/- What the boxes hold is read again. -/
/- The coordinator with the slices P4 and P5 is boxed as P6, in block P7, behind it the world P3; ahead of region P1. -/
/- The draw, the program's answer, the model's, and that they are the same: behind it w5, all facts on it by way of dx. -/
/-
  Walk: a vote is counted, by the program.
-/
import Derived.Test.YtjplondblkkpmaaVotI
import Derived.Test.YtjplondblkkpmaaCopV
import Derived.Test.YtjplondblkkpmaaRepI
import Derived.Test.YtjplondblkkpmaaG5C
namespace Go.Proofs.Ytjplondblkkpmaa
open Go.RowKit Wo Pu Rf Co

set_option linter.unusedVariables false in
set_option linter.unusedSimpArgs false in
/-- Transaction n is another one, whose lists are new. -/
theorem cr_put {col : Nat → Nat} {w3 w4 : World} {B g c n N : Nat} {a b bo : Value} {q : Crd} {t : Tx} (h : OwnCr col w3 B (.agg #[.slice (some ⟨g, 0, none⟩) N c, bo]) q) (hN : N = q.ts.length) (hn : n < q.ts.length) (d : Below w3.heap.size w3 w4) (hB : B ≤ w3.heap.size) (hx : TxOf (fun _ => 0) 0 w4 w3.heap.size a b t) :
    (∃ a0 b0, w4.cell? ⟨g, n * 3, none⟩ = some a0 ∧ w4.cell? ⟨g, n * 3 + 1, none⟩ = some b0 ∧ w4.cell? ⟨g, n * 3 + 2, none⟩ = some (.int .i64 q.ts[n].d)) ∧ (∀ o, w4.frozen? ⟨g, o, none⟩ = false) ∧ (∃ cs fr, w4.heap[g]? = some (.cells cs 33 fr)) ∧ B ≤ g ∧
      ∃ col', OwnCr col' (((w4.setCell ⟨g, n * 3, none⟩ a).setCell ⟨g, n * 3 + 1, none⟩ b).setCell ⟨g, n * 3 + 2, none⟩ (.int .i64 t.d)) B (.agg #[.slice (some ⟨g, 0, none⟩) N c, bo]) ⟨q.ts.set n t, q.os⟩ := by
  subst hN
  obtain ⟨h1, h2, h3⟩ := h.parts
  obtain ⟨q0, q1, q2⟩ := h1.put hn d hB hx
  have h1' := h1
  obtain ⟨xs, r1, -⟩ := h1'
  have hrow := own_below r1 d (Nat.le_refl _)
  have hty := row_typed hrow g rfl
  have s1 := (World.ownsRow.stored hrow (n * 3) a).1
  have s2 := (World.ownsRow.stored s1 (n * 3 + 1) b).1
  have h2' := h2.below d (Nat.le_refl _)
  refine ⟨q0, q1, hty, (World.ownsRow.lt r1 g rfl).1, tint w3 col (n + 2), _, _, rfl, ?_, ?_, tint_old h2 h3⟩
  · exact q2
  · exact row_far_type (row_far_type (row_far_type h2' (by decide) (but_set _ g _ _) (row_typed hrow)) (by decide) (but_set _ g _ _) (row_typed s1)) (by decide) (but_set _ g _ _) (row_typed s2)
/- The voted transaction is stored. -/
end Go.Proofs.Ytjplondblkkpmaa
