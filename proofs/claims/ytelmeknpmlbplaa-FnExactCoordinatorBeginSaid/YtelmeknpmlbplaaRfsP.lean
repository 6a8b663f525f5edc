/-
  Plain facts on a shard's refs behind some transactions.
-/
import Derived.Test.YtelmeknpmlbplaaRfsJ
namespace Go.Proofs.Ytelmeknpmlbplaa
open Go.RowKit Wo Pu Rf Co

theorem RefsC.alt {q : Crd} {s m : Int} {zs : List Int} (h : RefsC q s m zs) : zs = [] ∨ ∃ k : Nat, m = (k : Int) ∧ CV q ∧ (0 ≤ s ∧ s ≤ 2) ∧ k ≤ q.os.length ∧ zs = refsC q s k := by
  rcases h with h | ⟨-, h⟩
  · exact .inr h
  · exact .inl h
/-- The refs behind the first i parts. -/
def yTo (ps : List Part) (s : Int) (zs : List Int) (i : Nat) : List Int := (ps.take i).foldl (fun z p => if p.s = s then setR z p.us else z) zs
theorem yTo_zero (ps : List Part) (s : Int) (zs : List Int) : yTo ps s zs 0 = zs := rfl
theorem yTo_succ {ps : List Part} {s : Int} {zs : List Int} {i : Nat} (hi : i < ps.length) : yTo ps s zs (i + 1) = if ps[i].s = s then setR (yTo ps s zs i) ps[i].us else yTo ps s zs i := by
  unfold yTo
  rw [List.take_succ_eq_append_getElem hi, List.foldl_append]
  rfl
theorem yTo_len (ps : List Part) (s : Int) (zs : List Int) : ∀ i, i ≤ ps.length → (yTo ps s zs i).length = zs.length := by
  intro i
  induction i with
  | zero => intro _; rfl
  | succ i ih =>
    intro h
    rw [yTo_succ (by omega)]
    split
    · rw [setR_length]; exact ih (by omega)
    · exact ih (by omega)
end Go.Proofs.Ytelmeknpmlbplaa
