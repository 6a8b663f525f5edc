/-
  Walks of laws on decisions.
-/
import Derived.Test.YthmnaljncapmeabDoorShdI
import Derived.Test.YthmnaljncapmeabDoorDrawSv
namespace Go.Proofs.YthmnaljncapmeabDoor
open Go.RowKit Wo Pu Rf Lk Sh

theorem decided_vld {rs xs : List Rec} {t k : Int} {b : Bool} (h : Decided rs t k xs b) (hx : xs ≠ []) : Vld rs := by
  cases h with
  | bad _ => exact absurd rfl hx
  | known h1 _ _ => exact h1
  | yes h1 _ _ _ => exact h1
  | no h1 _ _ _ => exact h1
/-- A decision taken is taken again, and its opposite is not. -/
theorem decided_twice {rs xs : List Rec} {t k k' : Int} (h : Decided rs t k xs true) (hk : k = 2 ∨ k = 3) (hk' : k' = 2 ∨ k' = 3) (hne : k' ≠ k) : Decided xs t k xs true ∧ Decided xs t k' xs false := by
  have hv := decided_valid h
  have key : TV t ∧ Sh.ask xs t = k := by
    cases h with
    | known _ h2 h3 => exact ⟨h2, h3⟩
    | yes _ h2 _ _ => exact ⟨h2, by rw [ask_snoc, if_pos rfl]⟩
  obtain ⟨ht, ha⟩ := key
  refine ⟨.known hv ht ha, .no hv ht (by rw [ha]; exact fun e => hne e.symm) ?_⟩
  obtain ⟨⟨s, hs⟩, -⟩ := hv
  exact final hs ht ha hk hk'
theorem decided_commit {rs xs : List Rec} {t : Int} {b : Bool} (h : Decided rs t 2 xs b) (hv : Vld rs) (ht : TV t) :
    (b = true ∧ (Sh.ask rs t = 2 ∨ Sh.ask rs t = 1 ∧ rs.length < 30)) ∨ (b = false ∧ ¬ (Sh.ask rs t = 2 ∨ Sh.ask rs t = 1 ∧ rs.length < 30) ∧ xs = rs) := by
  obtain ⟨⟨s, hs⟩, -⟩ := id hv
  have ci := Vld.commit_iff hs ht
  by_cases ha : Sh.ask rs t = 2
  · exact .inl ⟨(h.known_ hv ht ha).2, .inl ha⟩
  · obtain ⟨h1, h2⟩ := h.new_ hv ht ha
    cases b with
    | true => exact .inl ⟨rfl, .inr ⟨(ci.1 (h1.1 rfl)).2, (ci.1 (h1.1 rfl)).1⟩⟩
    | false =>
      refine .inr ⟨rfl, fun e => ?_, h2⟩
      rcases e with e | ⟨e1, e2⟩
      · exact ha e
      · have := h1.2 (ci.2 ⟨e2, e1⟩); cases this
end Go.Proofs.YthmnaljncapmeabDoor
