/-
  Walks of laws on shards and locks.
-/
import Derived.Test.YthmnaljncapmeabDoorLawSh4
import Derived.Test.YthmnaljncapmeabDoorLawSh5
import Derived.Test.YthmnaljncapmeabDoorG2C
namespace Go.Proofs.YthmnaljncapmeabDoor
open Go.RowKit Wo Pu Rf Lk Sh

theorem owned_iff {rs : List Rec} {s : St} (h : Rcv rs s) {t : Int} (ht : TV t) : 0 < (owned true s.locks t).length ↔ Sh.ask rs t = 1 := by
  rw [← h.inv.has ht]
  have := ofL_none t s.locks
  unfold owned
  simp only [if_true]
  constructor
  · intro h1
    exact Classical.byContradiction fun h2 => by have := this.2 h2; omega
  · intro h1
    rcases Nat.eq_zero_or_pos (ofL 0 t s.locks).length with h2 | h2
    · exact absurd h1 (this.1 h2)
    · exact h2
/-- An abort that is taken. -/
structure Abt (rs xs : List Rec) (t : Int) (s : St) (L : List Int) : Prop where
  old : Rcv rs s
  new : Rcv xs ⟨s.refs, L⟩
  ask : Sh.ask xs t = 3
  vx : Vld xs
  vr : Vld rs
  tv : TV t
theorem abt_one {rs xs : List Rec} {t : Int} (h : Decided rs t 3 xs true) : ∃ s L, Abt rs xs t s L := by
  have hv := decided_valid h
  have key : Vld rs ∧ TV t := by
    cases h with
    | known h1 h2 _ => exact ⟨h1, h2⟩
    | yes h1 h2 _ _ => exact ⟨h1, h2⟩
  obtain ⟨h1, h2⟩ := key
  obtain ⟨⟨s, hs⟩, hl⟩ := id h1
  by_cases ha : Sh.ask rs t = 3
  · obtain ⟨rfl, -⟩ := h.known_ h1 h2 ha
    exact ⟨s, s.locks, hs, hs, ha, hv, h1, h2⟩
  · obtain ⟨g1, g2⟩ := h.new_ h1 h2 ha
    simp only [if_true] at g2
    subst g2
    exact ⟨s, freeL t s.locks, hs, .snoc hs h2 (.abort rfl ((Vld.abort_iff hs h2).1 (g1.1 rfl)).2 rfl), by rw [ask_snoc, if_pos rfl], hv, h1, h2⟩
end Go.Proofs.YthmnaljncapmeabDoor
