/-
  Walks of laws on decisions and what they do.
-/
import Derived.Test.YteeffchnbkkpfabDoorLawSh2
import Derived.Test.YteeffchnbkkpfabDoorLawSh3
namespace Go.Proofs.YteeffchnbkkpfabDoor
open Go.RowKit Wo Pu Rf Lk Sh

/-- A commit that is taken. -/
structure Com1 (rs xs : List Rec) (t : Int) (s : St) (F G : List Int) : Prop where
  old : Rcv rs s
  new : Rcv xs ⟨F, G⟩
  at_ : ∀ m (h1 : m < s.refs.length) (h2 : m < s.locks.length) (h3 : m < F.length) (h4 : m < G.length), (s.locks[m] = t → G[m] = -1 ∧ F[m] ≠ s.refs[m]) ∧ (s.locks[m] ≠ t → G[m] = s.locks[m] ∧ F[m] = s.refs[m])
  ask : Sh.ask xs t = 2
  vx : Vld xs
  vr : Vld rs
  tv : TV t
  com : Sh.com xs = Sh.com rs ++ [t]
theorem com_one {rs xs : List Rec} {t : Int} (h : Decided rs t 2 xs true) (ha : Sh.ask rs t = 1) (h1 : Vld rs) (h2 : TV t) : ∃ s F G, Com1 rs xs t s F G := by
  obtain ⟨g1, g2⟩ := h.new_ h1 h2 (by omega)
  simp only [if_true] at g2
  subst g2
  obtain ⟨⟨s, hs⟩, hl⟩ := id h1
  have hv := g1.1 rfl
  refine ⟨s, setR s.refs (upd rs t), freeL t s.locks, hs, .snoc hs h2 (.commit rfl ha rfl), fun m m1 m2 m3 m4 => ?_, by rw [ask_snoc, if_pos rfl], hv, h1, h2, by rw [com_snoc, if_pos rfl]⟩
  have ca := commit_at hs.inv ha m
  rw [List.getElem?_eq_getElem m1, List.getElem?_eq_getElem m2, List.getElem?_eq_getElem m3, List.getElem?_eq_getElem m4] at ca
  simpa using ca
end Go.Proofs.YteeffchnbkkpfabDoor
