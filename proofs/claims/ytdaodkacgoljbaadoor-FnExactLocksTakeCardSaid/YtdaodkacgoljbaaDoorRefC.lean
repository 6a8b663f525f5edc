/-
  Walks: RefsDiffer and UpdatesCross of the model.
-/
import Derived.Test.YtdaodkacgoljbaaDoorRefB
namespace Go.Proofs.YtdaodkacgoljbaaDoor
open Go.RowKit Wo Pu Rf

/-- The differences, if both are refs. -/
def difs (v : Bool) (a b : List Int) : List Up := if v then dif a b else []
/-- What is still to be told from k on. -/
def DifTo (a b : List Int) (us : List Up) (k : Nat) : Prop := dif a b = us ++ difL k (a.drop k) (b.drop k)
theorem DifTo.zero (a b : List Int) : DifTo a b [] 0 := rfl
theorem DifTo.same {a b : List Int} {us : List Up} {k : Nat} (h : DifTo a b us k) (ha : k < a.length) (hb : k < b.length) (e : a[k] = b[k]) : DifTo a b us (k + 1) := by
  unfold DifTo at h ⊢
  rw [h, List.drop_eq_getElem_cons ha, List.drop_eq_getElem_cons hb]
  conv => lhs; unfold difL
  rw [if_pos e]
  rfl
theorem DifTo.more {a b : List Int} {us : List Up} {k : Nat} (h : DifTo a b us k) (ha : k < a.length) (hb : k < b.length) (e : ¬ a[k] = b[k]) : DifTo a b (us ++ [⟨(k : Int), a[k], b[k]⟩]) (k + 1) := by
  unfold DifTo at h ⊢
  rw [h, List.drop_eq_getElem_cons ha, List.drop_eq_getElem_cons hb]
  conv => lhs; unfold difL
  rw [if_neg e, List.append_assoc]
  rfl
theorem DifTo.all {a b : List Int} {us : List Up} {k : Nat} (h : DifTo a b us k) (ha : a.length ≤ k) : dif a b = us := by
  unfold DifTo at h
  rw [h, List.drop_of_length_le ha]
  unfold difL
  rw [List.append_nil]
/-- Updates of the call's own. -/
def UpsOf (us : List Up) (w : World) (e : Ending) (w' : World) : Prop := ∃ A c, e = .returned (.slice A us.length c) ∧ OwnUps w' w.heap.size (.slice A us.length c) us ∧ Below w.heap.size w w'
theorem UpsOf.mk_ {us : List Up} {w w' : World} {v : Value} (ho : OwnUps w' w.heap.size v us) (hb : Below w.heap.size w w') : UpsOf us w (.returned v) w' := by
  obtain ⟨A, c, rfl, _⟩ := ho.form
  exact ⟨A, c, rfl, ho, hb⟩
theorem OwnUps.app {w' : World} {B : Nat} {v' : Value} {us : List Up} {u : Up} (h : w'.ownsRow B 31 3 v' (us.length + 1) (upsV us ++ [.int .i64 u.r, .int .i64 u.o, .int .i64 u.n])) : OwnUps w' B v' (us ++ [u]) := by
  unfold OwnUps
  rw [List.length_append, List.length_singleton, upsV_append, upsV_one]
  exact h
theorem row_three (w : World) (v0 v1 v2 : Value) (t : TypeId) : Row (w.alloc (.cells #[v0, v1, v2] t)) (w.alloc (.cells #[v0, v1, v2] t)).heap.size (some ⟨w.heap.size, 0, none⟩) [v0, v1, v2] := .inr ⟨_, rfl, by simp, new_three w v0 v1 v2 t⟩
end Go.Proofs.YtdaodkacgoljbaaDoor
