/-
  Rows of entries as lists of cells.
-/
import Derived.Test.YtpcfabgjdefkiaaEnts
import Derived.Test.YtpcfabgjdefkiaaRows3
namespace Go.Proofs.Ytpcfabgjdefkiaa
open Go.RowKit Wo Pu

def CellsE (w : World) (B : Nat) (xs : List Value) (es : List Ent) : Prop :=
  xs.length = es.length * 4 ∧ ∀ j (hj : j < es.length), ∃ (A : Option Addr) (c : Nat) (A' : Option Addr) (c' : Nat), xs[j * 4]? = some (.int .i64 es[j].kd) ∧ xs[j * 4 + 1]? = some (.slice A es[j].zs.length c) ∧ xs[j * 4 + 2]? = some (.int .i64 es[j].b) ∧ xs[j * 4 + 3]? = some (.slice A' es[j].ops.length c') ∧ Row w B A (ints es[j].zs) ∧ Row w B A' (opsV es[j].ops)
theorem Ents.cells {w : World} {B : Nat} {A : Option Addr} {es : List Ent} (h : Ents w B A es) : ∃ xs, Row w B A xs ∧ CellsE w B xs es ∧ ∀ u ∈ xs, u.oneCell' = true := by
  rcases h with rfl | ⟨ad, rfl, ha, hh⟩
  · exact ⟨[], .inl rfl, ⟨rfl, fun j hj => by simp at hj⟩, fun u hu => by simp at hu⟩
  · have four : ∀ i, i < es.length * 4 → ∃ u, w.cell? (ad.add i) = some u ∧ u.oneCell' = true := fun i hi => by
      obtain ⟨A', c, A2, c2, h0, h1, h2, h3, _, _⟩ := hh (i / 4) (by omega)
      rw [add_add] at h1 h2 h3
      have key : i = i / 4 * 4 ∨ i = i / 4 * 4 + 1 ∨ i = i / 4 * 4 + 2 ∨ i = i / 4 * 4 + 3 := by omega
      rcases key with e | e | e | e
      · rw [← e] at h0; exact ⟨_, h0, rfl⟩
      · rw [← e] at h1; exact ⟨_, h1, rfl⟩
      · rw [← e] at h2; exact ⟨_, h2, rfl⟩
      · rw [← e] at h3; exact ⟨_, h3, rfl⟩
    have get : ∀ (i : Nat), i < es.length * 4 → ((List.range (es.length * 4)).map fun i => (w.cell? (ad.add i)).getD undef)[i]? = w.cell? (ad.add i) := fun i hi => by
      obtain ⟨u, hu, _⟩ := four i hi
      simp [hi, hu]
    refine ⟨(List.range (es.length * 4)).map fun i => (w.cell? (ad.add i)).getD undef, .inr ⟨ad, rfl, ha, fun j u hu => ?_⟩, ⟨by simp, fun j hj => ?_⟩, fun u hu => ?_⟩
    · by_cases hj : j < es.length * 4
      · rw [get j hj] at hu; exact hu
      · rw [List.getElem?_eq_none (by simp; omega)] at hu; cases hu
    · obtain ⟨A', c, A2, c2, h0, h1, h2, h3, h4, h5⟩ := hh j hj
      rw [add_add] at h1 h2 h3
      exact ⟨A', c, A2, c2, (get _ (by omega)).trans h0, (get _ (by omega)).trans h1, (get _ (by omega)).trans h2, (get _ (by omega)).trans h3, h4, h5⟩
    · obtain ⟨i, hi, rfl⟩ := List.mem_map.1 hu
      obtain ⟨u, hu, h1⟩ := four i (by simpa using hi)
      rw [hu]; exact h1
theorem CellsE.below {w w' : World} {B C : Nat} {xs : List Value} {es : List Ent} (h : CellsE w B xs es) (hb : Below C w w') (hC : B ≤ C) : CellsE w' B xs es :=
  ⟨h.1, fun j hj => by obtain ⟨A, c, A', c', h0, h1, h2, h3, h4, h5⟩ := h.2 j hj; exact ⟨A, c, A', c', h0, h1, h2, h3, h4.below hb hC, h5.below hb hC⟩⟩
theorem CellsE.setB {w : World} {B : Nat} {xs : List Value} {es : List Ent} (h : CellsE w B xs es) {k : Nat} (hk : k < es.length) (b : Int) : CellsE w B (xs.set (k * 4 + 2) (.int .i64 b)) (es.set k ⟨es[k].kd, es[k].zs, b, es[k].ops⟩) := by
  refine ⟨by rw [List.length_set, List.length_set]; exact h.1, fun j hj => ?_⟩
  rw [List.length_set] at hj
  obtain ⟨A, c, A', c', h0, h1, h2, h3, h4, h5⟩ := h.2 j hj
  have hl := h.1
  by_cases e : k = j
  · subst e
    simp only [List.getElem_set_self]
    refine ⟨A, c, A', c', ?_, ?_, ?_, ?_, h4, h5⟩
    · rw [List.getElem?_set_ne (by omega)]; exact h0
    · rw [List.getElem?_set_ne (by omega)]; exact h1
    · rw [List.getElem?_set_self (by omega)]
    · rw [List.getElem?_set_ne (by omega)]; exact h3
  · simp only [List.getElem_set_ne e]
    refine ⟨A, c, A', c', ?_, ?_, ?_, ?_, h4, h5⟩
    · rw [List.getElem?_set_ne (by omega)]; exact h0
    · rw [List.getElem?_set_ne (by omega)]; exact h1
    · rw [List.getElem?_set_ne (by omega)]; exact h2
    · rw [List.getElem?_set_ne (by omega)]; exact h3
theorem CellsE.ents {w : World} {B C n c g : Nat} {xs : List Value} {es : List Ent} (h : CellsE w C xs es) (hC : C ≤ w.heap.size) (hr : w.ownsRow B 37 4 (.slice (some ⟨g, 0, none⟩) n c) n xs) : Ents w w.heap.size (some ⟨g, 0, none⟩) es := by
  refine .inr ⟨_, rfl, (World.ownsRow.lt hr g rfl).2, fun i hi => ?_⟩
  obtain ⟨A, c, A', c', q0, q1, q2, q3, q4, q5⟩ := h.2 i hi
  have hc := World.ownsRow.cells hr (g := g) rfl
  exact ⟨A, c, A', c', hc _ _ q0, by rw [add_add]; exact hc _ _ q1, by rw [add_add]; exact hc _ _ q2, by rw [add_add]; exact hc _ _ q3, q4.more hC, q5.more hC⟩
end Go.Proofs.Ytpcfabgjdefkiaa
