/-
  Rows of areas as lists of cells.
-/
import Derived.Test.YtblknnifccmpkaaG7C
import Derived.Test.YtblknnifccmpkaaG5C
namespace Go.Proofs.Ytblknnifccmpkaa
open Go.RowKit Wo Pu Qu

/-- The cells of a list of areas. -/
def CellsA (w : World) (B : Nat) (xs : List Value) (rs : List Ar) : Prop :=
  xs.length = rs.length * 2 ∧ ∀ j (hj : j < rs.length), ∃ (A : Option Addr) (c : Nat), xs[j * 2]? = some (.int .i64 rs[j].t) ∧ xs[j * 2 + 1]? = some (.slice A rs[j].os.length c) ∧ rs[j].os.length ≤ c ∧ Objs w B A rs[j].os
theorem Ars.cellsA {w : World} {B : Nat} {A : Option Addr} {rs : List Ar} (h : Ars w B A rs) : ∃ xs, Row w B A xs ∧ CellsA w B xs rs ∧ ∀ u ∈ xs, u.oneCell' = true := by
  rcases h with rfl | ⟨ad, rfl, ha, hh⟩
  · exact ⟨[], .inl rfl, ⟨rfl, fun j hj => by simp at hj⟩, fun u hu => by simp at hu⟩
  · have two : ∀ i, i < rs.length * 2 → ∃ u, w.cell? (ad.add i) = some u ∧ u.oneCell' = true := fun i hi => by
      obtain ⟨A', c, h0, h1, _, _⟩ := hh (i / 2) (by omega)
      rw [add_add] at h1
      have key : i = i / 2 * 2 ∨ i = i / 2 * 2 + 1 := by omega
      rcases key with e | e
      · rw [← e] at h0; exact ⟨_, h0, rfl⟩
      · rw [← e] at h1; exact ⟨_, h1, rfl⟩
    have get : ∀ (i : Nat), i < rs.length * 2 → ((List.range (rs.length * 2)).map fun i => (w.cell? (ad.add i)).getD undef)[i]? = w.cell? (ad.add i) := fun i hi => by
      obtain ⟨u, hu, _⟩ := two i hi
      simp [hi, hu]
    refine ⟨(List.range (rs.length * 2)).map fun i => (w.cell? (ad.add i)).getD undef, .inr ⟨ad, rfl, ha, fun j u hu => ?_⟩, ⟨by simp, fun j hj => ?_⟩, fun u hu => ?_⟩
    · by_cases hj : j < rs.length * 2
      · rw [get j hj] at hu; exact hu
      · rw [List.getElem?_eq_none (by simp; omega)] at hu; cases hu
    · obtain ⟨A', c, h0, h1, h2, h3⟩ := hh j hj
      rw [add_add] at h1
      exact ⟨A', c, (get _ (by omega)).trans h0, (get _ (by omega)).trans h1, h2, h3⟩
    · obtain ⟨i, hi, rfl⟩ := List.mem_map.1 hu
      obtain ⟨u, hu, h1⟩ := two i (by simpa using hi)
      rw [hu]; exact h1
theorem CellsA.below {w w' : World} {B C : Nat} {xs : List Value} {rs : List Ar} (h : CellsA w B xs rs) (hb : Below C w w') (hC : B ≤ C) : CellsA w' B xs rs :=
  ⟨h.1, fun j hj => by obtain ⟨A, c, h0, h1, h2, h3⟩ := h.2 j hj; exact ⟨A, c, h0, h1, h2, h3.below hb hC⟩⟩
theorem CellsA.take_ {w : World} {B : Nat} {xs : List Value} {rs : List Ar} (h : CellsA w B xs rs) (n : Nat) : CellsA w B (xs.take (n * 2)) (rs.take n) := by
  refine ⟨by rw [List.length_take, List.length_take, h.1]; omega, fun j hj => ?_⟩
  have hj' : j < n ∧ j < rs.length := by simpa [List.length_take, Nat.lt_min] using hj
  obtain ⟨A, c, h0, h1, h2, h3⟩ := h.2 j hj'.2
  refine ⟨A, c, ?_, ?_, ?_, ?_⟩
  · rw [List.getElem?_take_of_lt (by omega), List.getElem_take]; exact h0
  · rw [List.getElem?_take_of_lt (by omega), List.getElem_take]; exact h1
  · rw [List.getElem_take]; exact h2
  · rw [List.getElem_take]; exact h3
theorem CellsA.drop_ {w : World} {B : Nat} {xs : List Value} {rs : List Ar} (h : CellsA w B xs rs) (n : Nat) : CellsA w B (xs.drop (n * 2)) (rs.drop n) := by
  refine ⟨by rw [List.length_drop, List.length_drop, h.1]; omega, fun j hj => ?_⟩
  have hj' : n + j < rs.length := by rw [List.length_drop] at hj; omega
  obtain ⟨A, c, h0, h1, h2, h3⟩ := h.2 (n + j) hj'
  refine ⟨A, c, ?_, ?_, ?_, ?_⟩
  · rw [List.getElem?_drop, List.getElem_drop, show n * 2 + j * 2 = (n + j) * 2 from by omega]; exact h0
  · rw [List.getElem?_drop, List.getElem_drop, show n * 2 + (j * 2 + 1) = (n + j) * 2 + 1 from by omega]; exact h1
  · rw [List.getElem_drop]; exact h2
  · rw [List.getElem_drop]; exact h3
theorem CellsA.app {w : World} {B : Nat} {xs ys : List Value} {rs ps : List Ar} (h : CellsA w B xs rs) (k : CellsA w B ys ps) : CellsA w B (xs ++ ys) (rs ++ ps) := by
  refine ⟨by rw [List.length_append, List.length_append, h.1, k.1]; omega, fun j hj => ?_⟩
  by_cases e : j < rs.length
  · obtain ⟨A, c, h0, h1, h2, h3⟩ := h.2 j e
    have := h.1
    rw [List.getElem_append_left e]
    exact ⟨A, c, by rw [List.getElem?_append_left (by omega)]; exact h0, by rw [List.getElem?_append_left (by omega)]; exact h1, h2, h3⟩
  · have hl := h.1
    obtain ⟨A, c, h0, h1, h2, h3⟩ := k.2 (j - rs.length) (by rw [List.length_append] at hj; omega)
    rw [List.getElem_append_right (by omega)]
    refine ⟨A, c, ?_, ?_, h2, h3⟩
    · rw [List.getElem?_append_right (by omega), hl, show j * 2 - rs.length * 2 = (j - rs.length) * 2 from by omega]; exact h0
    · rw [List.getElem?_append_right (by omega), hl, show j * 2 + 1 - rs.length * 2 = (j - rs.length) * 2 + 1 from by omega]; exact h1
/-- A row of the call's own with such cells is such a list. -/
theorem CellsA.ars {w : World} {B C n : Nat} {v : Value} {xs : List Value} {rs : List Ar} (h : CellsA w C xs rs) (hC : C ≤ w.heap.size) (hr : w.ownsRow B 84 2 v n xs) (hn : n = rs.length) : ∃ (A : Option Addr) (c : Nat), v = .slice A rs.length c ∧ rs.length ≤ c ∧ Ars w w.heap.size A rs := by
  subst hn
  rcases hr.2 with ⟨rfl, h0⟩ | ⟨g, cap, cur, rfl, _, _, hn, _⟩
  · exact ⟨none, 0, by rw [h0], by omega, .inl (List.eq_nil_of_length_eq_zero h0)⟩
  · refine ⟨some ⟨g, 0, none⟩, cap, rfl, hn, .inr ⟨_, rfl, (World.ownsRow.lt hr g rfl).2, fun i hi => ?_⟩⟩
    obtain ⟨A, c, q0, q1, q2, q3⟩ := h.2 i hi
    have hc := World.ownsRow.cells hr (g := g) rfl
    exact ⟨A, c, hc _ _ q0, by rw [add_add]; exact hc _ _ q1, q2, q3.more hC⟩
theorem Quar.areas {w : World} {B n c n2 c2 : Nat} {A A2 : Option Addr} {q : Qr} (h : Quar w B (.agg #[.slice A n c, .slice A2 n2 c2]) q) : n = q.m.length ∧ n2 = q.rs.length ∧ Objs w B A q.m ∧ q.m.length ≤ c ∧ Ars w B A2 q.rs ∧ q.rs.length ≤ c2 := by
  obtain ⟨A', c', A2', c2', e, h1, h2, h3, h4⟩ := h
  unfold qv at e
  injection e with e
  have e1 := congrArg (fun a : Array Value => a[0]?) e
  have e2 := congrArg (fun a : Array Value => a[1]?) e
  simp at e1 e2
  obtain ⟨rfl, rfl, rfl⟩ := e1
  obtain ⟨rfl, rfl, rfl⟩ := e2
  exact ⟨rfl, rfl, h1, h2, h3, h4⟩
end Go.Proofs.Ytblknnifccmpkaa
