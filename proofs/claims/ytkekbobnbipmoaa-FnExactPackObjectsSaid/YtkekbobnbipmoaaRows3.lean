/-
  Rows of objects as lists of cells.
-/
import Derived.Test.YtkekbobnbipmoaaOwnObs
namespace Go.Proofs.Ytkekbobnbipmoaa
open Go.RowKit Wo Pu

/-- The cells of a list of objects. -/
def Cells (w : World) (B : Nat) (xs : List Value) (os : List Ob) : Prop :=
  xs.length = os.length * 3 ∧ ∀ j (hj : j < os.length), ∃ (A : Option Addr) (c : Nat), xs[j * 3]? = some (.int .i64 os[j].kd) ∧ xs[j * 3 + 1]? = some (.slice A os[j].zs.length c) ∧ xs[j * 3 + 2]? = some (.string os[j].s) ∧ Row w B A (ints os[j].zs)
theorem add_add (a : Addr) (n d : Nat) : (a.add n).add d = a.add (n + d) := by
  unfold Addr.add
  by_cases hn : n = 0
  · subst hn; simp
  · by_cases hd : d = 0
    · subst hd; simp
    · rw [if_neg hn, if_neg hd, if_neg (by omega)]
      simp; omega
theorem Objs.cells {w : World} {B : Nat} {A : Option Addr} {os : List Ob} (h : Objs w B A os) : ∃ xs, Row w B A xs ∧ Cells w B xs os ∧ ∀ u ∈ xs, u.oneCell' = true := by
  rcases h with rfl | ⟨ad, rfl, ha, hh⟩
  · exact ⟨[], .inl rfl, ⟨rfl, fun j hj => by simp at hj⟩, fun u hu => by simp at hu⟩
  · have three : ∀ i, i < os.length * 3 → ∃ u, w.cell? (ad.add i) = some u ∧ u.oneCell' = true := fun i hi => by
      obtain ⟨A', c, h0, h1, h2, _⟩ := hh (i / 3) (by omega)
      rw [add_add] at h1 h2
      have key : i = i / 3 * 3 ∨ i = i / 3 * 3 + 1 ∨ i = i / 3 * 3 + 2 := by omega
      rcases key with e | e | e
      · rw [← e] at h0; exact ⟨_, h0, rfl⟩
      · rw [← e] at h1; exact ⟨_, h1, rfl⟩
      · rw [← e] at h2; exact ⟨_, h2, rfl⟩
    have get : ∀ (i : Nat), i < os.length * 3 → ((List.range (os.length * 3)).map fun i => (w.cell? (ad.add i)).getD undef)[i]? = w.cell? (ad.add i) := fun i hi => by
      obtain ⟨u, hu, _⟩ := three i hi
      simp [hi, hu]
    refine ⟨(List.range (os.length * 3)).map fun i => (w.cell? (ad.add i)).getD undef, .inr ⟨ad, rfl, ha, fun j u hu => ?_⟩, ⟨by simp, fun j hj => ?_⟩, fun u hu => ?_⟩
    · by_cases hj : j < os.length * 3
      · rw [get j hj] at hu; exact hu
      · rw [List.getElem?_eq_none (by simp; omega)] at hu; cases hu
    · obtain ⟨A', c, h0, h1, h2, h3⟩ := hh j hj
      rw [add_add] at h1 h2
      exact ⟨A', c, (get _ (by omega)).trans h0, (get _ (by omega)).trans h1, (get _ (by omega)).trans h2, h3⟩
    · obtain ⟨i, hi, rfl⟩ := List.mem_map.1 hu
      obtain ⟨u, hu, h1⟩ := three i (by simpa using hi)
      rw [hu]; exact h1
theorem Wo.Row.take_ {w : World} {B : Nat} {A : Option Addr} {vs : List Value} (h : Row w B A vs) (n : Nat) : Row w B A (vs.take n) := by
  rcases h with rfl | ⟨ad, e, ha, hc⟩
  · exact .inl (by simp)
  · refine .inr ⟨ad, e, ha, fun j u hu => hc j u ?_⟩
    by_cases hj : j < n
    · rw [List.getElem?_take_of_lt hj] at hu; exact hu
    · rw [List.getElem?_eq_none (by simp; omega)] at hu; cases hu
theorem Wo.Row.drop_ {w : World} {B : Nat} {ad : Addr} {vs : List Value} (h : Row w B (some ad) vs) (n : Nat) : Row w B (some (ad.add n)) (vs.drop n) := by
  rcases h with rfl | ⟨ad', e, ha, hc⟩
  · exact .inl (by simp)
  · injection e with e
    subst e
    refine .inr ⟨_, rfl, by rw [add_block]; exact ha, fun j u hu => ?_⟩
    rw [List.getElem?_drop] at hu
    rw [add_add]
    exact hc _ u hu
theorem Cells.below {w w' : World} {B C : Nat} {xs : List Value} {os : List Ob} (h : Cells w B xs os) (hb : Below C w w') (hC : B ≤ C) : Cells w' B xs os :=
  ⟨h.1, fun j hj => by obtain ⟨A, c, h0, h1, h2, h3⟩ := h.2 j hj; exact ⟨A, c, h0, h1, h2, h3.below hb hC⟩⟩
theorem Cells.more {w : World} {B C : Nat} {xs : List Value} {os : List Ob} (h : Cells w B xs os) (hC : B ≤ C) : Cells w C xs os :=
  ⟨h.1, fun j hj => by obtain ⟨A, c, h0, h1, h2, h3⟩ := h.2 j hj; exact ⟨A, c, h0, h1, h2, h3.more hC⟩⟩
theorem Cells.one {w : World} {B : Nat} {o : Ob} {A : Option Addr} {c : Nat} (h : Row w B A (ints o.zs)) : Cells w B [.int .i64 o.kd, .slice A o.zs.length c, .string o.s] [o] := by
  refine ⟨rfl, fun j hj => ?_⟩
  obtain rfl : j = 0 := by simpa using hj
  exact ⟨A, c, rfl, rfl, rfl, h⟩
theorem Cells.take_ {w : World} {B : Nat} {xs : List Value} {os : List Ob} (h : Cells w B xs os) (n : Nat) : Cells w B (xs.take (n * 3)) (os.take n) := by
  refine ⟨by rw [List.length_take, List.length_take, h.1]; omega, fun j hj => ?_⟩
  have hj' : j < n ∧ j < os.length := by simpa [List.length_take, Nat.lt_min] using hj
  obtain ⟨A, c, h0, h1, h2, h3⟩ := h.2 j hj'.2
  refine ⟨A, c, ?_, ?_, ?_, ?_⟩
  · rw [List.getElem?_take_of_lt (by omega), List.getElem_take]; exact h0
  · rw [List.getElem?_take_of_lt (by omega), List.getElem_take]; exact h1
  · rw [List.getElem?_take_of_lt (by omega), List.getElem_take]; exact h2
  · rw [List.getElem_take]; exact h3
theorem Cells.drop_ {w : World} {B : Nat} {xs : List Value} {os : List Ob} (h : Cells w B xs os) (n : Nat) : Cells w B (xs.drop (n * 3)) (os.drop n) := by
  refine ⟨by rw [List.length_drop, List.length_drop, h.1]; omega, fun j hj => ?_⟩
  have hj' : n + j < os.length := by rw [List.length_drop] at hj; omega
  obtain ⟨A, c, h0, h1, h2, h3⟩ := h.2 (n + j) hj'
  refine ⟨A, c, ?_, ?_, ?_, ?_⟩
  · rw [List.getElem?_drop, List.getElem_drop, show n * 3 + j * 3 = (n + j) * 3 from by omega]; exact h0
  · rw [List.getElem?_drop, List.getElem_drop, show n * 3 + (j * 3 + 1) = (n + j) * 3 + 1 from by omega]; exact h1
  · rw [List.getElem?_drop, List.getElem_drop, show n * 3 + (j * 3 + 2) = (n + j) * 3 + 2 from by omega]; exact h2
  · rw [List.getElem_drop]; exact h3
theorem Cells.app {w : World} {B : Nat} {xs ys : List Value} {os ps : List Ob} (h : Cells w B xs os) (k : Cells w B ys ps) : Cells w B (xs ++ ys) (os ++ ps) := by
  refine ⟨by rw [List.length_append, List.length_append, h.1, k.1]; omega, fun j hj => ?_⟩
  by_cases e : j < os.length
  · obtain ⟨A, c, h0, h1, h2, h3⟩ := h.2 j e
    have := h.1
    rw [List.getElem_append_left e]
    exact ⟨A, c, by rw [List.getElem?_append_left (by omega)]; exact h0, by rw [List.getElem?_append_left (by omega)]; exact h1, by rw [List.getElem?_append_left (by omega)]; exact h2, h3⟩
  · have hl := h.1
    obtain ⟨A, c, h0, h1, h2, h3⟩ := k.2 (j - os.length) (by rw [List.length_append] at hj; omega)
    rw [List.getElem_append_right (by omega)]
    refine ⟨A, c, ?_, ?_, ?_, h3⟩
    · rw [List.getElem?_append_right (by omega), hl, show j * 3 - os.length * 3 = (j - os.length) * 3 from by omega]; exact h0
    · rw [List.getElem?_append_right (by omega), hl, show j * 3 + 1 - os.length * 3 = (j - os.length) * 3 + 1 from by omega]; exact h1
    · rw [List.getElem?_append_right (by omega), hl, show j * 3 + 2 - os.length * 3 = (j - os.length) * 3 + 2 from by omega]; exact h2
/-- A row of the call's own with such cells is such a list. -/
theorem Cells.objs {w : World} {B C n : Nat} {v : Value} {xs : List Value} {os : List Ob} (h : Cells w C xs os) (hC : C ≤ w.heap.size) (hr : w.ownsRow B 42 3 v n xs) (hn : n = os.length) : ∃ (A : Option Addr) (c : Nat), v = .slice A os.length c ∧ Objs w w.heap.size A os := by
  subst hn
  rcases hr.2 with ⟨rfl, h0⟩ | ⟨g, cap, cur, rfl, _⟩
  · exact ⟨none, 0, by rw [h0], .inl (List.eq_nil_of_length_eq_zero h0)⟩
  · refine ⟨some ⟨g, 0, none⟩, cap, rfl, .inr ⟨_, rfl, (World.ownsRow.lt hr g rfl).2, fun i hi => ?_⟩⟩
    obtain ⟨A, c, q0, q1, q2, q3⟩ := h.2 i hi
    have hc := World.ownsRow.cells hr (g := g) rfl
    exact ⟨A, c, hc _ _ q0, by rw [add_add]; exact hc _ _ q1, by rw [add_add]; exact hc _ _ q2, q3.more hC⟩
theorem Blk.row3 {w : World} {g : Nat} {t : TypeId} {v0 v1 v2 : Value} (h : Blk w g t v0 v1 v2) : Row w w.heap.size (some ⟨g, 0, none⟩) [v0, v1, v2] := by
  obtain ⟨h0, h1, h2, _⟩ := h.reads
  refine .inr ⟨_, rfl, h.lt, fun j u hu => ?_⟩
  rw [add_lit]
  match j with
  | 0 => simp at hu; subst hu; exact h0
  | 1 => simp at hu; subst hu; exact h1
  | 2 => simp at hu; subst hu; exact h2
  | j + 3 => simp at hu
end Go.Proofs.Ytkekbobnbipmoaa
