/-
  Plain facts: an array of marks in memory; a list that is made shorter.
-/
import Derived.Test.YtfdilnibhcnkgaaReachP
import Derived.Test.YtfdilnibhcnkgaaObject
namespace Go.Proofs.Ytfdilnibhcnkgaa
open Go.RowKit Wo Pu

/-- Block g is an array of marks: those of V are set. -/
def Arr (w : World) (g : Nat) (V : List Int) : Prop :=
  ∃ cur : Array Value, w.heap[g]? = some (.cells cur 76 (0, 0)) ∧ cur.size = 991 ∧ ∀ i : Nat, i < 991 → cur[i]? = some (.bool (decide ((i : Int) ∈ V)))
set_option maxRecDepth 100000 in
theorem zero_marks : Try.zeroCells76 = Array.replicate 991 (.bool false) := by kernel_rfl
section
variable {w w' : World} {g : Nat} {V : List Int}
theorem Arr.new_ (w : World) : Arr (w.alloc (.cells Try.zeroCells76 76)) w.heap.size [] := by
  refine ⟨_, heap_alloc_new w _, by rw [zero_marks, Array.size_replicate], fun i hi => ?_⟩
  rw [zero_marks, Array.getElem?_replicate, if_pos hi]
  simp
theorem Arr.lt (h : Arr w g V) : g < w.heap.size := by
  obtain ⟨cur, h, _⟩ := h
  rcases Nat.lt_or_ge g w.heap.size with h1 | h1
  · exact h1
  · rw [Array.getElem?_eq_none h1] at h; cases h
theorem Arr.read (h : Arr w g V) {i : Nat} (hi : i < 991) : w.cell? ⟨g, i, none⟩ = some (.bool (decide ((i : Int) ∈ V))) := by
  obtain ⟨cur, h, h1, h2⟩ := h
  have := h2 i hi
  simp [World.cell?, h, this]
theorem Arr.frozen (h : Arr w g V) (o : Nat) : w.frozen? ⟨g, o, none⟩ = false := by
  obtain ⟨cur, h, _⟩ := h
  simp [World.frozen?, h]
theorem Arr.below {C : Nat} (h : Arr w g V) (hb : Below C w w') (hC : g < C) : Arr w' g V := by
  obtain ⟨cur, h, h1⟩ := h
  exact ⟨cur, (hb.block g hC).trans h, h1⟩
theorem Arr.grown {row : Option Nat} (h : Arr w g V) (hb : w.grownBy w' row) (hg : some g ≠ row) : Arr w' g V := by
  have hl := h.lt
  obtain ⟨cur, h, h1⟩ := h
  exact ⟨cur, (hb.block g hl hg).trans h, h1⟩
theorem Arr.far (h : Arr w g V) {p : Addr} (hp : g ≠ p.block) (u : Value) : Arr (w.setCell p u) g V := by
  obtain ⟨cur, h, h1⟩ := h
  exact ⟨cur, (Below.heap_setCell w p u g hp).trans h, h1⟩
theorem Arr.set (h : Arr w g V) {i : Nat} (hi : i < 991) : Arr (w.setCell ⟨g, i, none⟩ (.bool true)) g (V ++ [(i : Int)]) := by
  obtain ⟨cur, h, h1, h2⟩ := h
  refine ⟨cur.setIfInBounds i (.bool true), by simp [World.setCell, Array.getElem?_modify, h], by rw [Array.size_setIfInBounds]; exact h1, fun j hj => ?_⟩
  by_cases e : i = j
  · subst e
    rw [Array.getElem?_setIfInBounds_self_of_lt (by omega)]
    simp
  · rw [Array.getElem?_setIfInBounds_ne e, h2 j hj]
    have : ¬ (j : Int) = (i : Int) := by omega
    simp [this]
end
/-- Without its last number. -/
theorem Own.shrink {w : World} {B c : Nat} {A : Option Addr} {zs : List Int} {x : Int} (h : Own w B (.slice A (zs.length + 1) c) (zs ++ [x])) : Own w B (.slice A zs.length c) zs := by
  obtain ⟨h1, h2⟩ := h
  rcases h2 with ⟨hv, h0⟩ | ⟨g, cap, cur, hv, hB, hh, hn, hm, hcs, htk⟩
  · simp at h0
  · injection hv with e1 e2 e3
    subst e1 e3
    refine ⟨by simp [ints], .inr ⟨g, c, cur, rfl, hB, hh, by simp at hn; omega, hm, hcs, ?_⟩⟩
    have e : ints (zs ++ [x]) = ints zs ++ [.int .i64 x] := by simp [ints]
    rw [e] at htk
    have hl : (zs ++ [x]).length = zs.length + 1 := by simp
    rw [hl] at htk
    have := congrArg (List.take (zs.length * 1)) htk
    rw [List.take_take, List.take_append_of_le_length (by rw [ints_length]; omega), List.take_of_length_le (l := ints zs) (by rw [ints_length]; omega), Nat.min_eq_left (by omega)] at this
    exact this
end Go.Proofs.Ytfdilnibhcnkgaa
