/-
  Plain facts: arrays in memory; lists of refs that are being filled; which refs have been marked.
-/
import Derived.Test.YtcjnlbjlbmadlaaRefX
import Derived.Test.YtcjnlbjlbmadlaaRefL
import Derived.Laws.Rows
import Derived.Laws.Tables
import Derived.Laws.CopyOwn
import Derived.Great.BuildSlice
namespace Go.Proofs.Ytcjnlbjlbmadlaa
open Go.RowKit Wo Pu Rf

/-- Block g is an array of the values vs. -/
def Arr4 (w : World) (g : Nat) (t : TypeId) (vs : List Value) : Prop := w.heap[g]? = some (.cells vs.toArray t (0, 0))
section
variable {w w' : World} {g : Nat} {t : TypeId} {vs : List Value}
theorem Arr4.new_ (w : World) (t : TypeId) (vs : List Value) : Arr4 (w.alloc (.cells vs.toArray t)) w.heap.size t vs := heap_alloc_new w _
theorem Arr4.lt (h : Arr4 w g t vs) : g < w.heap.size := by
  rcases Nat.lt_or_ge g w.heap.size with h1 | h1
  · exact h1
  · unfold Arr4 at h; rw [Array.getElem?_eq_none h1] at h; cases h
theorem Arr4.read (h : Arr4 w g t vs) {i : Nat} (hi : i < vs.length) : w.cell? ⟨g, i, none⟩ = some vs[i] := by
  unfold Arr4 at h
  simp [World.cell?, h, hi]
theorem Arr4.frozen (h : Arr4 w g t vs) (o : Nat) : w.frozen? ⟨g, o, none⟩ = false := by
  unfold Arr4 at h
  simp [World.frozen?, h]
theorem Arr4.below {C : Nat} (h : Arr4 w g t vs) (hb : Below C w w') (hC : g < C) : Arr4 w' g t vs := (hb.block g hC).trans h
theorem Arr4.far (h : Arr4 w g t vs) {p : Addr} (hp : g ≠ p.block) (u : Value) : Arr4 (w.setCell p u) g t vs := (Below.heap_setCell w p u g hp).trans h
theorem Arr4.set (h : Arr4 w g t vs) (i : Nat) (u : Value) : Arr4 (w.setCell ⟨g, i, none⟩ u) g t (vs.set i u) := by
  unfold Arr4 at h ⊢
  simp [World.setCell, Array.getElem?_modify, h]
theorem Arr4.row (h : Arr4 w g t vs) : Row w w.heap.size (some ⟨g, 0, none⟩) vs := by
  refine .inr ⟨_, rfl, h.lt, fun j v hj => ?_⟩
  have e : (⟨g, 0, none⟩ : Addr).add j = ⟨g, j, none⟩ := by unfold Addr.add; split <;> simp_all
  rw [e]
  unfold Arr4 at h
  simp [World.cell?, h, hj]
end
/-- The first k are zs's, the others 0. -/
def pad (zs : List Int) (k : Nat) : List Int := zs.take k ++ List.replicate (4 - k) 0
theorem pad_zero (zs : List Int) : pad zs 0 = [0, 0, 0, 0] := by simp [pad, List.replicate]
theorem pad_all {zs : List Int} (h : zs.length = 4) : pad zs 4 = zs := by simp [pad, List.take_of_length_le, h]
theorem pad_length {zs : List Int} {k : Nat} (h : zs.length = 4) (hk : k ≤ 4) : (pad zs k).length = 4 := by simp [pad]; omega
theorem pad_set {zs : List Int} {k : Nat} (h : zs.length = 4) (hk : k < 4) : (pad zs k).set k (zs[k]'(by omega)) = pad zs (k + 1) := by
  apply List.ext_getElem?
  intro i
  unfold pad
  rw [List.getElem?_set, List.length_append, List.length_take, List.length_replicate]
  have hk' : k < zs.length := by omega
  by_cases e : k = i
  · subst e
    rw [if_pos rfl, if_pos (by omega), List.getElem?_append_left (by simp; omega), List.getElem?_take, if_pos (by omega), List.getElem?_eq_getElem hk']
  · rw [if_neg e]
    by_cases hi : i < k
    · rw [List.getElem?_append_left (by simp; omega), List.getElem?_append_left (by simp; omega), List.getElem?_take, List.getElem?_take, if_pos hi, if_pos (by omega)]
    · rw [List.getElem?_append_right (by simp; omega), List.getElem?_append_right (by simp; omega), List.length_take, List.length_take, List.getElem?_replicate, List.getElem?_replicate]
      by_cases h4 : i < 4
      · rw [if_pos (by omega), if_pos (by omega)]
      · rw [if_neg (by omega), if_neg (by omega)]
/-- Which refs the first k of us name. -/
def named (us : List Up) (k : Nat) (i : Nat) : Bool := (us.take k).any (fun u => u.r.toNat == i)
def nameds (us : List Up) (k : Nat) : List Value := [.bool (named us k 0), .bool (named us k 1), .bool (named us k 2), .bool (named us k 3)]
theorem named_zero (us : List Up) (i : Nat) : named us 0 i = false := by simp [named]
theorem nameds_zero (us : List Up) : nameds us 0 = [.bool false, .bool false, .bool false, .bool false] := by simp [nameds, named_zero]
theorem named_next {us : List Up} {k : Nat} (hk : k < us.length) (i : Nat) : named us (k + 1) i = (named us k i || us[k].r.toNat == i) := by
  unfold named
  rw [List.take_succ_eq_append_getElem hk, List.any_append]
  simp
theorem nameds_next {us : List Up} {k : Nat} (hk : k < us.length) {m : Nat} (hm : us[k].r = (m : Int)) (h4 : m < 4) : (nameds us k).set m (.bool true) = nameds us (k + 1) := by
  unfold nameds
  simp only [named_next hk, hm, Int.toNat_natCast]
  match m, h4 with
  | 0, _ => simp
  | 1, _ => simp
  | 2, _ => simp
  | 3, _ => simp
theorem nameds_get (us : List Up) (k : Nat) {m : Nat} (h4 : m < 4) : (nameds us k)[m]'(by simpa [nameds] using h4) = .bool (named us k m) := by
  unfold nameds
  match m, h4 with
  | 0, _ => rfl
  | 1, _ => rfl
  | 2, _ => rfl
  | 3, _ => rfl
theorem named_iff (us : List Up) (i : Nat) : named us us.length i = true ↔ ∃ u ∈ us, u.r.toNat = i := by
  unfold named
  rw [List.take_length, List.any_eq_true]
  simp
/-- None of the first k of b names a ref of a. -/
def Apart (a b : List Up) (k : Nat) : Prop := ∀ i (h : i < b.length), i < k → named a a.length b[i].r.toNat = false
theorem Apart.zero (a b : List Up) : Apart a b 0 := fun _ _ h => absurd h (Nat.not_lt_zero _)
theorem Apart.next {a b : List Up} {k : Nat} (h : Apart a b k) (hk : k < b.length) (e : named a a.length b[k].r.toNat = false) : Apart a b (k + 1) := fun i hi hl => by
  by_cases e2 : i = k
  · subst e2; exact e
  · exact h i hi (by omega)
theorem Apart.none {a b : List Up} (h : Apart a b b.length) : ¬ Cross a b := fun ⟨_, _, u, hu, v, hv, e⟩ => by
  obtain ⟨i, hi, rfl⟩ := List.getElem_of_mem hv
  have h1 := h i hi hi
  have h2 := (named_iff a b[i].r.toNat).2 ⟨u, hu, by rw [e]⟩
  rw [h1] at h2
  cases h2
theorem cross_named {a b : List Up} (ha : UV a) (hb : UV b) {k : Nat} (hk : k < b.length) (e : named a a.length b[k].r.toNat = true) : Cross a b := by
  obtain ⟨u, hu, h⟩ := (named_iff a _).1 e
  have h1 := (ha.2.mem u hu).2.1
  have h2 := (hb.2.mem _ (List.getElem_mem hk)).2.1
  exact ⟨ha, hb, u, hu, _, List.getElem_mem hk, by omega⟩
/-- The ref of the last of the first k; -1 if there is none. -/
def lastR (us : List Up) (k : Nat) : Int := if h : 0 < k ∧ k - 1 < us.length then (us[k - 1]'h.2).r else -1
theorem lastR_zero (us : List Up) : lastR us 0 = -1 := by unfold lastR; rw [dif_neg (by omega)]
theorem lastR_next {us : List Up} {k : Nat} (hk : k < us.length) : lastR us (k + 1) = us[k].r := by
  unfold lastR
  rw [dif_pos (by omega)]
  rfl
theorem okU_iff {us : List Up} {k : Nat} (hk : k < us.length) : OkU us k hk ↔ Ok us[k] ∧ lastR us k < us[k].r := by
  unfold OkU lastR
  refine and_congr_right fun h => ?_
  by_cases e : k = 0
  · subst e
    rw [dif_neg (by omega)]
    exact ⟨fun _ => by have := h.1.1; omega, fun _ => .inl rfl⟩
  · rw [dif_pos ⟨by omega, by omega⟩]
    exact ⟨fun h2 => by rcases h2 with h2 | ⟨_, h2⟩; exact absurd h2 e; exact h2, fun h2 => .inr ⟨by omega, h2⟩⟩
end Go.Proofs.Ytcjnlbjlbmadlaa
