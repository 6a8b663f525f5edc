/-
  Walks: marks written into memory of the call's own, and read again.
-/
import Derived.Test.YtkekbobnbipmoaaOwnObs
import Derived.Test.YtkekbobnbipmoaaCopy
import Derived.Test.YtkekbobnbipmoaaText
namespace Go.Proofs.Ytkekbobnbipmoaa
open Go.RowKit Wo Pu

/-- The numbers k, k+1, .., n of them. -/
def marks (k : Int) (n : Nat) : List Int := (List.range n).map (fun i => k + (i : Nat))
theorem marks_length (k : Int) (n : Nat) : (marks k n).length = n := by simp [marks]
theorem marks_get (k : Int) (n i : Nat) (h : i < (marks k n).length) : (marks k n)[i] = k + (i : Nat) := by simp [marks]

/-- Only cells of block g have been written. -/
def Wrote (g : Nat) (w w' : World) : Prop := w.grownBy w' (some g) ∧ w'.heap.size = w.heap.size ∧ ∀ (B : Nat) (e : TypeId) (sz n c : Nat) (xs : List Value), w.ownsRow B e sz (.slice (some ⟨g, 0, none⟩) n c) n xs → ∃ xs', w'.ownsRow B e sz (.slice (some ⟨g, 0, none⟩) n c) n xs'
theorem Wrote.refl (g : Nat) (w : World) : Wrote g w w := ⟨World.grownBy.refl w _, rfl, fun _ _ _ _ _ xs h => ⟨xs, h⟩⟩
theorem Wrote.set_ {g : Nat} {w w' : World} (h : Wrote g w w') (j : Nat) (u : Value) : Wrote g w (w'.setCell ⟨g, j, none⟩ u) := by
  obtain ⟨h1, h2, h3⟩ := h
  refine ⟨⟨h1.os, h1.tape, h1.output, by simpa using h1.size, fun i hi hne => ?_⟩, by simpa using h2, fun B e sz n c xs ho => ?_⟩
  · rw [Below.heap_setCell _ _ _ _ (fun e => hne (by rw [e]))]
    exact h1.block i hi hne
  · obtain ⟨xs', ho'⟩ := h3 B e sz n c xs ho
    exact ⟨_, (World.ownsRow.stored ho' j u).1⟩
theorem Wrote.own {g : Nat} {w w' : World} (h : Wrote g w w') {B : Nat} {e : TypeId} {sz n c : Nat} {g' : Nat} {xs : List Value} (ho : w.ownsRow B e sz (.slice (some ⟨g', 0, none⟩) n c) n xs) : ∃ xs', w'.ownsRow B e sz (.slice (some ⟨g', 0, none⟩) n c) n xs' := by
  by_cases hg : g' = g
  · subst hg
    exact h.2.2 _ _ _ _ _ _ ho
  · exact ⟨xs, World.ownsRow.kept ho h.1 (.inr (fun e => hg (by injection e)))⟩
theorem take_marks {xs : List Value} {k : Int} {n i : Nat} (h : xs.take i = (ints (marks k n)).take i) (hi : i < n) (hx : xs.length = n) : (xs.set i (.int .i64 (k + i))).take (i + 1) = (ints (marks k n)).take (i + 1) := by
  have hl : (ints (marks k n)).length = n := by rw [ints_length, marks_length]
  have := take_set (xs := xs) (ys := ints (marks k n)) h (by omega) (by omega)
  rw [ints_get _ _ (by rw [marks_length]; exact hi), marks_get] at this
  exact this

set_option maxHeartbeats 1000000 in
theorem markIntS_own (B g n c : Nat) (k : Int) (xs : List Value) (w : World) (ho : w.ownsRow B 3 1 (.slice (some ⟨g, 0, none⟩) n c) n xs) (hn : n ≤ 1048576) (h0 : 0 ≤ k) (h1 : k ≤ 4503599627370496) :
    Calls Try.prog 57 #[.slice (some ⟨g, 0, none⟩) n c, .int .i64 k] w (fun e w' => e = .returned (.int .i64 (k + n)) ∧ Wrote g w w' ∧ w'.ownsRow B 3 1 (.slice (some ⟨g, 0, none⟩) n c) n (ints (marks k n))) := by
  go_enter Try.func57, Try.ntmps57
  go_wp2_with fail
  have hx0 : Hid (∃ ys : List Value, w.ownsRow B 3 1 (.slice (some ⟨g, 0, none⟩) n c) n ys ∧ ys.take 0 = (ints (marks k n)).take 0) := ⟨xs, ho, by simp⟩
  clear ho
  go_loopw [1, 5] (fun q i wr => ∃ m : Nat, m ≤ n ∧ i = .int .i64 m ∧ q = .int .i64 (k + m) ∧ Wrote g w wr ∧ Hid (∃ ys : List Value, wr.ownsRow B 3 1 (.slice (some ⟨g, 0, none⟩) n c) n ys ∧ ys.take m = (ints (marks k n)).take m)) (fun _ i _ => n - (intOf i).toNat)
  case atStart => exact ⟨0, Nat.zero_le _, rfl, by simp, Wrote.refl _ _, hx0⟩
  case round =>
    obtain ⟨m, hm, rfl, rfl, hw, HX⟩ := hrel
    clear hx0
    obtain ⟨ys, hy, ht⟩ := HX.out
    clear HX
    have hyl : ys.length = n := by have := hy.1; omega
    by_cases hlt : m < n
    · have hv0 : ∃ v0, wr.cell? ⟨g, m, none⟩ = some v0 := ⟨_, (World.ownsRow.cellAt hy m (by omega)).trans (List.getElem?_eq_getElem (by omega))⟩
      obtain ⟨v0, hv0⟩ := hv0
      have hf0 := World.ownsRow.frozenAt hy m
      have hy2 := (World.ownsRow.stored hy m (.int .i64 (k + m))).1
      have ht2 := hid (take_marks ht hlt hyl)
      have hw2 := hw.set_ m (.int .i64 (k + m))
      clear ht hy hw
      go_wp2
      go_roundw
      case rel => exact ⟨m + 1, by omega, by go_num, by congr 1; omega, hw2, _, hy2, ht2.out⟩
      case measure => simp [intOf]; omega
    · have hm' : m = n := by omega
      subst hm'
      have e : ys = ints (marks k m) := by
        rw [List.take_of_length_le (by omega), List.take_of_length_le (by rw [ints_length, marks_length]; omega)] at ht
        exact ht
      subst e
      clear ht
      go_wp2
      go_ret
      exact ⟨rfl, hw, hy⟩

set_option maxHeartbeats 1000000 in
theorem heldIntS_yes (B : Nat) (A : Option Addr) (c n : Nat) (k : Int) (w : World) (hr : Row w B A (ints (marks k n))) (hn : n ≤ 1048576) (h0 : 0 ≤ k) (h1 : k ≤ 4503599627370496) :
    Calls Try.prog 60 #[.slice A n c, .int .i64 k] w (Same (.int .i64 (k + n)) w) := by
  go_enter Try.func60, Try.ntmps60
  go_wp2_with fail
  go_loop [1, 5] (fun q i => ∃ m : Nat, m ≤ n ∧ i = .int .i64 m ∧ q = .int .i64 (k + m)) (fun _ i => n - (intOf i).toNat)
  case atStart => exact ⟨0, Nat.zero_le _, rfl, by simp⟩
  case round =>
    obtain ⟨m, hm, rfl, rfl⟩ := hrel
    by_cases hlt : m < n
    · obtain ⟨ad, rfl, hb, hc⟩ := hr.int_ (k := m) (by rw [marks_length]; exact hlt)
      rw [marks_get] at hc
      go_wp2
      go_round
      case rel => exact ⟨m + 1, by omega, by go_num, by congr 1; omega⟩
      case measure => simp [intOf]; omega
    · have hm' : m = n := by omega
      subst hm'
      go_wp2
      go_ret
      exact ⟨rfl, rfl⟩

set_option maxHeartbeats 1000000 in
theorem markText_any (k : Int) (w : World) (h0 : 1 ≤ k) (h1 : k ≤ 4503599627370496) :
    Calls Try.prog 59 #[.int .i64 k] w (fun e w' => ∃ s : ByteArray, e = .returned (.string s) ∧ Below w.heap.size w w') := by
  go_enter Try.func59, Try.ntmps59
  go_wp2_with fail
  go_loopw [0, 3] (fun n t wr => ∃ (m : Nat) (s : ByteArray), n = .int .i64 m ∧ t = .string s ∧ (s.size : Int) + m ≤ k ∧ Below w.heap.size w wr) (fun n _ _ => (intOf n).toNat)
  case atStart => exact ⟨k.toNat, ⟨#[]⟩, by rw [Int.toNat_of_nonneg (by omega)], rfl, by rw [Int.toNat_of_nonneg (by omega)]; show ((0 : Nat) : Int) + k ≤ k; omega, Below.refl _ _⟩
  case round =>
    obtain ⟨m, s, rfl, rfl, hs, hb⟩ := hrel
    by_cases hlt : 0 < m
    · obtain ⟨b, hcv⟩ := conv_one wr (48 + (m : Int) % 10) (by omega) (by omega)
      go_wp2_with fail
      go_roundw
      case rel =>
        refine ⟨m / 10, _, by congr 1, rfl, ?_, hb.alloc hb.size _⟩
        rw [ByteArray.size_append]
        show (((1 : Nat) + s.size : Nat) : Int) + _ ≤ k
        omega
      case measure => simp [intOf]; omega
    · have hm : m = 0 := by omega
      subst hm
      go_wp2
      go_ret
      exact ⟨_, rfl, hb⟩
end Go.Proofs.Ytkekbobnbipmoaa
