/-
  Walks: ids in order, each once.
-/
import Derived.Test.YtkekbobnbipmoaaText
namespace Go.Proofs.Ytkekbobnbipmoaa
open Go.RowKit Wo Pu

/-- The numbers below k that are among zs, in order. -/
def sortedTo (zs : List Int) (k : Nat) : List Int := ((List.range k).map (fun i : Nat => (i : Int))).filter (fun x => decide (x ∈ zs))
theorem sortedTo_zero (zs : List Int) : sortedTo zs 0 = [] := rfl
theorem sortedTo_yes {zs : List Int} {k : Nat} (h : (k : Int) ∈ zs) : sortedTo zs (k + 1) = sortedTo zs k ++ [(k : Int)] := by
  simp [sortedTo, List.range_succ, h]
theorem sortedTo_no {zs : List Int} {k : Nat} (h : (k : Int) ∉ zs) : sortedTo zs (k + 1) = sortedTo zs k := by
  simp [sortedTo, List.range_succ, h]
theorem sortedTo_length (zs : List Int) (k : Nat) : (sortedTo zs k).length ≤ k := by
  have := List.length_filter_le (fun x => decide (x ∈ zs)) ((List.range k).map (fun i : Nat => (i : Int)))
  simpa [sortedTo] using this

/-- The slice v, of the call's own, holds the numbers zs. -/
def Own (w : World) (B : Nat) (v : Value) (zs : List Int) : Prop := w.ownsRow B 3 1 v zs.length (ints zs)
theorem Own.form {w : World} {B : Nat} {v : Value} {zs : List Int} (h : Own w B v zs) : ∃ (A : Option Addr) (c : Nat), v = .slice A zs.length c ∧ Row w w.heap.size A (ints zs) := by
  have h' := h
  obtain ⟨h1, h2⟩ := h
  rcases h2 with ⟨rfl, h0⟩ | ⟨g, cap, cur, rfl, _⟩
  · refine ⟨none, 0, by rw [h0], ?_⟩
    have : zs = [] := List.eq_nil_of_length_eq_zero h0
    subst this
    exact .inl rfl
  · refine ⟨_, _, rfl, Row.of_own h' (fun hx => ?_)⟩
    rcases Nat.eq_zero_or_pos zs.length with h0 | h0
    · have : zs = [] := List.eq_nil_of_length_eq_zero h0
      subst this
      exact absurd rfl hx
    · exact h0
theorem Own.row {w : World} {B c : Nat} {A : Option Addr} {zs : List Int} (h : Own w B (.slice A zs.length c) zs) : Row w w.heap.size A (ints zs) := by
  obtain ⟨A', c', e, hr⟩ := h.form
  injection e with e1
  subst e1
  exact hr
theorem Own.below {w w' : World} {B C : Nat} {v : Value} {zs : List Int} (h : Own w B v zs) (hb : Below C w w') (hC : w.heap.size ≤ C) : Own w' B v zs := by
  obtain ⟨h1, h2⟩ := h
  refine ⟨h1, ?_⟩
  rcases h2 with h2 | ⟨g, cap, cur, hv, hB, hh, hr⟩
  · exact .inl h2
  · refine .inr ⟨g, cap, cur, hv, hB, ?_, hr⟩
    have hl : g < w.heap.size := by
      rcases Nat.lt_or_ge g w.heap.size with h3 | h3
      · exact h3
      · rw [Array.getElem?_eq_none h3] at hh; cases hh
    rw [hb.block g (by omega)]
    exact hh
theorem Own.but {w w' : World} {R B : Nat} {v : Value} {zs : List Int} (h : Own w B v zs) (hb : But R w w') (hR : R < B) : Own w' B v zs :=
  World.ownsRow.kept h hb (by
    rcases hv : v.ownBlock with _ | k
    · exact .inl rfl
    · refine .inr (fun e => ?_)
      have := (World.ownsRow.lt h k hv).1
      injection e with e
      omega)
theorem Own.nil_new {w : World} {B : Nat} (hB : B ≤ w.heap.size) : Own (w.alloc (.cells #[] 3)) B (.slice (some ⟨w.heap.size, 0, none⟩) 0 0) [] :=
  ⟨rfl, .inr ⟨w.heap.size, 0, #[], rfl, hB, heap_alloc_new w _, Nat.le_refl _, by decide, rfl, rfl⟩⟩
/-- Behind it: a slice of the call's own with the numbers zs. -/
def NewOwn (zs : List Int) (w : World) (e : Ending) (w' : World) : Prop := ∃ v, e = .returned v ∧ Own w' w.heap.size v zs ∧ Below w.heap.size w w'
theorem Own.app {w' : World} {B : Nat} {v' : Value} {zs : List Int} {x : Int} (h : w'.ownsRow B 3 1 v' (zs.length + 1) (ints zs ++ [.int .i64 x])) : Own w' B v' (zs ++ [x]) := by
  have e : (zs ++ [x]).length = zs.length + 1 := by simp
  have e2 : ints (zs ++ [x]) = ints zs ++ [.int .i64 x] := by simp [ints]
  unfold Own
  rw [e, e2]
  exact h
theorem Own.lt {w : World} {B : Nat} {v : Value} {zs : List Int} (h : Own w B v zs) : ∀ k, v.ownBlock = some k → B ≤ k := fun k hk => (World.ownsRow.lt h k hk).1

theorem one_int (k : Int) : ∀ u ∈ [Value.int .i64 k], u.oneCell' = true := by
  intro u hu
  rw [List.mem_singleton.1 hu]
  rfl

set_option maxRecDepth 100000 in
set_option maxHeartbeats 2000000 in
theorem l1Sorted_any (B : Nat) (A : Option Addr) (c : Nat) (zs : List Int) (w : World) (hr : Row w B A (ints zs)) (hB : B ≤ w.heap.size) (hm : zs.length ≤ maxLen) :
    Calls Try.prog 87 #[.slice A zs.length c] w (NewOwn (sortedTo zs 991) w) := by
  obtain ⟨i0, hi, hz0, hz1, hz2⟩ := info_of info_int
  go_enter Try.func87, Try.ntmps87
  go_wp2_with fail
  go_loopw [3, 4] (fun v i wr => ∃ k : Nat, k ≤ 991 ∧ i = .int .i64 k ∧ Own wr w.heap.size v (sortedTo zs k) ∧ Below w.heap.size w wr) (fun _ i _ => 991 - (intOf i).toNat)
  case atStart => exact ⟨0, by omega, rfl, Own.nil_new (Nat.le_refl _), (Below.refl _ _).alloc (Nat.le_refl _) _⟩
  case round =>
    obtain ⟨k, hk, rfl, ho, hb⟩ := hrel
    have hrk := hr.below hb hB
    have hz := hb.size
    have hlen := sortedTo_length zs k
    by_cases hlt : k < 991
    · cases hx : decide ((k : Int) ∈ zs)
      · have H := hid (sortedTo_no (of_decide_eq_false hx))
        go_wp2_with (go_at_call 100; refine (l1Has_any B A c zs k _ hrk hm).mono ?_; rintro e w' ⟨rfl, rfl⟩)
        go_roundw
        case rel => exact ⟨k + 1, by omega, by go_num, by rw [H.out]; exact ho, hb⟩
        case measure => simp [intOf]; omega
      · have H := hid (sortedTo_yes (of_decide_eq_true hx))
        go_wp2_with (first
          | (go_at_call 100; refine (l1Has_any B A c zs k _ hrk hm).mono ?_; rintro e w' ⟨rfl, rfl⟩)
          | (at_builtin; go_must (refine wpList_append_own _ rfl _ _ 30 rfl w.heap.size 3 i0 (.int .i64 0) 1 8 Try.underlying30 hi hz0 hz1 hz2 rfl (by decide) _ _ _ rfl (World.ownsRow.alloc ho _) ⟨wr.heap.size, 0, none⟩ 1 1 [.int .i64 k] rfl rfl (cell_one_new _ _ _) (one_int k) (by unfold maxLen; omega) (by omega) (by simp; omega) ?_); intro v' w1 hown hg _))
        have ho1 := Own.app hown
        have hb1 : Below w.heap.size w w1 := (hb.alloc hz _).grown hg (by simp; omega) (ho.lt)
        clear hown hg
        go_wp2
        go_roundw
        case rel => exact ⟨k + 1, by omega, by go_num, by rw [H.out]; exact ho1, hb1⟩
        case measure => simp [intOf]; omega
    · have hk' : k = 991 := by omega
      subst hk'
      go_wp2
      go_ret
      exact ⟨_, rfl, ho, hb⟩
end Go.Proofs.Ytkekbobnbipmoaa
