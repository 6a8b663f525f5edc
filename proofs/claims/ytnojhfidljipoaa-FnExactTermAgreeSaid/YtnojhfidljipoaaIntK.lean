/-
  Words and walks for lists of integers: copied, compared, marked, of the call's own.
-/
import Derived.Test.YtnojhfidljipoaaKitD
import Derived.IntWalk
import Derived.Maps.AppendAt
namespace Go.Proofs.Ytnojhfidljipoaa
open Go.RowKit Wo Pu

theorem Ret.val_ {a b : Value} {w w' : World} (h : b = a) (hb : Below w.heap.size w w') : Ret a w (.returned b) w' := by subst h; exact ⟨rfl, hb⟩
theorem bool_of (p : Prop) : ∃ b : Bool, (b = true ↔ p) := by
  by_cases h : p
  · exact ⟨true, by simp [h]⟩
  · exact ⟨false, by simp [h]⟩
theorem l6In_yes (n lo hi : Int) (w : World) (h1 : lo ≤ n) (h2 : n ≤ hi) : Calls Try.prog 28 #[.int .i64 n, .int .i64 lo, .int .i64 hi] w (Same (.bool true) w) := by
  go_enter Try.func28, Try.ntmps28
  go_wp2
  go_ret
  exact ⟨rfl, rfl⟩
theorem l6In_no (n lo hi : Int) (w : World) (h : n < lo ∨ hi < n) : Calls Try.prog 28 #[.int .i64 n, .int .i64 lo, .int .i64 hi] w (Same (.bool false) w) := by
  by_cases h1 : lo ≤ n
  · have h2 : hi < n := by omega
    clear h
    have e1 : decide (lo ≤ n) = true := by simp [h1]
    have e2 : decide (n ≤ hi) = false := by simp; omega
    go_enter Try.func28, Try.ntmps28
    go_wp2
    go_ret
    exact ⟨rfl, rfl⟩
  · have h2 : n < lo := by omega
    clear h
    have e1 : decide (lo ≤ n) = false := by simp; omega
    go_enter Try.func28, Try.ntmps28
    go_wp2
    go_ret
    exact ⟨rfl, rfl⟩
theorem info_int : (Try.prog.info? 3).map (fun i => (i.zero, i.size, i.bytes)) = some (some (.int .i64 0), 1, 8) := by kernel_rfl
theorem one_int (x : Int) : ∀ u ∈ [Value.int .i64 x], u.oneCell' = true := by
  intro u hu
  rw [List.mem_singleton.1 hu]
  rfl
/-- The slice v, of the call's own, holds the integers zs. -/
def OwnI (w : World) (B : Nat) (v : Value) (zs : List Int) : Prop := w.ownsRow B 3 1 v zs.length (ints zs)
theorem OwnI.nil_new {w : World} {B : Nat} (hB : B ≤ w.heap.size) : OwnI (w.alloc (.cells #[] 3)) B (.slice (some ⟨w.heap.size, 0, none⟩) 0 0) [] := nil_own hB _ _
theorem OwnI.below {w w' : World} {B C : Nat} {v : Value} {zs : List Int} (h : OwnI w B v zs) (hb : Below C w w') (hC : w.heap.size ≤ C) : OwnI w' B v zs := own_below h hb hC
theorem OwnI.but {w w' : World} {R B : Nat} {v : Value} {zs : List Int} (h : OwnI w B v zs) (hb : But R w w') (hR : R < B) : OwnI w' B v zs := by
  refine World.ownsRow.kept h hb ?_
  rcases hv : v.ownBlock with _ | k
  · exact .inl rfl
  · refine .inr (fun e => ?_)
    have := (World.ownsRow.lt h k hv).1
    injection e with e
    omega
theorem OwnI.base {w : World} {B B' : Nat} {v : Value} {zs : List Int} (h : OwnI w B v zs) (hB : B' ≤ B) : OwnI w B' v zs := by
  obtain ⟨h1, h2⟩ := h
  refine ⟨h1, ?_⟩
  rcases h2 with h | ⟨g, cap, cur, hv, hb, hr⟩
  · exact .inl h
  · exact .inr ⟨g, cap, cur, hv, by omega, hr⟩
theorem OwnI.app {w' : World} {B : Nat} {v' : Value} {zs : List Int} {x : Int} (h : w'.ownsRow B 3 1 v' (zs.length + 1) (ints zs ++ [.int .i64 x])) : OwnI w' B v' (zs ++ [x]) := by
  have e2 : ints (zs ++ [x]) = ints zs ++ [.int .i64 x] := by simp [ints]
  unfold OwnI
  rw [List.length_append, List.length_singleton, e2]
  exact h
theorem OwnI.form {w : World} {B : Nat} {v : Value} {zs : List Int} (h : OwnI w B v zs) : ∃ (A : Option Addr) (c : Nat), v = .slice A zs.length c ∧ Row w w.heap.size A (ints zs) ∧ zs.length ≤ c := by
  have h' := h
  obtain ⟨h1, h2⟩ := h
  rcases h2 with ⟨rfl, h0⟩ | ⟨g, cap, cur, rfl, _, _, hn, _⟩
  · have : zs = [] := List.eq_nil_of_length_eq_zero h0
    subst this
    exact ⟨none, 0, rfl, .inl rfl, Nat.le_refl _⟩
  · refine ⟨_, _, rfl, Row.of_own h' (fun hx => ?_), hn⟩
    rcases Nat.eq_zero_or_pos zs.length with h0 | h0
    · have : zs = [] := List.eq_nil_of_length_eq_zero h0
      subst this
      exact absurd rfl hx
    · exact h0
/-- Behind it: integers of the call's own. -/
def IntsOf (zs : List Int) (w : World) (e : Ending) (w' : World) : Prop := ∃ A c, e = .returned (.slice A zs.length c) ∧ OwnI w' w.heap.size (.slice A zs.length c) zs ∧ Below w.heap.size w w'
theorem IntsOf.mk_ {zs : List Int} {w w' : World} {v : Value} (ho : OwnI w' w.heap.size v zs) (hb : Below w.heap.size w w') : IntsOf zs w (.returned v) w' := by
  obtain ⟨A, c, rfl, _⟩ := ho.form
  exact ⟨A, c, rfl, ho, hb⟩
theorem OwnI.row {w : World} {B c : Nat} {A : Option Addr} {n : Nat} {zs : List Int} (h : OwnI w B (.slice A n c) zs) : Row w w.heap.size A (ints zs) := by
  obtain ⟨A', c', e, hr, _⟩ := h.form
  injection e with e1
  subst e1
  exact hr
/-- Behind it: a new slice with the cells xs. -/
def NewInts (zs : List Int) (w : World) (e : Ending) (w' : World) : Prop :=
  ∃ g, e = .returned (.slice (some ⟨g, 0, none⟩) zs.length zs.length) ∧ Mine w' w.heap.size 3 1 g zs.length (ints zs) ∧ Below w.heap.size w w'

set_option maxHeartbeats 1000000 in
theorem toIntS_any (B : Nat) (A : Option Addr) (c : Nat) (zs : List Int) (w : World) (hr : Row w B A (ints zs)) (hB : B ≤ w.heap.size) (hm : zs.length ≤ 1048576) :
    Calls Try.prog 17 #[.slice A zs.length c] w (NewInts zs w) := by
  obtain ⟨i0, hi, hz0, hz1, hz2⟩ := info_of info_int
  go_enter Try.func17, Try.ntmps17
  go_wp2_with (at_make; refine wpList_make_full _ rfl (.tmp 6) (.tmp 6) 23 rfl w.heap.size 3 i0 (.int .i64 0) 1 Try.underlying23 hi hz0 hz1 .i64 .i64 zs.length zs.length zs.length rfl rfl rfl rfl (by rw [hz2]; omega) (by unfold maxLen; omega) (Nat.le_refl _) ?_; intro w1 hown hg)
  have hb1 : Below w.heap.size w w1 := (Below.refl _ _).grown hg (Nat.le_refl _) (by simp)
  have hm1 : Hid (∃ xs : List Value, Mine w1 w.heap.size 3 1 w.heap.size zs.length xs ∧ xs.take 0 = (ints zs).take 0) := ⟨_, hown, by simp⟩
  clear hown hg
  go_loopw [4] (fun i wr => ∃ k : Nat, k ≤ zs.length ∧ i = .int .i64 k ∧ Below w.heap.size w wr ∧ Hid (∃ xs : List Value, Mine wr w.heap.size 3 1 w.heap.size zs.length xs ∧ xs.take k = (ints zs).take k)) (fun i _ => zs.length - (intOf i).toNat)
  case atStart => exact ⟨0, Nat.zero_le _, rfl, hb1, hm1⟩
  case round =>
    obtain ⟨k, hk, rfl, hb, HX⟩ := hrel
    clear hb1 hm1
    obtain ⟨xs, hx, ht⟩ := HX.out
    clear HX
    by_cases hlt : k < zs.length
    · obtain ⟨ad, rfl, hbl, hc⟩ := (hr.below hb hB).int_ hlt
      obtain ⟨v0, hv0⟩ := hx.cell hlt
      have hf0 := hx.frozen k
      have hx2 := hx.set_ k (.int .i64 zs[k])
      have ht2 := hid (take_set ht (by rw [hx.len]; omega) (by rw [ints_length]; exact hlt))
      clear ht hx
      go_wp2
      go_roundw
      case rel => exact ⟨k + 1, by omega, by go_num, hb.setCell (Nat.le_refl _) _, _, hx2, by have := ht2.out; rw [ints_get zs k hlt] at this; exact this⟩
      case measure => simp [intOf]; omega
    · have hk' : k = zs.length := by omega
      subst hk'
      have hxs : xs = ints zs := by
        have hl := hx.len
        rw [List.take_of_length_le (by omega), List.take_of_length_le (by rw [ints_length]; omega)] at ht
        exact ht
      clear ht
      subst hxs
      go_wp2
      go_ret
      exact ⟨_, rfl, hx, hb⟩

set_option maxHeartbeats 1000000 in
theorem eqIntS_same (B C : Nat) (A A' : Option Addr) (c c' : Nat) (zs : List Int) (w : World) (hr : Row w B A (ints zs)) (hr' : Row w C A' (ints zs)) (hm : zs.length ≤ maxLen) :
    Calls Try.prog 18 #[.slice A zs.length c, .slice A' zs.length c'] w (Quiet (.bool true) w) := by
  unfold maxLen at hm
  go_enter Try.func18, Try.ntmps18
  go_wp2
  go_loopw [5] (fun i wr => ∃ k : Nat, k ≤ zs.length ∧ i = .int .i64 k ∧ Dr w wr) (fun i _ => zs.length - (intOf i).toNat)
  case atStart => exact ⟨0, Nat.zero_le _, rfl, .refl _⟩
  case round =>
    obtain ⟨k, hk, rfl, HW⟩ := hrel
    by_cases hlt : k < zs.length
    · obtain ⟨ad, rfl, hb, hc⟩ := (HW.row hr).int_ hlt
      obtain ⟨ad', rfl, hb', hc'⟩ := (HW.row hr').int_ hlt
      go_wp2
      go_quiet (fail)
      go_wp2
      go_roundw
      case rel => exact ⟨k + 1, by omega, by go_num, HW.drewN _⟩
      case measure => simp [intOf]; omega
    · have hk' : k = zs.length := by omega
      subst hk'
      go_wp2
      go_ret
      exact HW.quiet _

end Go.Proofs.Ytnojhfidljipoaa
