/-
  Words and walks for lists of integers: copied, compared, marked, of the call's own.
-/
import Derived.Test.YtcjnlbjlbmadlaaKitD
import Derived.IntWalk
import Derived.Maps.AppendAt
namespace Go.Proofs.Ytcjnlbjlbmadlaa
open Go.RowKit Wo Pu

theorem Ret.val_ {a b : Value} {w w' : World} (h : b = a) (hb : Below w.heap.size w w') : Ret a w (.returned b) w' := by subst h; exact ⟨rfl, hb⟩
theorem bool_of (p : Prop) : ∃ b : Bool, (b = true ↔ p) := by
  by_cases h : p
  · exact ⟨true, by simp [h]⟩
  · exact ⟨false, by simp [h]⟩
theorem l6In_yes (n lo hi : Int) (w : World) (h1 : lo ≤ n) (h2 : n ≤ hi) : Calls Try.prog 40 #[.int .i64 n, .int .i64 lo, .int .i64 hi] w (Same (.bool true) w) := by
  go_enter Try.func40, Try.ntmps40
  go_wp2
  go_ret
  exact ⟨rfl, rfl⟩
theorem l6In_no (n lo hi : Int) (w : World) (h : n < lo ∨ hi < n) : Calls Try.prog 40 #[.int .i64 n, .int .i64 lo, .int .i64 hi] w (Same (.bool false) w) := by
  by_cases h1 : lo ≤ n
  · have h2 : hi < n := by omega
    clear h
    have e1 : decide (lo ≤ n) = true := by simp [h1]
    have e2 : decide (n ≤ hi) = false := by simp; omega
    go_enter Try.func40, Try.ntmps40
    go_wp2
    go_ret
    exact ⟨rfl, rfl⟩
  · have h2 : n < lo := by omega
    clear h
    have e1 : decide (lo ≤ n) = false := by simp; omega
    go_enter Try.func40, Try.ntmps40
    go_wp2
    go_ret
    exact ⟨rfl, rfl⟩
theorem info_int : (Try.prog.info? 3).map (fun i => (i.zero, i.size, i.bytes)) = some (some (.int .i64 0), 1, 8) := by kernel_rfl
theorem one_int (x : Int) : ∀ u ∈ [Value.int .i64 x], u.oneCell' = true := by
  intro u hu
  rw [List.mem_singleton.1 hu]
  rfl
/-- The slice v, of the call's own, holds the integers zs. -/
def OwnI (w : World) (B : Nat) (v : Value) (zs : List Int) : Prop := w.ownsRow B 3 1 v zs.length (ints zs)
theorem OwnI.nil_new {w : World} {B : Nat} (hB : B ≤ w.heap.size) : OwnI (w.alloc (.cells #[] 3)) B (.slice (some ⟨w.heap.size, 0, none⟩) 0 0) [] := nil_own hB _ _
theorem OwnI.below {w w' : World} {B C : Nat} {v : Value} {zs : List Int} (h : OwnI w B v zs) (hb : Below C w w') (hC : w.heap.size ≤ C) : OwnI w' B v zs := own_below h hb hC
theorem OwnI.but {w w' : World} {R B : Nat} {v : Value} {zs : List Int} (h : OwnI w B v zs) (hb : But R w w') (hR : R < B) : OwnI w' B v zs := by
  refine World.ownsRow.kept h hb ?_
  rcases hv : v.ownBlock with _ | k
  · exact .inl rfl
  · refine .inr (fun e => ?_)
    have := (World.ownsRow.lt h k hv).1
    injection e with e
    omega
theorem OwnI.base {w : World} {B B' : Nat} {v : Value} {zs : List Int} (h : OwnI w B v zs) (hB : B' ≤ B) : OwnI w B' v zs := by
  obtain ⟨h1, h2⟩ := h
  refine ⟨h1, ?_⟩
  rcases h2 with h | ⟨g, cap, cur, hv, hb, hr⟩
  · exact .inl h
  · exact .inr ⟨g, cap, cur, hv, by omega, hr⟩
theorem OwnI.app {w' : World} {B : Nat} {v' : Value} {zs : List Int} {x : Int} (h : w'.ownsRow B 3 1 v' (zs.length + 1) (ints zs ++ [.int .i64 x])) : OwnI w' B v' (zs ++ [x]) := by
  have e2 : ints (zs ++ [x]) = ints zs ++ [.int .i64 x] := by simp [ints]
  unfold OwnI
  rw [List.length_append, List.length_singleton, e2]
  exact h
theorem OwnI.form {w : World} {B : Nat} {v : Value} {zs : List Int} (h : OwnI w B v zs) : ∃ (A : Option Addr) (c : Nat), v = .slice A zs.length c ∧ Row w w.heap.size A (ints zs) ∧ zs.length ≤ c := by
  have h' := h
  obtain ⟨h1, h2⟩ := h
  rcases h2 with ⟨rfl, h0⟩ | ⟨g, cap, cur, rfl, _, _, hn, _⟩
  · have : zs = [] := List.eq_nil_of_length_eq_zero h0
    subst this
    exact ⟨none, 0, rfl, .inl rfl, Nat.le_refl _⟩
  · refine ⟨_, _, rfl, Row.of_own h' (fun hx => ?_), hn⟩
    rcases Nat.eq_zero_or_pos zs.length with h0 | h0
    · have : zs = [] := List.eq_nil_of_length_eq_zero h0
      subst this
      exact absurd rfl hx
    · exact h0
/-- Behind it: integers of the call's own. -/
def IntsOf (zs : List Int) (w : World) (e : Ending) (w' : World) : Prop := ∃ A c, e = .returned (.slice A zs.length c) ∧ OwnI w' w.heap.size (.slice A zs.length c) zs ∧ Below w.heap.size w w'
theorem IntsOf.mk_ {zs : List Int} {w w' : World} {v : Value} (ho : OwnI w' w.heap.size v zs) (hb : Below w.heap.size w w') : IntsOf zs w (.returned v) w' := by
  obtain ⟨A, c, rfl, _⟩ := ho.form
  exact ⟨A, c, rfl, ho, hb⟩
theorem OwnI.row {w : World} {B c : Nat} {A : Option Addr} {n : Nat} {zs : List Int} (h : OwnI w B (.slice A n c) zs) : Row w w.heap.size A (ints zs) := by
  obtain ⟨A', c', e, hr, _⟩ := h.form
  injection e with e1
  subst e1
  exact hr
/-- Behind it: a new slice with the cells xs. -/
def NewInts (zs : List Int) (w : World) (e : Ending) (w' : World) : Prop :=
  ∃ g, e = .returned (.slice (some ⟨g, 0, none⟩) zs.length zs.length) ∧ Mine w' w.heap.size 3 1 g zs.length (ints zs) ∧ Below w.heap.size w w'

set_option maxHeartbeats 1000000 in
theorem toIntS_any (B : Nat) (A : Option Addr) (c : Nat) (zs : List Int) (w : World) (hr : Row w B A (ints zs)) (hB : B ≤ w.heap.size) (hm : zs.length ≤ 1048576) :
    Calls Try.prog 20 #[.slice A zs.length c] w (NewInts zs w) := by
  obtain ⟨i0, hi, hz0, hz1, hz2⟩ := info_of info_int
  go_enter Try.func20, Try.ntmps20
  go_wp2_with (at_make; refine wpList_make_full _ rfl (.tmp 6) (.tmp 6) 23 rfl w.heap.size 3 i0 (.int .i64 0) 1 Try.underlying23 hi hz0 hz1 .i64 .i64 zs.length zs.length zs.length rfl rfl rfl rfl (by rw [hz2]; omega) (by unfold maxLen; omega) (Nat.le_refl _) ?_; intro w1 hown hg)
  have hb1 : Below w.heap.size w w1 := (Below.refl _ _).grown hg (Nat.le_refl _) (by simp)
  have hm1 : Hid (∃ xs : List Value, Mine w1 w.heap.size 3 1 w.heap.size zs.length xs ∧ xs.take 0 = (ints zs).take 0) := ⟨_, hown, by simp⟩
  clear hown hg
  go_loopw [4] (fun i wr => ∃ k : Nat, k ≤ zs.length ∧ i = .int .i64 k ∧ Below w.heap.size w wr ∧ Hid (∃ xs : List Value, Mine wr w.heap.size 3 1 w.heap.size zs.length xs ∧ xs.take k = (ints zs).take k)) (fun i _ => zs.length - (intOf i).toNat)
  case atStart => exact ⟨0, Nat.zero_le _, rfl, hb1, hm1⟩
  case round =>
    obtain ⟨k, hk, rfl, hb, HX⟩ := hrel
    clear hb1 hm1
    obtain ⟨xs, hx, ht⟩ := HX.out
    clear HX
    by_cases hlt : k < zs.length
    · obtain ⟨ad, rfl, hbl, hc⟩ := (hr.below hb hB).int_ hlt
      obtain ⟨v0, hv0⟩ := hx.cell hlt
      have hf0 := hx.frozen k
      have hx2 := hx.set_ k (.int .i64 zs[k])
      have ht2 := hid (take_set ht (by rw [hx.len]; omega) (by rw [ints_length]; exact hlt))
      clear ht hx
      go_wp2
      go_roundw
      case rel => exact ⟨k + 1, by omega, by go_num, hb.setCell (Nat.le_refl _) _, _, hx2, by have := ht2.out; rw [ints_get zs k hlt] at this; exact this⟩
      case measure => simp [intOf]; omega
    · have hk' : k = zs.length := by omega
      subst hk'
      have hxs : xs = ints zs := by
        have hl := hx.len
        rw [List.take_of_length_le (by omega), List.take_of_length_le (by rw [ints_length]; omega)] at ht
        exact ht
      clear ht
      subst hxs
      go_wp2
      go_ret
      exact ⟨_, rfl, hx, hb⟩

set_option maxHeartbeats 1000000 in
theorem eqIntS_same (B C : Nat) (A A' : Option Addr) (c c' : Nat) (zs : List Int) (w : World) (hr : Row w B A (ints zs)) (hr' : Row w C A' (ints zs)) (hm : zs.length ≤ maxLen) :
    Calls Try.prog 21 #[.slice A zs.length c, .slice A' zs.length c'] w (Quiet (.bool true) w) := by
  unfold maxLen at hm
  go_enter Try.func21, Try.ntmps21
  go_wp2
  go_loopw [5] (fun i wr => ∃ k : Nat, k ≤ zs.length ∧ i = .int .i64 k ∧ Dr w wr) (fun i _ => zs.length - (intOf i).toNat)
  case atStart => exact ⟨0, Nat.zero_le _, rfl, .refl _⟩
  case round =>
    obtain ⟨k, hk, rfl, HW⟩ := hrel
    by_cases hlt : k < zs.length
    · obtain ⟨ad, rfl, hb, hc⟩ := (HW.row hr).int_ hlt
      obtain ⟨ad', rfl, hb', hc'⟩ := (HW.row hr').int_ hlt
      go_wp2
      go_quiet (fail)
      go_wp2
      go_roundw
      case rel => exact ⟨k + 1, by omega, by go_num, HW.drewN _⟩
      case measure => simp [intOf]; omega
    · have hk' : k = zs.length := by omega
      subst hk'
      go_wp2
      go_ret
      exact HW.quiet _

set_option maxHeartbeats 1000000 in
theorem sameInts_same (B C : Nat) (A A' : Option Addr) (c c' : Nat) (zs : List Int) (w : World) (hr : Row w B A (ints zs)) (hr' : Row w C A' (ints zs)) (hm : zs.length ≤ maxLen) :
    Calls Try.prog 14 #[.slice A zs.length c, .slice A' zs.length c'] w (Quiet (.bool true) w) := by
  unfold maxLen at hm
  go_enter Try.func14, Try.ntmps14
  go_wp2
  go_loopw [5] (fun i wr => ∃ k : Nat, k ≤ zs.length ∧ i = .int .i64 k ∧ Dr w wr) (fun i _ => zs.length - (intOf i).toNat)
  case atStart => exact ⟨0, Nat.zero_le _, rfl, .refl _⟩
  case round =>
    obtain ⟨k, hk, rfl, HW⟩ := hrel
    by_cases hlt : k < zs.length
    · obtain ⟨ad, rfl, hb, hc⟩ := (HW.row hr).int_ hlt
      obtain ⟨ad', rfl, hb', hc'⟩ := (HW.row hr').int_ hlt
      go_wp2
      go_quiet (fail)
      go_wp2
      go_roundw
      case rel => exact ⟨k + 1, by omega, by go_num, HW.drewN _⟩
      case measure => simp [intOf]; omega
    · have hk' : k = zs.length := by omega
      subst hk'
      go_wp2
      go_ret
      exact HW.quiet _

theorem sameInts_ret (A A' : Option Addr) (c c' : Nat) (zs : List Int) (w : World) (B C : Nat) (hr : Row w B A (ints zs)) (hr' : Row w C A' (ints zs)) (hm : zs.length ≤ maxLen) :
    Calls Try.prog 14 #[.slice A zs.length c, .slice A' zs.length c'] w (Ret (.bool true) w) :=
  (sameInts_same _ _ A A' c c' zs w hr hr' hm).mono fun _ _ ⟨he, d, hd⟩ => ⟨he, by subst hd; exact Wo.Below.drewN (Below.refl _ _) d⟩
/-- The numbers k, k+1, .., n of them. -/
def marks (k : Int) (n : Nat) : List Int := (List.range n).map (fun i => k + (i : Nat))
theorem marks_length (k : Int) (n : Nat) : (marks k n).length = n := by simp [marks]
theorem marks_get (k : Int) (n i : Nat) (h : i < (marks k n).length) : (marks k n)[i] = k + (i : Nat) := by simp [marks]

/-- Only cells of block g have been written. -/
def Wrote (g : Nat) (w w' : World) : Prop := w.grownBy w' (some g) ∧ w'.heap.size = w.heap.size ∧ ∀ (B : Nat) (e : TypeId) (sz n c : Nat) (xs : List Value), w.ownsRow B e sz (.slice (some ⟨g, 0, none⟩) n c) n xs → ∃ xs', w'.ownsRow B e sz (.slice (some ⟨g, 0, none⟩) n c) n xs'
theorem Wrote.refl (g : Nat) (w : World) : Wrote g w w := ⟨World.grownBy.refl w _, rfl, fun _ _ _ _ _ xs h => ⟨xs, h⟩⟩
theorem Wrote.set_ {g : Nat} {w w' : World} (h : Wrote g w w') (j : Nat) (u : Value) : Wrote g w (w'.setCell ⟨g, j, none⟩ u) := by
  obtain ⟨h1, h2, h3⟩ := h
  refine ⟨⟨h1.os, h1.tape, h1.output, by simpa using h1.size, fun i hi hne => ?_⟩, by simpa using h2, fun B e sz n c xs ho => ?_⟩
  · rw [Below.heap_setCell _ _ _ _ (fun e => hne (by rw [e]))]
    exact h1.block i hi hne
  · obtain ⟨xs', ho'⟩ := h3 B e sz n c xs ho
    exact ⟨_, (World.ownsRow.stored ho' j u).1⟩
theorem Wrote.own {g : Nat} {w w' : World} (h : Wrote g w w') {B : Nat} {e : TypeId} {sz n c : Nat} {g' : Nat} {xs : List Value} (ho : w.ownsRow B e sz (.slice (some ⟨g', 0, none⟩) n c) n xs) : ∃ xs', w'.ownsRow B e sz (.slice (some ⟨g', 0, none⟩) n c) n xs' := by
  by_cases hg : g' = g
  · subst hg
    exact h.2.2 _ _ _ _ _ _ ho
  · exact ⟨xs, World.ownsRow.kept ho h.1 (.inr (fun e => hg (by injection e)))⟩
theorem take_marks {xs : List Value} {k : Int} {n i : Nat} (h : xs.take i = (ints (marks k n)).take i) (hi : i < n) (hx : xs.length = n) : (xs.set i (.int .i64 (k + i))).take (i + 1) = (ints (marks k n)).take (i + 1) := by
  have hl : (ints (marks k n)).length = n := by rw [ints_length, marks_length]
  have := take_set (xs := xs) (ys := ints (marks k n)) h (by omega) (by omega)
  rw [ints_get _ _ (by rw [marks_length]; exact hi), marks_get] at this
  exact this

set_option maxHeartbeats 1000000 in
theorem markIntS_own (B g n c : Nat) (k : Int) (xs : List Value) (w : World) (ho : w.ownsRow B 3 1 (.slice (some ⟨g, 0, none⟩) n c) n xs) (hn : n ≤ 1048576) (h0 : 0 ≤ k) (h1 : k ≤ 4503599627370496) :
    Calls Try.prog 22 #[.slice (some ⟨g, 0, none⟩) n c, .int .i64 k] w (fun e w' => e = .returned (.int .i64 (k + n)) ∧ Wrote g w w' ∧ w'.ownsRow B 3 1 (.slice (some ⟨g, 0, none⟩) n c) n (ints (marks k n))) := by
  go_enter Try.func22, Try.ntmps22
  go_wp2_with fail
  have hx0 : Hid (∃ ys : List Value, w.ownsRow B 3 1 (.slice (some ⟨g, 0, none⟩) n c) n ys ∧ ys.take 0 = (ints (marks k n)).take 0) := ⟨xs, ho, by simp⟩
  clear ho
  go_loopw [1, 5] (fun q i wr => ∃ m : Nat, m ≤ n ∧ i = .int .i64 m ∧ q = .int .i64 (k + m) ∧ Wrote g w wr ∧ Hid (∃ ys : List Value, wr.ownsRow B 3 1 (.slice (some ⟨g, 0, none⟩) n c) n ys ∧ ys.take m = (ints (marks k n)).take m)) (fun _ i _ => n - (intOf i).toNat)
  case atStart => exact ⟨0, Nat.zero_le _, rfl, by simp, Wrote.refl _ _, hx0⟩
  case round =>
    obtain ⟨m, hm, rfl, rfl, hw, HX⟩ := hrel
    clear hx0
    obtain ⟨ys, hy, ht⟩ := HX.out
    clear HX
    have hyl : ys.length = n := by have := hy.1; omega
    by_cases hlt : m < n
    · have hv0 : ∃ v0, wr.cell? ⟨g, m, none⟩ = some v0 := ⟨_, (World.ownsRow.cellAt hy m (by omega)).trans (List.getElem?_eq_getElem (by omega))⟩
      obtain ⟨v0, hv0⟩ := hv0
      have hf0 := World.ownsRow.frozenAt hy m
      have hy2 := (World.ownsRow.stored hy m (.int .i64 (k + m))).1
      have ht2 := hid (take_marks ht hlt hyl)
      have hw2 := hw.set_ m (.int .i64 (k + m))
      clear ht hy hw
      go_wp2
      go_roundw
      case rel => exact ⟨m + 1, by omega, by go_num, by congr 1; omega, hw2, _, hy2, ht2.out⟩
      case measure => simp [intOf]; omega
    · have hm' : m = n := by omega
      subst hm'
      have e : ys = ints (marks k m) := by
        rw [List.take_of_length_le (by omega), List.take_of_length_le (by rw [ints_length, marks_length]; omega)] at ht
        exact ht
      subst e
      clear ht
      go_wp2
      go_ret
      exact ⟨rfl, hw, hy⟩

set_option maxHeartbeats 1000000 in
theorem heldIntS_yes (B : Nat) (A : Option Addr) (c n : Nat) (k : Int) (w : World) (hr : Row w B A (ints (marks k n))) (hn : n ≤ 1048576) (h0 : 0 ≤ k) (h1 : k ≤ 4503599627370496) :
    Calls Try.prog 23 #[.slice A n c, .int .i64 k] w (Same (.int .i64 (k + n)) w) := by
  go_enter Try.func23, Try.ntmps23
  go_wp2_with fail
  go_loop [1, 5] (fun q i => ∃ m : Nat, m ≤ n ∧ i = .int .i64 m ∧ q = .int .i64 (k + m)) (fun _ i => n - (intOf i).toNat)
  case atStart => exact ⟨0, Nat.zero_le _, rfl, by simp⟩
  case round =>
    obtain ⟨m, hm, rfl, rfl⟩ := hrel
    by_cases hlt : m < n
    · obtain ⟨ad, rfl, hb, hc⟩ := hr.int_ (k := m) (by rw [marks_length]; exact hlt)
      rw [marks_get] at hc
      go_wp2
      go_round
      case rel => exact ⟨m + 1, by omega, by go_num, by congr 1; omega⟩
      case measure => simp [intOf]; omega
    · have hm' : m = n := by omega
      subst hm'
      go_wp2
      go_ret
      exact ⟨rfl, rfl⟩

end Go.Proofs.Ytcjnlbjlbmadlaa
