/-
  Lists of updates in memory: three cells each.
  Words and walks for lists of integers: copied, compared, marked, of the call's own.
  What an argument that reads as data gives the walks: codes, lists of ints, lists of updates.
  Walk: whether a list of numbers has a number, by the model.
  Blocks of one, two and three cells; rows and blocks of different types.
  Records and shards in memory: three cells each; shards are one cell, states two.
  Records of the call's own whose updates lie apart.
-/
import Derived.Test.YteeffchnbkkpfabDoorKitD
import Derived.Test.YteeffchnbkkpfabDoorG0C
import Derived.IntWalk
import Derived.Maps.AppendAt
import Derived.ProofKit
import Derived.Lib.SmallJoins
import Derived.Deep.Slices
import Derived.Deep.Strs
import Derived.OpenShut
import Derived.ChangeMaps5
namespace Go.Proofs.YteeffchnbkkpfabDoor
open Go.RowKit Wo Pu Rf

def upV (o : Up) : List Value := [.int .i64 o.r, .int .i64 o.o, .int .i64 o.n]
def upsV (os : List Up) : List Value := os.flatMap upV
theorem upsV_length (os : List Up) : (upsV os).length = os.length * 3 := by
  induction os with
  | nil => rfl
  | cons o os ih => show (upV o ++ upsV os).length = _; rw [List.length_append, ih, List.length_cons]; show 3 + _ = _; omega
theorem upsV_append (os ps : List Up) : upsV (os ++ ps) = upsV os ++ upsV ps := List.flatMap_append
theorem upsV_one (o : Up) : upsV [o] = upV o := by simp [upsV]
theorem upsV_get {os : List Up} {k d : Nat} (hk : k < os.length) (hd : d < 3) : (upsV os)[k * 3 + d]? = (upV os[k])[d]? := by
  induction os generalizing k with
  | nil => simp at hk
  | cons o os ih =>
    show (upV o ++ upsV os)[k * 3 + d]? = _
    cases k with
    | zero =>
      rw [Nat.zero_mul, Nat.zero_add, List.getElem?_append_left (by show d < 3; exact hd)]
      rfl
    | succ k =>
      rw [List.getElem?_append_right (by show 3 ≤ _; omega), show (k + 1) * 3 + d - (upV o).length = k * 3 + d from by show (k + 1) * 3 + d - 3 = _; omega, ih (by simpa using hk)]
      rfl
theorem upsV_take (os : List Up) (k : Nat) : upsV (os.take k) = (upsV os).take (k * 3) := by
  induction os generalizing k with
  | nil => simp [upsV]
  | cons o os ih =>
    cases k with
    | zero => simp [upsV]
    | succ k =>
      show upV o ++ upsV (os.take k) = (upV o ++ upsV os).take _
      rw [ih, List.take_append, show (k + 1) * 3 - (upV o).length = k * 3 from by show (k + 1) * 3 - 3 = _; omega, List.take_of_length_le (l := upV o) (by show 3 ≤ _; omega)]
theorem upsV_drop (os : List Up) (k : Nat) : upsV (os.drop k) = (upsV os).drop (k * 3) := by
  induction os generalizing k with
  | nil => simp [upsV]
  | cons o os ih =>
    cases k with
    | zero => simp [upsV]
    | succ k =>
      show upsV (os.drop k) = (upV o ++ upsV os).drop _
      rw [ih, List.drop_append, show (k + 1) * 3 - (upV o).length = k * 3 from by show (k + 1) * 3 - 3 = _; omega, List.drop_of_length_le (l := upV o) (by show 3 ≤ _; omega)]
      rfl
theorem upV_cells (o : Up) : ∀ u ∈ upV o, u.oneCell' = true := by
  intro u hu
  simp only [upV, List.mem_cons, List.not_mem_nil, or_false] at hu
  rcases hu with rfl | rfl | rfl <;> rfl
theorem upsV_cells (os : List Up) : ∀ u ∈ upsV os, u.oneCell' = true := by
  intro u hu
  obtain ⟨o, _, hu⟩ := List.mem_flatMap.1 hu
  exact upV_cells o u hu

theorem Wo.Row.up_ {w : World} {B : Nat} {A : Option Addr} {os : List Up} (h : Row w B A (upsV os)) {k : Nat} (hk : k < os.length) :
    ∃ (o : Up) (ad : Addr), os[k] = o ∧ A = some ad ∧ (ad.add (k * 3)).block < B ∧ w.cell? (ad.add (k * 3)) = some (.int .i64 o.r) ∧ w.cell? ⟨(ad.add (k * 3)).block, (ad.add (k * 3)).off + 1, none⟩ = some (.int .i64 o.o) ∧
      w.cell? ⟨(ad.add (k * 3)).block, (ad.add (k * 3)).off + 2, none⟩ = some (.int .i64 o.n) := by
  have hl := upsV_length os
  rcases h with h | ⟨ad, e, hb, hc⟩
  · rw [h] at hl; simp at hl; omega
  · have h0 := hc (k * 3 + 0) (.int .i64 os[k].r) (by rw [upsV_get hk (by omega)]; rfl)
    have h1 := hc (k * 3 + 1) (.int .i64 os[k].o) (by rw [upsV_get hk (by omega)]; rfl)
    have h2 := hc (k * 3 + 2) (.int .i64 os[k].n) (by rw [upsV_get hk (by omega)]; rfl)
    rw [← add_add] at h0 h1 h2
    exact ⟨_, ad, rfl, e, by rw [add_block]; exact hb, by rw [add_zero] at h0; exact h0, h1, h2⟩
/-- The cells of a whole update. -/
theorem Wo.Row.drew {w : World} {B : Nat} {A : Option Addr} {vs : List Value} (h : Row w B A vs) : Row w.drew B A vs := h

/-- The numbers are what Go's are. -/
def Int64 (z : Int) : Prop := -9223372036854775808 ≤ z ∧ z ≤ 9223372036854775807
def FitU (os : List Up) : Prop := ∀ o ∈ os, Int64 o.r ∧ Int64 o.o ∧ Int64 o.n
theorem FitU.get {os : List Up} (h : FitU os) {k : Nat} (hk : k < os.length) {o : Up} (e : os[k] = o) : Int64 o.r ∧ Int64 o.o ∧ Int64 o.n := by
  subst e; exact h _ (List.getElem_mem hk)
/-- A list of updates of the call's own. -/
def OwnUps (w : World) (B : Nat) (v : Value) (os : List Up) : Prop := w.ownsRow B 100 3 v os.length (upsV os)
theorem OwnUps.below {w w' : World} {B : Nat} {v : Value} {os : List Up} (h : OwnUps w B v os) (hb : Below w.heap.size w w') : OwnUps w' B v os := own_below h hb (Nat.le_refl _)
theorem OwnUps.but {w w' : World} {R B : Nat} {v : Value} {os : List Up} (h : OwnUps w B v os) (hb : But R w w') (hR : R < B) : OwnUps w' B v os := by
  refine World.ownsRow.kept h hb ?_
  rcases hv : v.ownBlock with _ | k
  · exact .inl rfl
  · refine .inr (fun e => ?_)
    have := (World.ownsRow.lt h k hv).1
    injection e with e
    omega
theorem OwnUps.base {w : World} {B B' : Nat} {v : Value} {os : List Up} (h : OwnUps w B v os) (hB : B' ≤ B) : OwnUps w B' v os := by
  obtain ⟨h1, h2⟩ := h
  refine ⟨h1, ?_⟩
  rcases h2 with h | ⟨g, cap, cur, hv, hb, hr⟩
  · exact .inl h
  · exact .inr ⟨g, cap, cur, hv, by omega, hr⟩
theorem OwnUps.lt {w : World} {B : Nat} {v : Value} {os : List Up} (h : OwnUps w B v os) : ∀ k, v.ownBlock = some k → B ≤ k := fun k hk => (World.ownsRow.lt h k hk).1
theorem OwnUps.nil_new {w : World} {B : Nat} (hB : B ≤ w.heap.size) : OwnUps (w.alloc (.cells #[] 100)) B (.slice (some ⟨w.heap.size, 0, none⟩) 0 0) [] := nil_own hB _ _
theorem OwnUps.form {w : World} {B : Nat} {v : Value} {os : List Up} (h : OwnUps w B v os) : ∃ (A : Option Addr) (c : Nat), v = .slice A os.length c ∧ Row w w.heap.size A (upsV os) ∧ os.length ≤ c := by
  have h1 := h
  obtain ⟨hl, h2⟩ := h
  rcases h2 with ⟨rfl, h0⟩ | ⟨g, cap, cur, rfl, hB, hh, hn, hm, hcs, htk⟩
  · have h0' : os.length = 0 := by omega
    exact ⟨none, 0, by rw [h0'], .inl (List.eq_nil_of_length_eq_zero (by rw [upsV_length]; omega)), by omega⟩
  · exact ⟨some ⟨g, 0, none⟩, cap, rfl, .inr ⟨_, rfl, (World.ownsRow.lt h1 g rfl).2, World.ownsRow.cells h1 (g := g) rfl⟩, hn⟩
theorem info_up : (Tryd.prog.info? 100).map (fun i => (i.zero, i.size, i.bytes)) = some (some (.agg #[.int .i64 0, .int .i64 0, .int .i64 0]), 3, 24) := by kernel_rfl
/-- Behind it: a list of updates of the call's own. -/
def NewUps (os : List Up) (w : World) (e : Ending) (w' : World) : Prop := ∃ v, e = .returned v ∧ OwnUps w' w.heap.size v os ∧ Below w.heap.size w w'
theorem NewUps.mk_ {os : List Up} {v : Value} {w w' : World} (h : OwnUps w' w.heap.size v os) (hb : Below w.heap.size w w') : NewUps os w (.returned v) w' := ⟨v, rfl, h, hb⟩
end Go.Proofs.YteeffchnbkkpfabDoor
namespace Go.Proofs.YteeffchnbkkpfabDoor
open Go.RowKit Wo Pu

theorem Ret.val_ {a b : Value} {w w' : World} (h : b = a) (hb : Below w.heap.size w w') : Ret a w (.returned b) w' := by subst h; exact ⟨rfl, hb⟩
theorem bool_of (p : Prop) : ∃ b : Bool, (b = true ↔ p) := by
  by_cases h : p
  · exact ⟨true, by simp [h]⟩
  · exact ⟨false, by simp [h]⟩
theorem l6In_yes (n lo hi : Int) (w : World) (h1 : lo ≤ n) (h2 : n ≤ hi) : Calls Tryd.prog 88 #[.int .i64 n, .int .i64 lo, .int .i64 hi] w (Same (.bool true) w) := by
  go_enter Tryd.func88, Tryd.ntmps88
  go_wp2
  go_ret
  exact ⟨rfl, rfl⟩
theorem l6In_no (n lo hi : Int) (w : World) (h : n < lo ∨ hi < n) : Calls Tryd.prog 88 #[.int .i64 n, .int .i64 lo, .int .i64 hi] w (Same (.bool false) w) := by
  by_cases h1 : lo ≤ n
  · have h2 : hi < n := by omega
    clear h
    have e1 : decide (lo ≤ n) = true := by simp [h1]
    have e2 : decide (n ≤ hi) = false := by simp; omega
    go_enter Tryd.func88, Tryd.ntmps88
    go_wp2
    go_ret
    exact ⟨rfl, rfl⟩
  · have h2 : n < lo := by omega
    clear h
    have e1 : decide (lo ≤ n) = false := by simp; omega
    go_enter Tryd.func88, Tryd.ntmps88
    go_wp2
    go_ret
    exact ⟨rfl, rfl⟩
theorem info_int : (Tryd.prog.info? 3).map (fun i => (i.zero, i.size, i.bytes)) = some (some (.int .i64 0), 1, 8) := by kernel_rfl
theorem one_int (x : Int) : ∀ u ∈ [Value.int .i64 x], u.oneCell' = true := by
  intro u hu
  rw [List.mem_singleton.1 hu]
  rfl
/-- The slice v, of the call's own, holds the integers zs. -/
def OwnI (w : World) (B : Nat) (v : Value) (zs : List Int) : Prop := w.ownsRow B 3 1 v zs.length (ints zs)
theorem OwnI.nil_new {w : World} {B : Nat} (hB : B ≤ w.heap.size) : OwnI (w.alloc (.cells #[] 3)) B (.slice (some ⟨w.heap.size, 0, none⟩) 0 0) [] := nil_own hB _ _
theorem OwnI.below {w w' : World} {B C : Nat} {v : Value} {zs : List Int} (h : OwnI w B v zs) (hb : Below C w w') (hC : w.heap.size ≤ C) : OwnI w' B v zs := own_below h hb hC
theorem OwnI.but {w w' : World} {R B : Nat} {v : Value} {zs : List Int} (h : OwnI w B v zs) (hb : But R w w') (hR : R < B) : OwnI w' B v zs := by
  refine World.ownsRow.kept h hb ?_
  rcases hv : v.ownBlock with _ | k
  · exact .inl rfl
  · refine .inr (fun e => ?_)
    have := (World.ownsRow.lt h k hv).1
    injection e with e
    omega
theorem OwnI.base {w : World} {B B' : Nat} {v : Value} {zs : List Int} (h : OwnI w B v zs) (hB : B' ≤ B) : OwnI w B' v zs := by
  obtain ⟨h1, h2⟩ := h
  refine ⟨h1, ?_⟩
  rcases h2 with h | ⟨g, cap, cur, hv, hb, hr⟩
  · exact .inl h
  · exact .inr ⟨g, cap, cur, hv, by omega, hr⟩
theorem OwnI.app {w' : World} {B : Nat} {v' : Value} {zs : List Int} {x : Int} (h : w'.ownsRow B 3 1 v' (zs.length + 1) (ints zs ++ [.int .i64 x])) : OwnI w' B v' (zs ++ [x]) := by
  have e2 : ints (zs ++ [x]) = ints zs ++ [.int .i64 x] := by simp [ints]
  unfold OwnI
  rw [List.length_append, List.length_singleton, e2]
  exact h
theorem OwnI.form {w : World} {B : Nat} {v : Value} {zs : List Int} (h : OwnI w B v zs) : ∃ (A : Option Addr) (c : Nat), v = .slice A zs.length c ∧ Row w w.heap.size A (ints zs) ∧ zs.length ≤ c := by
  have h' := h
  obtain ⟨h1, h2⟩ := h
  rcases h2 with ⟨rfl, h0⟩ | ⟨g, cap, cur, rfl, _, _, hn, _⟩
  · have : zs = [] := List.eq_nil_of_length_eq_zero h0
    subst this
    exact ⟨none, 0, rfl, .inl rfl, Nat.le_refl _⟩
  · refine ⟨_, _, rfl, Row.of_own h' (fun hx => ?_), hn⟩
    rcases Nat.eq_zero_or_pos zs.length with h0 | h0
    · have : zs = [] := List.eq_nil_of_length_eq_zero h0
      subst this
      exact absurd rfl hx
    · exact h0
/-- Behind it: integers of the call's own. -/
def IntsOf (zs : List Int) (w : World) (e : Ending) (w' : World) : Prop := ∃ A c, e = .returned (.slice A zs.length c) ∧ OwnI w' w.heap.size (.slice A zs.length c) zs ∧ Below w.heap.size w w'
theorem IntsOf.mk_ {zs : List Int} {w w' : World} {v : Value} (ho : OwnI w' w.heap.size v zs) (hb : Below w.heap.size w w') : IntsOf zs w (.returned v) w' := by
  obtain ⟨A, c, rfl, _⟩ := ho.form
  exact ⟨A, c, rfl, ho, hb⟩
theorem OwnI.row {w : World} {B c : Nat} {A : Option Addr} {n : Nat} {zs : List Int} (h : OwnI w B (.slice A n c) zs) : Row w w.heap.size A (ints zs) := by
  obtain ⟨A', c', e, hr, _⟩ := h.form
  injection e with e1
  subst e1
  exact hr
set_option maxHeartbeats 1000000 in
theorem sameInts_same (B C : Nat) (A A' : Option Addr) (c c' : Nat) (zs : List Int) (w : World) (hr : Row w B A (ints zs)) (hr' : Row w C A' (ints zs)) (hm : zs.length ≤ maxLen) :
    Calls Tryd.prog 17 #[.slice A zs.length c, .slice A' zs.length c'] w (Quiet (.bool true) w) := by
  unfold maxLen at hm
  go_enter Tryd.func17, Tryd.ntmps17
  go_wp2
  go_loopw [5] (fun i wr => ∃ k : Nat, k ≤ zs.length ∧ i = .int .i64 k ∧ Dr w wr) (fun i _ => zs.length - (intOf i).toNat)
  case atStart => exact ⟨0, Nat.zero_le _, rfl, .refl _⟩
  case round =>
    obtain ⟨k, hk, rfl, HW⟩ := hrel
    by_cases hlt : k < zs.length
    · obtain ⟨ad, rfl, hb, hc⟩ := (HW.row hr).int_ hlt
      obtain ⟨ad', rfl, hb', hc'⟩ := (HW.row hr').int_ hlt
      go_wp2
      go_quiet (fail)
      go_wp2
      go_roundw
      case rel => exact ⟨k + 1, by omega, by go_num, HW.drewN _⟩
      case measure => simp [intOf]; omega
    · have hk' : k = zs.length := by omega
      subst hk'
      go_wp2
      go_ret
      exact HW.quiet _

theorem sameInts_ret (A A' : Option Addr) (c c' : Nat) (zs : List Int) (w : World) (B C : Nat) (hr : Row w B A (ints zs)) (hr' : Row w C A' (ints zs)) (hm : zs.length ≤ maxLen) :
    Calls Tryd.prog 17 #[.slice A zs.length c, .slice A' zs.length c'] w (Ret (.bool true) w) :=
  (sameInts_same _ _ A A' c c' zs w hr hr' hm).mono fun _ _ ⟨he, d, hd⟩ => ⟨he, by subst hd; exact Wo.Below.drewN (Below.refl _ _) d⟩
/-- The numbers k, k+1, .., n of them. -/
def marks (k : Int) (n : Nat) : List Int := (List.range n).map (fun i => k + (i : Nat))
theorem marks_length (k : Int) (n : Nat) : (marks k n).length = n := by simp [marks]
theorem marks_get (k : Int) (n i : Nat) (h : i < (marks k n).length) : (marks k n)[i] = k + (i : Nat) := by simp [marks]

/-- Only cells of block g have been written. -/
def Wrote (g : Nat) (w w' : World) : Prop := w.grownBy w' (some g) ∧ w'.heap.size = w.heap.size ∧ ∀ (B : Nat) (e : TypeId) (sz n c : Nat) (xs : List Value), w.ownsRow B e sz (.slice (some ⟨g, 0, none⟩) n c) n xs → ∃ xs', w'.ownsRow B e sz (.slice (some ⟨g, 0, none⟩) n c) n xs'
theorem Wrote.refl (g : Nat) (w : World) : Wrote g w w := ⟨World.grownBy.refl w _, rfl, fun _ _ _ _ _ xs h => ⟨xs, h⟩⟩
theorem Wrote.set_ {g : Nat} {w w' : World} (h : Wrote g w w') (j : Nat) (u : Value) : Wrote g w (w'.setCell ⟨g, j, none⟩ u) := by
  obtain ⟨h1, h2, h3⟩ := h
  refine ⟨⟨h1.os, h1.tape, h1.output, by simpa using h1.size, fun i hi hne => ?_⟩, by simpa using h2, fun B e sz n c xs ho => ?_⟩
  · rw [Below.heap_setCell _ _ _ _ (fun e => hne (by rw [e]))]
    exact h1.block i hi hne
  · obtain ⟨xs', ho'⟩ := h3 B e sz n c xs ho
    exact ⟨_, (World.ownsRow.stored ho' j u).1⟩
theorem Wrote.own {g : Nat} {w w' : World} (h : Wrote g w w') {B : Nat} {e : TypeId} {sz n c : Nat} {g' : Nat} {xs : List Value} (ho : w.ownsRow B e sz (.slice (some ⟨g', 0, none⟩) n c) n xs) : ∃ xs', w'.ownsRow B e sz (.slice (some ⟨g', 0, none⟩) n c) n xs' := by
  by_cases hg : g' = g
  · subst hg
    exact h.2.2 _ _ _ _ _ _ ho
  · exact ⟨xs, World.ownsRow.kept ho h.1 (.inr (fun e => hg (by injection e)))⟩
theorem take_marks {xs : List Value} {k : Int} {n i : Nat} (h : xs.take i = (ints (marks k n)).take i) (hi : i < n) (hx : xs.length = n) : (xs.set i (.int .i64 (k + i))).take (i + 1) = (ints (marks k n)).take (i + 1) := by
  have hl : (ints (marks k n)).length = n := by rw [ints_length, marks_length]
  have := take_set (xs := xs) (ys := ints (marks k n)) h (by omega) (by omega)
  rw [ints_get _ _ (by rw [marks_length]; exact hi), marks_get] at this
  exact this

set_option maxHeartbeats 1000000 in
theorem markIntS_own (B g n c : Nat) (k : Int) (xs : List Value) (w : World) (ho : w.ownsRow B 3 1 (.slice (some ⟨g, 0, none⟩) n c) n xs) (hn : n ≤ 1048576) (h0 : 0 ≤ k) (h1 : k ≤ 4503599627370496) :
    Calls Tryd.prog 48 #[.slice (some ⟨g, 0, none⟩) n c, .int .i64 k] w (fun e w' => e = .returned (.int .i64 (k + n)) ∧ Wrote g w w' ∧ w'.ownsRow B 3 1 (.slice (some ⟨g, 0, none⟩) n c) n (ints (marks k n))) := by
  go_enter Tryd.func48, Tryd.ntmps48
  go_wp2_with fail
  have hx0 : Hid (∃ ys : List Value, w.ownsRow B 3 1 (.slice (some ⟨g, 0, none⟩) n c) n ys ∧ ys.take 0 = (ints (marks k n)).take 0) := ⟨xs, ho, by simp⟩
  clear ho
  go_loopw [1, 5] (fun q i wr => ∃ m : Nat, m ≤ n ∧ i = .int .i64 m ∧ q = .int .i64 (k + m) ∧ Wrote g w wr ∧ Hid (∃ ys : List Value, wr.ownsRow B 3 1 (.slice (some ⟨g, 0, none⟩) n c) n ys ∧ ys.take m = (ints (marks k n)).take m)) (fun _ i _ => n - (intOf i).toNat)
  case atStart => exact ⟨0, Nat.zero_le _, rfl, by simp, Wrote.refl _ _, hx0⟩
  case round =>
    obtain ⟨m, hm, rfl, rfl, hw, HX⟩ := hrel
    clear hx0
    obtain ⟨ys, hy, ht⟩ := HX.out
    clear HX
    have hyl : ys.length = n := by have := hy.1; omega
    by_cases hlt : m < n
    · have hv0 : ∃ v0, wr.cell? ⟨g, m, none⟩ = some v0 := ⟨_, (World.ownsRow.cellAt hy m (by omega)).trans (List.getElem?_eq_getElem (by omega))⟩
      obtain ⟨v0, hv0⟩ := hv0
      have hf0 := World.ownsRow.frozenAt hy m
      have hy2 := (World.ownsRow.stored hy m (.int .i64 (k + m))).1
      have ht2 := hid (take_marks ht hlt hyl)
      have hw2 := hw.set_ m (.int .i64 (k + m))
      clear ht hy hw
      go_wp2
      go_roundw
      case rel => exact ⟨m + 1, by omega, by go_num, by congr 1; omega, hw2, _, hy2, ht2.out⟩
      case measure => simp [intOf]; omega
    · have hm' : m = n := by omega
      subst hm'
      have e : ys = ints (marks k m) := by
        rw [List.take_of_length_le (by omega), List.take_of_length_le (by rw [ints_length, marks_length]; omega)] at ht
        exact ht
      subst e
      clear ht
      go_wp2
      go_ret
      exact ⟨rfl, hw, hy⟩

set_option maxHeartbeats 1000000 in
theorem heldIntS_yes (B : Nat) (A : Option Addr) (c n : Nat) (k : Int) (w : World) (hr : Row w B A (ints (marks k n))) (hn : n ≤ 1048576) (h0 : 0 ≤ k) (h1 : k ≤ 4503599627370496) :
    Calls Tryd.prog 49 #[.slice A n c, .int .i64 k] w (Same (.int .i64 (k + n)) w) := by
  go_enter Tryd.func49, Tryd.ntmps49
  go_wp2_with fail
  go_loop [1, 5] (fun q i => ∃ m : Nat, m ≤ n ∧ i = .int .i64 m ∧ q = .int .i64 (k + m)) (fun _ i => n - (intOf i).toNat)
  case atStart => exact ⟨0, Nat.zero_le _, rfl, by simp⟩
  case round =>
    obtain ⟨m, hm, rfl, rfl⟩ := hrel
    by_cases hlt : m < n
    · obtain ⟨ad, rfl, hb, hc⟩ := hr.int_ (k := m) (by rw [marks_length]; exact hlt)
      rw [marks_get] at hc
      go_wp2
      go_round
      case rel => exact ⟨m + 1, by omega, by go_num, by congr 1; omega⟩
      case measure => simp [intOf]; omega
    · have hm' : m = n := by omega
      subst hm'
      go_wp2
      go_ret
      exact ⟨rfl, rfl⟩

end Go.Proofs.YteeffchnbkkpfabDoor
namespace Go.Proofs.YteeffchnbkkpfabDoor
set_option maxRecDepth 100000
open Go.RowKit Go.ChangeShapes Go.WideShapes Go.Joins Wo Pu Rf

section
variable {H : Type} {enc : TypeId × Value → H} {w : World} {held : Bool}

theorem row_of_cells {w : World} {a : Addr} {n : Nat} {f : Nat → Value} (h : ∀ i, i < n → w.cell? (a.add i) = some (f i)) : Row w w.heap.size (some a) ((List.range n).map f) := by
  rcases Nat.eq_zero_or_pos n with h0 | h0
  · subst h0
    exact .inl rfl
  · refine .inr ⟨a, rfl, ?_, fun j v hv => ?_⟩
    · have := World.block_lt_of_cell? _ _ (h 0 h0)
      rwa [add_block] at this
    · rw [List.getElem?_map] at hv
      rcases Nat.lt_or_ge j n with hj | hj
      · rw [List.getElem?_range hj] at hv
        rw [h j hj]
        exact hv
      · rw [List.getElem?_eq_none (by simpa using hj)] at hv
        cases hv

/-- A slice of ints. -/
theorem read_ints {fuel : Nat} {cs : List Value} {x : DataW H × List MemPlace} (h : DataW.trod enc Tryd.prog w 0 (fun _ => true) held fuel 27 cs = some x) :
    ∃ (A : Option Addr) (c : Nat) (zs : List Int), cs = [.slice A zs.length c] ∧ Row w w.heap.size A (ints zs) ∧ zs.length ≤ maxLen ∧ ∀ z ∈ zs, (Lit.int .i64 z).wf = true := by
  rcases open_ints Tryd.underlying27 Tryd.underlying3 (by kernel_rfl) h with ⟨hcs, _⟩ | ⟨a, len, cap, zs, hcs, _, hl, hm, hz, _, hcell, hwf⟩
  · exact ⟨none, 0, [], hcs, .inl rfl, Nat.zero_le _, fun z hz => by cases hz⟩
  · simp only [if_true] at hz
    have hlen : (zs.take len).length = len := by rw [List.length_take]; omega
    refine ⟨some a, cap, zs.take len, by rw [hlen]; exact hcs, ?_, by omega, fun z hz => hwf z (List.mem_of_mem_take hz)⟩
    have hr := row_of_cells (n := len) (f := fun i => .int .i64 (zs.getD i 0)) (fun i hi => hcell i (by omega))
    have e : ints (zs.take len) = (List.range len).map (fun i => Value.int .i64 (zs.getD i 0)) := by
      apply List.ext_getElem
      · rw [ints_length, hlen]; simp
      · intro i h1 h2
        simp at h2
        rw [ints_get _ _ (by rw [hlen]; exact h2)]
        simp [List.getD, List.getElem?_eq_getElem (show i < zs.length by omega)]
    rw [e]
    exact hr

theorem read_bytes {fuel : Nat} {cs : List Value} {x : DataW H × List MemPlace} (h : DataW.trod enc Tryd.prog w 0 (fun _ => true) held fuel 22 cs = some x) :
    ∃ (A : Option Addr) (c : Nat) (bs : List Int), cs = [.slice A bs.length c] ∧ Row w w.heap.size A (bs.map (Value.int .u8)) ∧ bs.length ≤ c ∧ c ≤ maxLen ∧ ∀ n ∈ bs, 0 ≤ n ∧ n < 256 := by
  rcases open_ints Tryd.underlying22 Tryd.underlying5 (by kernel_rfl) h with ⟨hcs, _⟩ | ⟨a, len, cap, zs, hcs, _, hl, hm, hz, _, hcell, hwf⟩
  · exact ⟨none, 0, [], hcs, .inl rfl, Nat.zero_le _, Nat.zero_le _, fun z hz => by cases hz⟩
  · simp only [if_true] at hz
    have hlen : (zs.take len).length = len := by rw [List.length_take]; omega
    refine ⟨some a, cap, zs.take len, by rw [hlen]; exact hcs, ?_, by omega, hm, fun z hz => ?_⟩
    · have hr := row_of_cells (n := len) (f := fun i => .int .u8 (zs.getD i 0)) (fun i hi => hcell i (by omega))
      have e : (zs.take len).map (Value.int .u8) = (List.range len).map (fun i => Value.int .u8 (zs.getD i 0)) := by
        apply List.ext_getElem
        · rw [List.length_map, hlen]; simp
        · intro i h1 h2
          simp at h2
          simp [List.getD, List.getElem?_eq_getElem (show i < zs.length by omega)]
      rw [e]
      exact hr
    · have hw := hwf z (List.mem_of_mem_take hz)
      have hb := bounds_u8 hw
      omega

/-- A slice of bytes. -/
theorem open_bytes {base : Nat} {v : Value} {d : DataW H} {p : List MemPlace} (_hv : Value.okWide Tryd.prog w .any base 22 v) (h : DataW.Trod enc Tryd.prog w 0 (fun _ => true) held 22 v d p) :
    ∃ (A : Option Addr) (c : Nat) (bs : List Int), v = .slice A bs.length c ∧ Row w w.heap.size A (bs.map (Value.int .u8)) ∧ bs.length ≤ c ∧ c ≤ maxLen ∧ ∀ n ∈ bs, 0 ≤ n ∧ n < 256 := by
  obtain ⟨A0, n0, c0, rfl⟩ := okWide_slice Tryd.underlying22 _hv
  obtain ⟨fuel, hf⟩ := h
  obtain ⟨A, c, bs, e, h1⟩ := read_bytes hf
  refine ⟨A, c, bs, ?_, h1⟩
  simpa [Value.cells] using e

/-- A list of ints. -/
theorem open_zs {base : Nat} {v : Value} {d : DataW H} {p : List MemPlace} (_hv : Value.okWide Tryd.prog w .any base 27 v) (h : DataW.Trod enc Tryd.prog w 0 (fun _ => true) held 27 v d p) :
    ∃ (A : Option Addr) (c : Nat) (zs : List Int), v = .slice A zs.length c ∧ Row w w.heap.size A (ints zs) ∧ zs.length ≤ maxLen := by
  obtain ⟨A0, n0, c0, rfl⟩ := okWide_slice Tryd.underlying27 _hv
  obtain ⟨fuel, hf⟩ := h
  obtain ⟨A, c, zs, e, hr, hm, _⟩ := read_ints hf
  refine ⟨A, c, zs, ?_, hr, hm⟩
  simpa [Value.cells] using e

/-- A list of updates. -/
theorem open_ups {base : Nat} {v : Value} {d : DataW H} {p : List MemPlace} (_hv : Value.okWide Tryd.prog w .any base 60 v) (h : DataW.Trod enc Tryd.prog w 0 (fun _ => true) held 60 v d p) :
    ∃ (A : Option Addr) (c : Nat) (us : List Up), v = .slice A us.length c ∧ Row w w.heap.size A (upsV us) ∧ us.length ≤ maxLen := by
  obtain ⟨A0, n0, c0, rfl⟩ := okWide_slice Tryd.underlying60 _hv
  obtain ⟨fuel, hf⟩ := h
  rcases Deep.open_slice Tryd.underlying60 hf with ⟨hcs, _⟩ | ⟨a, len, cap, m, n, D, Pl, hcs, _, hl, hm, hmm, _, hel⟩
  · simp [Value.cells] at hcs
    obtain ⟨rfl, rfl, rfl⟩ := hcs
    exact ⟨none, 0, [], rfl, .inl rfl, Nat.zero_le _⟩
  · simp only [Value.cells, List.cons.injEq, and_true] at hcs
    simp only [if_true] at hmm
    have one : ∀ i, i < len → ∃ o : Up, ∀ d u, (upV o)[d]? = some u → w.cell? (a.add (i * 3 + d)) = some u := fun i hi => by
      obtain ⟨cs', hc, ht⟩ := hel i (by omega)
      have hC : Tryd.prog.cellsOf 102 = 3 := by kernel_rfl
      rw [hC] at hc
      obtain ⟨_, hlen, hat⟩ := World.cells?_some hc
      match cs', hlen with
      | [c0, c1, c2], _ =>
        obtain ⟨y0, y1, y2, n', _, _, h0, h1, h2⟩ := Deep.trod_struct3 Tryd.underlying102 ht
        have k0 : Tryd.prog.cellsOf 3 = 1 := by kernel_rfl
        obtain ⟨x0, e0, _, _⟩ := DataW.trod_int Tryd.underlying3 (show DataW.trod enc Tryd.prog w 0 (fun _ => true) held n' 3 [c0] = some y0 by simpa [k0] using h0)
        obtain ⟨x1, e1, _, _⟩ := DataW.trod_int Tryd.underlying3 (show DataW.trod enc Tryd.prog w 0 (fun _ => true) held n' 3 [c1] = some y1 by simpa [k0] using h1)
        obtain ⟨x2, e2, _, _⟩ := DataW.trod_int Tryd.underlying3 (show DataW.trod enc Tryd.prog w 0 (fun _ => true) held n' 3 [c2] = some y2 by simpa [k0] using h2)
        have q0 := hat 0 (by omega)
        have q1 := hat 1 (by omega)
        have q2 := hat 2 (by omega)
        have f0 : c0 = .int .i64 x0 := by simpa using e0
        have f1 : c1 = .int .i64 x1 := by simpa using e1
        have f2 : c2 = .int .i64 x2 := by simpa using e2
        subst f0 f1 f2
        refine ⟨⟨x0, x1, x2⟩, fun d u hu => ?_⟩
        rw [← add_add]
        match d with
        | 0 => simp [upV] at hu; subst hu; exact q0
        | 1 => simp [upV] at hu; subst hu; exact q1
        | 2 => simp [upV] at hu; subst hu; exact q2
        | d + 3 => simp [upV] at hu
    have all : ∃ us : List Up, us.length = len ∧ ∀ i (hi : i < us.length), ∀ d u, (upV us[i])[d]? = some u → w.cell? (a.add (i * 3 + d)) = some u := by
      refine ⟨(List.range len).map fun i => if h : i < len then (one i h).choose else ⟨0, 0, 0⟩, by simp, fun i hi => ?_⟩
      have hi' : i < len := by simpa using hi
      simp only [List.getElem_map, List.getElem_range, hi', dite_true]
      exact (one i hi').choose_spec
    obtain ⟨us, ho, hos⟩ := all
    refine ⟨some a, cap, us, by rw [ho]; exact hcs, ?_, by omega⟩
    rcases Nat.eq_zero_or_pos us.length with h0 | h0
    · rw [List.eq_nil_of_length_eq_zero h0]; exact .inl rfl
    · refine .inr ⟨a, rfl, ?_, fun j u hu => ?_⟩
      · have q := hos 0 h0 0 _ rfl
        have := World.block_lt_of_cell? _ _ q
        rwa [add_block] at this
      · have hj : j < us.length * 3 := by
          rcases Nat.lt_or_ge j (us.length * 3) with h1 | h1
          · exact h1
          · rw [List.getElem?_eq_none (by rw [upsV_length]; exact h1)] at hu; cases hu
        have hd : j / 3 * 3 + j % 3 = j := by omega
        rw [← hd, upsV_get (by omega) (by omega)] at hu
        have := hos (j / 3) (by omega) _ u hu
        rwa [hd] at this
end
end Go.Proofs.YteeffchnbkkpfabDoor
namespace Go.Proofs.YteeffchnbkkpfabDoor
open Go.RowKit Wo Pu Rf

end Go.Proofs.YteeffchnbkkpfabDoor
namespace Go.Proofs.YteeffchnbkkpfabDoor
open Go.RowKit Wo Pu Rf

/-! ### Blocks of one cell and of two. -/
def Blk1 (w : World) (g : Nat) (t : TypeId) (v0 : Value) : Prop := w.heap[g]? = some (.cells #[v0] t (0, 0))
def Blk2s (w : World) (g : Nat) (t : TypeId) (v0 v1 : Value) : Prop := w.heap[g]? = some (.cells #[v0, v1] t (0, 0))
def Blk3s (w : World) (g : Nat) (t : TypeId) (v0 v1 v2 : Value) : Prop := w.heap[g]? = some (.cells #[v0, v1, v2] t (0, 0))
theorem blk_lt {w : World} {g : Nat} {o : Obj} (h : w.heap[g]? = some o) : g < w.heap.size := by
  rcases Nat.lt_or_ge g w.heap.size with h1 | h1
  · exact h1
  · rw [Array.getElem?_eq_none h1] at h; cases h
section
variable {w w' : World} {g : Nat} {t : TypeId} {v0 v1 v2 : Value}
theorem Blk1.lt (h : Blk1 w g t v0) : g < w.heap.size := blk_lt h
theorem Blk2s.lt (h : Blk2s w g t v0 v1) : g < w.heap.size := blk_lt h
theorem Blk3s.lt (h : Blk3s w g t v0 v1 v2) : g < w.heap.size := blk_lt h
theorem Blk1.reads (h : Blk1 w g t v0) : w.cell? ⟨g, 0, none⟩ = some v0 ∧ ∀ o, w.frozen? ⟨g, o, none⟩ = false := by
  unfold Blk1 at h
  exact ⟨by simp [World.cell?, h], fun o => by simp [World.frozen?, h]⟩
theorem Blk2s.reads (h : Blk2s w g t v0 v1) : w.cell? ⟨g, 0, none⟩ = some v0 ∧ w.cell? ⟨g, 1, none⟩ = some v1 ∧ ∀ o, w.frozen? ⟨g, o, none⟩ = false := by
  unfold Blk2s at h
  exact ⟨by simp [World.cell?, h], by simp [World.cell?, h], fun o => by simp [World.frozen?, h]⟩
theorem Blk3s.reads (h : Blk3s w g t v0 v1 v2) : w.cell? ⟨g, 0, none⟩ = some v0 ∧ w.cell? ⟨g, 1, none⟩ = some v1 ∧ w.cell? ⟨g, 2, none⟩ = some v2 ∧ ∀ o, w.frozen? ⟨g, o, none⟩ = false := by
  unfold Blk3s at h
  exact ⟨by simp [World.cell?, h], by simp [World.cell?, h], by simp [World.cell?, h], fun o => by simp [World.frozen?, h]⟩
theorem Blk1.new_ (w : World) (t : TypeId) (v0 : Value) : Blk1 (w.alloc (.cells #[v0] t)) w.heap.size t v0 := heap_alloc_new w _
theorem Blk2s.new_ (w : World) (t : TypeId) (v0 v1 : Value) : Blk2s (w.alloc (.cells #[v0, v1] t)) w.heap.size t v0 v1 := heap_alloc_new w _
theorem Blk3s.new_ (w : World) (t : TypeId) (v0 v1 v2 : Value) : Blk3s (w.alloc (.cells #[v0, v1, v2] t)) w.heap.size t v0 v1 v2 := heap_alloc_new w _
theorem Blk1.below {C : Nat} (h : Blk1 w g t v0) (hb : Below C w w') (hC : g < C) : Blk1 w' g t v0 := (hb.block g hC).trans h
theorem Blk2s.below {C : Nat} (h : Blk2s w g t v0 v1) (hb : Below C w w') (hC : g < C) : Blk2s w' g t v0 v1 := (hb.block g hC).trans h
theorem Blk3s.below {C : Nat} (h : Blk3s w g t v0 v1 v2) (hb : Below C w w') (hC : g < C) : Blk3s w' g t v0 v1 v2 := (hb.block g hC).trans h
theorem Blk1.later (h : Blk1 w g t v0) (hb : Below w.heap.size w w') : Blk1 w' g t v0 := h.below hb h.lt
theorem Blk2s.later (h : Blk2s w g t v0 v1) (hb : Below w.heap.size w w') : Blk2s w' g t v0 v1 := h.below hb h.lt
theorem Blk3s.later (h : Blk3s w g t v0 v1 v2) (hb : Below w.heap.size w w') : Blk3s w' g t v0 v1 v2 := h.below hb h.lt
theorem Blk1.alloc (h : Blk1 w g t v0) (o : Obj) : Blk1 (w.alloc o) g t v0 := h.later ((Below.refl _ _).alloc (Nat.le_refl _) o)
theorem Blk2s.alloc (h : Blk2s w g t v0 v1) (o : Obj) : Blk2s (w.alloc o) g t v0 v1 := h.later ((Below.refl _ _).alloc (Nat.le_refl _) o)
theorem Blk3s.alloc (h : Blk3s w g t v0 v1 v2) (o : Obj) : Blk3s (w.alloc o) g t v0 v1 v2 := h.later ((Below.refl _ _).alloc (Nat.le_refl _) o)
theorem Blk1.far (h : Blk1 w g t v0) {p : Addr} (hp : g ≠ p.block) (u : Value) : Blk1 (w.setCell p u) g t v0 := (Below.heap_setCell w p u g hp).trans h
theorem Blk2s.far (h : Blk2s w g t v0 v1) {p : Addr} (hp : g ≠ p.block) (u : Value) : Blk2s (w.setCell p u) g t v0 v1 := (Below.heap_setCell w p u g hp).trans h
theorem Blk3s.far (h : Blk3s w g t v0 v1 v2) {p : Addr} (hp : g ≠ p.block) (u : Value) : Blk3s (w.setCell p u) g t v0 v1 v2 := (Below.heap_setCell w p u g hp).trans h
theorem Blk1.set0 (h : Blk1 w g t v0) (u : Value) : Blk1 (w.setCell ⟨g, 0, none⟩ u) g t u := by unfold Blk1 at h ⊢; simp [World.setCell, Array.getElem?_modify, h]
theorem Blk2s.set0 (h : Blk2s w g t v0 v1) (u : Value) : Blk2s (w.setCell ⟨g, 0, none⟩ u) g t u v1 := by unfold Blk2s at h ⊢; simp [World.setCell, Array.getElem?_modify, h]
theorem Blk2s.set1 (h : Blk2s w g t v0 v1) (u : Value) : Blk2s (w.setCell ⟨g, 1, none⟩ u) g t v0 u := by unfold Blk2s at h ⊢; simp [World.setCell, Array.getElem?_modify, h]
theorem Blk3s.set0 (h : Blk3s w g t v0 v1 v2) (u : Value) : Blk3s (w.setCell ⟨g, 0, none⟩ u) g t u v1 v2 := by unfold Blk3s at h ⊢; simp [World.setCell, Array.getElem?_modify, h]
theorem Blk3s.set1 (h : Blk3s w g t v0 v1 v2) (u : Value) : Blk3s (w.setCell ⟨g, 1, none⟩ u) g t v0 u v2 := by unfold Blk3s at h ⊢; simp [World.setCell, Array.getElem?_modify, h]
theorem Blk3s.set2 (h : Blk3s w g t v0 v1 v2) (u : Value) : Blk3s (w.setCell ⟨g, 2, none⟩ u) g t v0 v1 u := by unfold Blk3s at h ⊢; simp [World.setCell, Array.getElem?_modify, h]
theorem Blk1.grown {row : Option Nat} (h : Blk1 w g t v0) (hg : w.grownBy w' row) (hr : some g ≠ row) : Blk1 w' g t v0 := (hg.block g h.lt hr).trans h
theorem Blk2s.grown {row : Option Nat} (h : Blk2s w g t v0 v1) (hg : w.grownBy w' row) (hr : some g ≠ row) : Blk2s w' g t v0 v1 := (hg.block g h.lt hr).trans h
theorem Blk3s.grown {row : Option Nat} (h : Blk3s w g t v0 v1 v2) (hg : w.grownBy w' row) (hr : some g ≠ row) : Blk3s w' g t v0 v1 v2 := (hg.block g h.lt hr).trans h
/-- A block of another type than a row's. -/
theorem blk_ne_row {w : World} {g B n sz : Nat} {T T' : TypeId} {cs : Array Value} {fr : Nat × Nat} {v : Value} {ys : List Value} (h : w.heap[g]? = some (.cells cs T fr)) (hr : w.ownsRow B T' sz v n ys) (hT : T ≠ T') : some g ≠ v.ownBlock := fun e => by
  rcases hr.2 with ⟨rfl, _⟩ | ⟨g2, _, cur, rfl, _, hh, _⟩
  · cases e
  · have hk : g = g2 := by simpa [Value.ownBlock] using e
    subst hk
    rw [h] at hh
    injection hh with h3
    injection h3 with _ h3
    exact hT h3
theorem blk_type {w : World} {g : Nat} {T : TypeId} {cs : Array Value} {fr : Nat × Nat} (h : w.heap[g]? = some (.cells cs T fr)) : ∀ k, some g = some k → ∃ cur fr, w.heap[k]? = some (.cells cur T fr) := fun k hk => by
  injection hk with hk
  subst hk
  exact ⟨_, _, h⟩
theorem row_typed {w : World} {B n sz : Nat} {T : TypeId} {v : Value} {ys : List Value} (h : w.ownsRow B T sz v n ys) : ∀ g, v.ownBlock = some g → ∃ cur fr, w.heap[g]? = some (.cells cur T fr) := fun g hg => by
  rcases h.2 with ⟨rfl, _⟩ | ⟨g2, _, cur, rfl, _, hh, _⟩
  · cases hg
  · have hk : g2 = g := by simpa [Value.ownBlock] using hg
    subst hk
    exact ⟨cur, _, hh⟩
/-- A row lies in another block than one of another type. -/
theorem row_far_type {w w1 : World} {B sz n : Nat} {u : Value} {T T' : TypeId} {ys : List Value} {row : Option Nat} (h' : w.ownsRow B T sz u n ys) (hT : T ≠ T') (hg : w.grownBy w1 row) (hr : ∀ g, row = some g → ∃ cur fr, w.heap[g]? = some (.cells cur T' fr)) : w1.ownsRow B T sz u n ys := by
  refine World.ownsRow.kept h' hg ?_
  rcases hu : u.ownBlock with _ | k
  · exact .inl rfl
  · refine .inr (fun e => ?_)
    rcases h'.2 with ⟨rfl, _⟩ | ⟨g, _, cur, rfl, _, hh, _⟩
    · cases hu
    · have hk : g = k := by simpa [Value.ownBlock] using hu
      subst hk
      obtain ⟨cur2, fr2, hh2⟩ := hr g e.symm
      rw [hh] at hh2
      injection hh2 with h3
      injection h3 with _ h3
      exact hT h3
end
end Go.Proofs.YteeffchnbkkpfabDoor
namespace Go.Proofs.YteeffchnbkkpfabDoor
open Go.RowKit Wo Pu Rf Lk Sh

/-! ### Records. -/
/-- At ad lies the record r. -/
def RecAt (w : World) (B : Nat) (ad : Addr) (r : Rec) : Prop :=
  ∃ (A : Option Addr) (c : Nat), w.cell? ad = some (.int .i64 r.k) ∧ w.cell? (ad.add 1) = some (.int .i64 r.t) ∧ w.cell? (ad.add 2) = some (.slice A r.us.length c) ∧ r.us.length ≤ c ∧ Row w B A (upsV r.us)
/-- The slice with head A holds the records rs. -/
def Recs (w : World) (B : Nat) (A : Option Addr) (rs : List Rec) : Prop :=
  rs = [] ∨ ∃ ad, A = some ad ∧ ad.block < B ∧ ∀ i (h : i < rs.length), RecAt w B (ad.add (i * 3)) rs[i]
section
variable {w w' : World} {B C : Nat} {A : Option Addr} {rs : List Rec}
theorem RecAt.below {ad : Addr} {r : Rec} (h : RecAt w B ad r) (ha : ad.block < B) (hb : Below C w w') (hC : B ≤ C) : RecAt w' B ad r := by
  obtain ⟨A, c, h0, h1, h2, h3, h4⟩ := h
  have f : ∀ p : Addr, p.block < B → w'.cell? p = w.cell? p := fun p hp => hb.cell (by omega)
  exact ⟨A, c, by rw [f _ ha]; exact h0, by rw [f _ (by rw [add_block]; exact ha)]; exact h1, by rw [f _ (by rw [add_block]; exact ha)]; exact h2, h3, h4.below hb hC⟩
theorem Recs.below (h : Recs w B A rs) (hb : Below C w w') (hC : B ≤ C) : Recs w' B A rs := by
  rcases h with rfl | ⟨ad, e, ha, hh⟩
  · exact .inl rfl
  · exact .inr ⟨ad, e, ha, fun i hi => (hh i hi).below (by rw [add_block]; exact ha) hb hC⟩
theorem Recs.more {B' : Nat} (h : Recs w B A rs) (hB : B ≤ B') : Recs w B' A rs := by
  rcases h with rfl | ⟨ad, e, ha, hh⟩
  · exact .inl rfl
  · refine .inr ⟨ad, e, by omega, fun i hi => ?_⟩
    obtain ⟨A, c, h0, h1, h2, h3, h4⟩ := hh i hi
    exact ⟨A, c, h0, h1, h2, h3, h4.more hB⟩
theorem Recs.on (h : Recs w w.heap.size A rs) (hb : Below w.heap.size w w') : Recs w' w'.heap.size A rs := (h.below hb (Nat.le_refl _)).more hb.size
theorem Recs.rec (h : Recs w B A rs) {k : Nat} (hk : k < rs.length) :
    ∃ (r : Rec) (ad : Addr) (A' : Option Addr) (c : Nat), rs[k] = r ∧ A = some ad ∧ (ad.add (k * 3)).block < B ∧ w.cell? (ad.add (k * 3)) = some (.int .i64 r.k) ∧ w.cell? ⟨(ad.add (k * 3)).block, (ad.add (k * 3)).off + 1, none⟩ = some (.int .i64 r.t) ∧
      w.cell? ⟨(ad.add (k * 3)).block, (ad.add (k * 3)).off + 2, none⟩ = some (.slice A' r.us.length c) ∧ r.us.length ≤ c ∧ Row w B A' (upsV r.us) := by
  rcases h with rfl | ⟨ad, e, ha, hh⟩
  · simp at hk
  · obtain ⟨A', c, h0, h1, h2, h3, h4⟩ := hh k hk
    exact ⟨_, ad, A', c, rfl, e, by rw [add_block]; exact ha, h0, h1, h2, h3, h4⟩
theorem Recs.take_ (h : Recs w B A rs) (k : Nat) : Recs w B A (rs.take k) := by
  rcases h with rfl | ⟨ad, e, ha, hh⟩
  · exact .inl (by simp)
  · exact .inr ⟨ad, e, ha, fun i hi => by rw [List.getElem_take]; exact hh i (by rw [List.length_take] at hi; omega)⟩
theorem Recs.tail {ad : Addr} (h : Recs w B (some ad) rs) : Recs w B (some (ad.add 3)) (rs.drop 1) := by
  rcases h with rfl | ⟨ad', e, ha, hh⟩
  · exact .inl (by simp)
  · injection e with e
    subst e
    refine .inr ⟨_, rfl, by rw [add_block]; exact ha, fun i hi => ?_⟩
    have hi' : 1 + i < rs.length := by rw [List.length_drop] at hi; omega
    rw [List.getElem_drop, add_add, show 3 + i * 3 = (1 + i) * 3 from by omega]
    exact hh _ hi'
end
/-- Among the cells xs the j-th record is r; its updates are of the call's own. -/
def RecIs (w : World) (B : Nat) (xs : List Value) (j : Nat) (r : Rec) : Prop :=
  ∃ (A : Option Addr) (c : Nat), xs[j * 3]? = some (.int .i64 r.k) ∧ xs[j * 3 + 1]? = some (.int .i64 r.t) ∧ xs[j * 3 + 2]? = some (.slice A r.us.length c) ∧ r.us.length ≤ c ∧ OwnUps w B (.slice A r.us.length c) r.us
/-- The slice v, of the call's own, holds the records rs. -/
def OwnRecs (w : World) (B : Nat) (v : Value) (rs : List Rec) : Prop :=
  ∃ xs, w.ownsRow B 33 3 v rs.length xs ∧ ∀ j (hj : j < rs.length), RecIs w B xs j rs[j]
section
variable {w w' : World} {B : Nat} {v : Value} {rs : List Rec}
theorem OwnRecs.below (h : OwnRecs w B v rs) (hb : Below w.heap.size w w') : OwnRecs w' B v rs := by
  obtain ⟨xs, h1, h2⟩ := h
  refine ⟨xs, own_below h1 hb (Nat.le_refl _), fun j hj => ?_⟩
  obtain ⟨A, c, q0, q1, q2, q3, q4⟩ := h2 j hj
  exact ⟨A, c, q0, q1, q2, q3, q4.below hb⟩
theorem OwnRecs.but {R : Nat} (h : OwnRecs w B v rs) (hb : But R w w') (hR : R < B) : OwnRecs w' B v rs := by
  obtain ⟨xs, h1, h2⟩ := h
  refine ⟨xs, World.ownsRow.kept h1 hb ?_, fun j hj => ?_⟩
  · rcases hv : v.ownBlock with _ | k
    · exact .inl rfl
    · refine .inr (fun e => ?_)
      have := (World.ownsRow.lt h1 k hv).1
      injection e with e
      omega
  · obtain ⟨A, c, q0, q1, q2, q3, q4⟩ := h2 j hj
    exact ⟨A, c, q0, q1, q2, q3, q4.but hb hR⟩
theorem OwnRecs.base {B' : Nat} (h : OwnRecs w B v rs) (hB : B' ≤ B) : OwnRecs w B' v rs := by
  obtain ⟨xs, ⟨h1, h1'⟩, h2⟩ := h
  refine ⟨xs, ⟨h1, ?_⟩, fun j hj => ?_⟩
  · rcases h1' with h | ⟨g, cap, cur, hv, hb, hr⟩
    · exact .inl h
    · exact .inr ⟨g, cap, cur, hv, by omega, hr⟩
  · obtain ⟨A, c, q0, q1, q2, q3, q4⟩ := h2 j hj
    exact ⟨A, c, q0, q1, q2, q3, q4.base hB⟩
theorem OwnRecs.lt (h : OwnRecs w B v rs) : ∀ k, v.ownBlock = some k → B ≤ k := fun k hk => by
  obtain ⟨xs, h1, _⟩ := h
  exact (World.ownsRow.lt h1 k hk).1
theorem OwnRecs.nil_new (hB : B ≤ w.heap.size) : OwnRecs (w.alloc (.cells #[] 33)) B (.slice (some ⟨w.heap.size, 0, none⟩) 0 0) [] :=
  ⟨[], nil_own hB _ _, fun j hj => by simp at hj⟩
theorem OwnRecs.nil_none (w : World) (B : Nat) : OwnRecs w B (.slice none 0 0) [] := ⟨[], ⟨rfl, .inl ⟨rfl, rfl⟩⟩, fun j hj => by simp at hj⟩
theorem OwnUps.nil_none (w : World) (B : Nat) : OwnUps w B (.slice none 0 0) [] := ⟨rfl, .inl ⟨rfl, rfl⟩⟩
theorem OwnRecs.form (h : OwnRecs w B v rs) : ∃ (A : Option Addr) (c : Nat), v = .slice A rs.length c ∧ Recs w w.heap.size A rs ∧ rs.length ≤ c := by
  obtain ⟨xs, h1, h2⟩ := h
  have h1' := h1
  obtain ⟨hl, h1⟩ := h1
  rcases h1 with ⟨rfl, h0⟩ | ⟨g, cap, cur, rfl, hB, hh, hn, hm, hcs, htk⟩
  · exact ⟨none, 0, by rw [h0], .inl (List.eq_nil_of_length_eq_zero h0), by omega⟩
  · refine ⟨some ⟨g, 0, none⟩, cap, rfl, .inr ⟨_, rfl, (World.ownsRow.lt h1' g rfl).2, fun i hi => ?_⟩, hn⟩
    obtain ⟨A, c, q0, q1, q2, q3, q4⟩ := h2 i hi
    have hc := World.ownsRow.cells h1' (g := g) rfl
    obtain ⟨A3, c3, e3, h3, _⟩ := q4.form
    injection e3 with e3 _ _
    subst e3
    exact ⟨A, c, hc _ _ q0, by rw [add_add]; exact hc _ _ q1, by rw [add_add]; exact hc _ _ q2, q3, h3⟩
theorem OwnUps.keptT {T : TypeId} {row : Option Nat} {u : Value} {us : List Up} (h : OwnUps w B u us) (t2 : 100 ≠ T) (hg : w.grownBy w' row) (hr : ∀ g, row = some g → ∃ cur fr, w.heap[g]? = some (.cells cur T fr)) : OwnUps w' B u us := row_far_type h t2 hg hr
theorem OwnRecs.keptT {T : TypeId} {row : Option Nat} (h : OwnRecs w B v rs) (t1 : 33 ≠ T) (t2 : 100 ≠ T) (hg : w.grownBy w' row) (hr : ∀ g, row = some g → ∃ cur fr, w.heap[g]? = some (.cells cur T fr)) : OwnRecs w' B v rs := by
  obtain ⟨xs, h1, h2⟩ := h
  refine ⟨xs, row_far_type h1 t1 hg hr, fun j hj => ?_⟩
  obtain ⟨A, c, q0, q1, q2, q3, q4⟩ := h2 j hj
  exact ⟨A, c, q0, q1, q2, q3, q4.keptT t2 hg hr⟩
/-- One record more. -/
theorem OwnRecs.app {w1 : World} {c : Nat} {A : Option Addr} {v' : Value} {r : Rec} {ys : List Value} (hos : ∀ j (hj : j < rs.length), RecIs w B ys j rs[j]) (hc : r.us.length ≤ c)
    (hups : OwnUps w B (.slice A r.us.length c) r.us) (hrow : w.ownsRow B 33 3 v rs.length ys)
    (hown : w1.ownsRow B 33 3 v' (rs.length + 1) (ys ++ [.int .i64 r.k, .int .i64 r.t, .slice A r.us.length c]))
    (hg : (w.alloc (.cells #[.int .i64 r.k, .int .i64 r.t, .slice A r.us.length c] 33)).grownBy w1 v.ownBlock) : OwnRecs w1 B v' (rs ++ [r]) := by
  have hlen : ys.length = rs.length * 3 := hrow.1
  have al := (Below.refl w.heap.size w).alloc (Nat.le_refl _) (.cells #[.int .i64 r.k, .int .i64 r.t, .slice A r.us.length c] 33)
  have keep : ∀ {u : Value} {us : List Up}, OwnUps w B u us → OwnUps w1 B u us := fun {u us} h =>
    (h.below al).keptT (by decide) hg fun g e => row_typed (World.ownsRow.alloc hrow _) g e
  refine ⟨_, by simpa using hown, fun j hj => ?_⟩
  by_cases e : j < rs.length
  · obtain ⟨A', c', q0, q1, q2, q3, q4⟩ := hos j e
    rw [List.getElem_append_left e]
    exact ⟨A', c', by rw [List.getElem?_append_left (by omega)]; exact q0, by rw [List.getElem?_append_left (by omega)]; exact q1, by rw [List.getElem?_append_left (by omega)]; exact q2, q3, keep q4⟩
  · have ej : j = rs.length := by simp at hj; omega
    subst ej
    have eo : (rs ++ [r])[rs.length]'(by simp) = r := by simp
    rw [eo]
    refine ⟨A, c, ?_, ?_, ?_, hc, keep hups⟩
    · rw [List.getElem?_append_right (by omega), hlen]; simp
    · rw [List.getElem?_append_right (by omega), hlen, show rs.length * 3 + 1 - rs.length * 3 = 1 from by omega]; rfl
    · rw [List.getElem?_append_right (by omega), hlen, show rs.length * 3 + 2 - rs.length * 3 = 2 from by omega]; rfl
end
theorem rec_cells (k t : Int) (A : Option Addr) (n c : Nat) : ∀ u ∈ [Value.int .i64 k, .int .i64 t, .slice A n c], u.oneCell' = true := by
  intro u hu
  simp only [List.mem_cons, List.not_mem_nil, or_false] at hu
  rcases hu with rfl | rfl | rfl <;> rfl
theorem row_threeR (w : World) (v0 v1 v2 : Value) (t : TypeId) : Row (w.alloc (.cells #[v0, v1, v2] t)) (w.alloc (.cells #[v0, v1, v2] t)).heap.size (some ⟨w.heap.size, 0, none⟩) [v0, v1, v2] :=
  .inr ⟨_, rfl, by simp, World.news_of_block (cs := #[v0, v1, v2]) (heap_alloc_new w _)⟩
theorem info_rec : (Tryd.prog.info? 33).map (fun i => (i.zero, i.size, i.bytes)) = some (some (.agg #[.int .i64 0, .int .i64 0, .slice none 0 0]), 3, 40) := by kernel_rfl

/-! ### Shards and states. -/
def shV (A : Option Addr) (n c : Nat) : Value := .agg #[.slice A n c]
/-- A shard, read. -/
def Shd (w : World) (B : Nat) (v : Value) (rs : List Rec) : Prop := ∃ A c, v = shV A rs.length c ∧ Recs w B A rs ∧ rs.length ≤ c
/-- A shard of the call's own. -/
def OwnSh (w : World) (B : Nat) (v : Value) (rs : List Rec) : Prop := ∃ A c, v = shV A rs.length c ∧ OwnRecs w B (.slice A rs.length c) rs ∧ rs.length ≤ c
section
variable {w w' : World} {B : Nat} {v : Value} {rs : List Rec}
theorem Shd.below {C : Nat} (h : Shd w B v rs) (hb : Below C w w') (hC : B ≤ C) : Shd w' B v rs := by
  obtain ⟨A, c, e, h1, h2⟩ := h
  exact ⟨A, c, e, h1.below hb hC, h2⟩
theorem Shd.more {B' : Nat} (h : Shd w B v rs) (hB : B ≤ B') : Shd w B' v rs := by
  obtain ⟨A, c, e, h1, h2⟩ := h
  exact ⟨A, c, e, h1.more hB, h2⟩
theorem Shd.on (h : Shd w B v rs) (hb : Below B w w') (hB : B ≤ w'.heap.size) : Shd w' w'.heap.size v rs := (h.below hb (Nat.le_refl _)).more hB
theorem OwnSh.below (h : OwnSh w B v rs) (hb : Below w.heap.size w w') : OwnSh w' B v rs := by
  obtain ⟨A, c, e, h1, h2⟩ := h
  exact ⟨A, c, e, h1.below hb, h2⟩
theorem OwnSh.base {B' : Nat} (h : OwnSh w B v rs) (hB : B' ≤ B) : OwnSh w B' v rs := by
  obtain ⟨A, c, e, h1, h2⟩ := h
  exact ⟨A, c, e, h1.base hB, h2⟩
theorem OwnSh.shd (h : OwnSh w B v rs) : Shd w w.heap.size v rs := by
  obtain ⟨A, c, e, h1, h2⟩ := h
  obtain ⟨A', c', e', h3, _⟩ := h1.form
  injection e' with e1 _ e3
  subst e1
  exact ⟨A, c, e, h3, h2⟩
theorem OwnSh.mk_ {u : Value} (h : OwnRecs w B u rs) : OwnSh w B (.agg #[u]) rs := by
  obtain ⟨A, c, rfl, _, hc⟩ := h.form
  exact ⟨A, c, rfl, h, hc⟩
theorem OwnSh.none_ (w : World) (B : Nat) : OwnSh w B (.agg #[.slice none 0 0]) [] := ⟨none, 0, rfl, OwnRecs.nil_none w B, Nat.le_refl _⟩
theorem OwnSh.keptT {T : TypeId} {row : Option Nat} (h : OwnSh w B v rs) (t1 : 33 ≠ T) (t2 : 100 ≠ T) (hg : w.grownBy w' row) (hr : ∀ g, row = some g → ∃ cur fr, w.heap[g]? = some (.cells cur T fr)) : OwnSh w' B v rs := by
  obtain ⟨A, c, e, h1, h2⟩ := h
  exact ⟨A, c, e, h1.keptT t1 t2 hg hr, h2⟩
end
/-- Sizes that a call can bear. -/
def FitR (rs : List Rec) : Prop := rs.length ≤ 1048576 ∧ ∀ r ∈ rs, r.us.length ≤ 1048576
theorem FitR.take {rs : List Rec} (h : FitR rs) (k : Nat) : FitR (rs.take k) := ⟨by rw [List.length_take]; have := h.1; omega, fun r hr => h.2 r (List.mem_of_mem_take hr)⟩
/-- Behind it: a shard of the call's own. -/
def NewSh (rs : List Rec) (w : World) (e : Ending) (w' : World) : Prop := ∃ v, e = .returned v ∧ OwnSh w' w.heap.size v rs ∧ Below w.heap.size w w'
/-- .. and a word. -/
def NewShB (rs : List Rec) (b : Bool) (w : World) (e : Ending) (w' : World) : Prop := ∃ v, e = .returned (.tuple #[v, .bool b]) ∧ OwnSh w' w.heap.size v rs ∧ Below w.heap.size w w'
/-- A state as a value. -/
def stV (A : Option Addr) (n c : Nat) (A2 : Option Addr) (n2 c2 : Nat) : Value := .agg #[.slice A n c, .slice A2 n2 c2]
/-- The state s, read. -/
def Stt (w : World) (B : Nat) (v : Value) (s : St) : Prop := ∃ A c A2 c2, v = stV A s.refs.length c A2 s.locks.length c2 ∧ Row w B A (ints s.refs) ∧ s.refs.length ≤ c ∧ Row w B A2 (ints s.locks) ∧ s.locks.length ≤ c2
theorem Stt.below {w w' : World} {B C : Nat} {v : Value} {s : St} (h : Stt w B v s) (hb : Below C w w') (hC : B ≤ C) : Stt w' B v s := by
  obtain ⟨A, c, A2, c2, e, h1, h2, h3, h4⟩ := h
  exact ⟨A, c, A2, c2, e, h1.below hb hC, h2, h3.below hb hC, h4⟩
theorem Stt.more {w : World} {B B' : Nat} {v : Value} {s : St} (h : Stt w B v s) (hB : B ≤ B') : Stt w B' v s := by
  obtain ⟨A, c, A2, c2, e, h1, h2, h3, h4⟩ := h
  exact ⟨A, c, A2, c2, e, h1.more hB, h2, h3.more hB, h4⟩
theorem Stt.on {w w' : World} {B : Nat} {v : Value} {s : St} (h : Stt w B v s) (hb : Below B w w') (hB : B ≤ w'.heap.size) : Stt w' w'.heap.size v s := (h.below hb (Nat.le_refl _)).more hB
/-- Refs and locks of four. -/
def Four (s : St) : Prop := RV s.refs ∧ LV s.locks
theorem Four.len {s : St} (h : Four s) : s.refs.length = 4 ∧ s.locks.length = 4 := ⟨h.1.1, h.2.1⟩
theorem Four.begin_ : Four ⟨[-1, -1, -1, -1], [-1, -1, -1, -1]⟩ := ⟨Inv.begin_.refs, Inv.begin_.locks⟩
/-- Behind it: a state that can be read. -/
def NewSt (s : St) (w : World) (e : Ending) (w' : World) : Prop := ∃ v, e = .returned v ∧ Stt w' w'.heap.size v s ∧ Below w.heap.size w w'
def NewStB (s : St) (b : Bool) (w : World) (e : Ending) (w' : World) : Prop := ∃ v, e = .returned (.tuple #[v, .bool b]) ∧ Stt w' w'.heap.size v s ∧ Below w.heap.size w w'
end Go.Proofs.YteeffchnbkkpfabDoor
namespace Go.Proofs.YteeffchnbkkpfabDoor
open Go.RowKit Wo Pu Rf Lk Sh

def Ap2R (v u : Value) : Prop := ∀ g, v.ownBlock = some g → u.ownBlock ≠ some g
theorem Ap2R.symm {v u : Value} (h : Ap2R v u) : Ap2R u v := fun g h1 h2 => h g h2 h1
/-- The updates of the first n records lie apart. -/
def AptR (xs : List Value) (n : Nat) : Prop := ∀ i j v u, i < n → j < n → i ≠ j → xs[i * 3 + 2]? = some v → xs[j * 3 + 2]? = some u → Ap2R v u
/-- The slice v, of the call's own, holds the records rs; their updates lie apart. -/
def OwnRecF (w : World) (B : Nat) (v : Value) (rs : List Rec) : Prop :=
  ∃ xs, w.ownsRow B 33 3 v rs.length xs ∧ (∀ j (hj : j < rs.length), RecIs w B xs j rs[j]) ∧ AptR xs rs.length
section
variable {w w' : World} {B : Nat} {v : Value} {rs : List Rec}
theorem OwnRecF.own (h : OwnRecF w B v rs) : OwnRecs w B v rs := by
  obtain ⟨xs, h1, h2, _⟩ := h
  exact ⟨xs, h1, h2⟩
theorem OwnRecF.below (h : OwnRecF w B v rs) (hb : Below w.heap.size w w') : OwnRecF w' B v rs := by
  obtain ⟨xs, h1, h2, h3⟩ := h
  refine ⟨xs, own_below h1 hb (Nat.le_refl _), fun j hj => ?_, h3⟩
  obtain ⟨A, c, q0, q1, q2, q3, q4⟩ := h2 j hj
  exact ⟨A, c, q0, q1, q2, q3, q4.below hb⟩
theorem rowB_base {w : World} {B B' n sz : Nat} {e : TypeId} {v : Value} {xs : List Value} (h : w.ownsRow B e sz v n xs) (hB : B' ≤ B) : w.ownsRow B' e sz v n xs := by
  obtain ⟨h1, h2⟩ := h
  refine ⟨h1, ?_⟩
  rcases h2 with h2 | ⟨g', cap, cur, hv, hb, hr⟩
  · exact .inl h2
  · exact .inr ⟨g', cap, cur, hv, by omega, hr⟩
theorem OwnRecF.base {B' : Nat} (h : OwnRecF w B v rs) (hB : B' ≤ B) : OwnRecF w B' v rs := by
  obtain ⟨xs, h1, h2, h3⟩ := h
  refine ⟨xs, rowB_base h1 hB, fun j hj => ?_, h3⟩
  obtain ⟨A, c, q0, q1, q2, q3, q4⟩ := h2 j hj
  exact ⟨A, c, q0, q1, q2, q3, q4.base hB⟩
theorem OwnRecF.nil_new (hB : B ≤ w.heap.size) : OwnRecF (w.alloc (.cells #[] 33)) B (.slice (some ⟨w.heap.size, 0, none⟩) 0 0) [] :=
  ⟨[], nil_own hB _ _, (fun j hj => by simp at hj), fun i _ _ _ hi => absurd hi (by simp)⟩
theorem OwnRecF.nil_none (w : World) (B : Nat) : OwnRecF w B (.slice none 0 0) [] := ⟨[], ⟨rfl, .inl ⟨rfl, rfl⟩⟩, (fun j hj => by simp at hj), fun i _ _ _ hi => absurd hi (by simp)⟩
theorem OwnRecF.keptT {T : TypeId} {row : Option Nat} (h : OwnRecF w B v rs) (t1 : 33 ≠ T) (t2 : 100 ≠ T) (hg : w.grownBy w' row) (hr : ∀ g, row = some g → ∃ cur fr, w.heap[g]? = some (.cells cur T fr)) : OwnRecF w' B v rs := by
  obtain ⟨xs, h1, h2, h3⟩ := h
  refine ⟨xs, row_far_type h1 t1 hg hr, fun j hj => ?_, h3⟩
  obtain ⟨A, c, q0, q1, q2, q3, q4⟩ := h2 j hj
  exact ⟨A, c, q0, q1, q2, q3, q4.keptT t2 hg hr⟩
/-- One record more, whose updates lie above all others. -/
theorem OwnRecF.app {w1 : World} {c N : Nat} {A : Option Addr} {v' : Value} {r : Rec} {ys : List Value} (hos : ∀ j (hj : j < rs.length), RecIs w B ys j rs[j]) (hap : AptR ys rs.length) (hold : ∀ j u g, j < rs.length → ys[j * 3 + 2]? = some u → u.ownBlock = some g → g < N)
    (hnew : ∀ g, (Value.slice A r.us.length c).ownBlock = some g → N ≤ g) (hc : r.us.length ≤ c)
    (hups : OwnUps w B (.slice A r.us.length c) r.us) (hrow : w.ownsRow B 33 3 v rs.length ys)
    (hown : w1.ownsRow B 33 3 v' (rs.length + 1) (ys ++ [.int .i64 r.k, .int .i64 r.t, .slice A r.us.length c]))
    (hg : (w.alloc (.cells #[.int .i64 r.k, .int .i64 r.t, .slice A r.us.length c] 33)).grownBy w1 v.ownBlock) : OwnRecF w1 B v' (rs ++ [r]) := by
  have hlen : ys.length = rs.length * 3 := hrow.1
  have al := (Below.refl w.heap.size w).alloc (Nat.le_refl _) (.cells #[.int .i64 r.k, .int .i64 r.t, .slice A r.us.length c] 33)
  have keep : ∀ {u : Value} {us : List Up}, OwnUps w B u us → OwnUps w1 B u us := fun {u us} h =>
    (h.below al).keptT (by decide) hg fun g e => row_typed (World.ownsRow.alloc hrow _) g e
  have at2 : ∀ j, j < rs.length → (ys ++ [Value.int .i64 r.k, .int .i64 r.t, .slice A r.us.length c])[j * 3 + 2]? = ys[j * 3 + 2]? := fun j hj => List.getElem?_append_left (by omega)
  have atn : (ys ++ [Value.int .i64 r.k, .int .i64 r.t, .slice A r.us.length c])[rs.length * 3 + 2]? = some (.slice A r.us.length c) := by
    rw [List.getElem?_append_right (by omega), hlen, show rs.length * 3 + 2 - rs.length * 3 = 2 from by omega]; rfl
  refine ⟨_, by simpa using hown, fun j hj => ?_, fun i j a b hi hj hij ha hb => ?_⟩
  · by_cases e : j < rs.length
    · obtain ⟨A', c', q0, q1, q2, q3, q4⟩ := hos j e
      rw [List.getElem_append_left e]
      exact ⟨A', c', by rw [List.getElem?_append_left (by omega)]; exact q0, by rw [List.getElem?_append_left (by omega)]; exact q1, by rw [List.getElem?_append_left (by omega)]; exact q2, q3, keep q4⟩
    · have ej : j = rs.length := by simp at hj; omega
      subst ej
      have eo : (rs ++ [r])[rs.length]'(by simp) = r := by simp
      rw [eo]
      refine ⟨A, c, ?_, ?_, atn, hc, keep hups⟩
      · rw [List.getElem?_append_right (by omega), hlen]; simp
      · rw [List.getElem?_append_right (by omega), hlen, show rs.length * 3 + 1 - rs.length * 3 = 1 from by omega]; rfl
  · simp only [List.length_append, List.length_cons, List.length_nil] at hi hj
    have low : ∀ k x, k < rs.length → ys[k * 3 + 2]? = some x → Ap2R x (.slice A r.us.length c) := fun k x hk hx g h1 h2 => by
      have := hold k x g hk hx h1
      have := hnew g h2
      omega
    by_cases i1 : i < rs.length
    · rw [at2 i i1] at ha
      by_cases j1 : j < rs.length
      · rw [at2 j j1] at hb
        exact hap i j a b i1 j1 hij ha hb
      · have ej : j = rs.length := by omega
        subst ej
        rw [atn] at hb
        injection hb with hb
        subst hb
        exact low i a i1 ha
    · have ei : i = rs.length := by omega
      subst ei
      rw [atn] at ha
      injection ha with ha
      subst ha
      have j1 : j < rs.length := by omega
      rw [at2 j j1] at hb
      exact (low j b j1 hb).symm
/-- Their blocks lie below the heap's end. -/
theorem RecIs.lt {xs : List Value} {j : Nat} {r : Rec} (h : RecIs w B xs j r) : ∀ u g, xs[j * 3 + 2]? = some u → u.ownBlock = some g → B ≤ g ∧ g < w.heap.size := fun u g hu hg => by
  obtain ⟨A, c, q0, q1, q2, q3, q4⟩ := h
  rw [q2] at hu
  injection hu with hu
  subst hu
  exact World.ownsRow.lt q4 g hg
end
/-- A shard of the call's own, all lists of which lie apart. -/
def OwnShF (w : World) (B : Nat) (v : Value) (rs : List Rec) : Prop := ∃ A c, v = shV A rs.length c ∧ OwnRecF w B (.slice A rs.length c) rs ∧ rs.length ≤ c
theorem OwnShF.own {w : World} {B : Nat} {v : Value} {rs : List Rec} (h : OwnShF w B v rs) : OwnSh w B v rs := by
  obtain ⟨A, c, e, h1, h2⟩ := h
  exact ⟨A, c, e, h1.own, h2⟩
theorem OwnShF.mk_ {w : World} {B : Nat} {u : Value} {rs : List Rec} (h : OwnRecF w B u rs) : OwnShF w B (.agg #[u]) rs := by
  obtain ⟨A, c, rfl, _, hc⟩ := h.own.form
  exact ⟨A, c, rfl, h, hc⟩
theorem OwnShF.base {w : World} {B B' : Nat} {v : Value} {rs : List Rec} (h : OwnShF w B v rs) (hB : B' ≤ B) : OwnShF w B' v rs := by
  obtain ⟨A, c, e, h1, h2⟩ := h
  exact ⟨A, c, e, h1.base hB, h2⟩
theorem OwnShF.below {w w' : World} {B : Nat} {v : Value} {rs : List Rec} (h : OwnShF w B v rs) (hb : Below w.heap.size w w') : OwnShF w' B v rs := by
  obtain ⟨A, c, e, h1, h2⟩ := h
  exact ⟨A, c, e, h1.below hb, h2⟩
/-- Behind it: such a shard. -/
def NewShF (rs : List Rec) (w : World) (e : Ending) (w' : World) : Prop := ∃ v, e = .returned v ∧ OwnShF w' w.heap.size v rs ∧ Below w.heap.size w w'
def NewShFB (rs : List Rec) (b : Bool) (w : World) (e : Ending) (w' : World) : Prop := ∃ v, e = .returned (.tuple #[v, .bool b]) ∧ OwnShF w' w.heap.size v rs ∧ Below w.heap.size w w'
theorem NewShFB.weak {rs : List Rec} {b : Bool} {w w' : World} {e : Ending} (h : NewShFB rs b w e w') : NewShB rs b w e w' := by
  obtain ⟨v, h1, h2, h3⟩ := h
  exact ⟨v, h1, h2.own, h3⟩
end Go.Proofs.YteeffchnbkkpfabDoor
