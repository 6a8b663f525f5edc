/-
  Walks: what the laws on refs draw.
  Walks: the laws' own helpers on updates: compared, turned round.
  Plain facts: arrays in memory; lists of refs that are being filled; which refs have been marked.
  Walks: drawn locks and transactions.
  Walks: what the laws on locks draw.
-/
import Derived.Test.YteeffchnbkkpfabDoorDrawU
import Derived.Test.YteeffchnbkkpfabDoorG4C
import Derived.Laws.Rows
import Derived.Laws.Tables
import Derived.Laws.CopyOwn
import Derived.Great.BuildSlice
namespace Go.Proofs.YteeffchnbkkpfabDoor
open Go.RowKit Wo Pu Rf

/-- Drawn refs. -/
def RefsMade (w : World) (e : Ending) (w' : World) : Prop := ∃ A c zs, e = .returned (.slice A zs.length c) ∧ Row w' w'.heap.size A (ints zs) ∧ zs.length ≤ 4 ∧ zs.length ≤ c ∧ Below w.heap.size w w'
/-- Drawn updates. -/
def UpsMade (w : World) (e : Ending) (w' : World) : Prop := ∃ A c us, e = .returned (.slice A us.length c) ∧ Row w' w'.heap.size A (upsV us) ∧ us.length ≤ 4 ∧ us.length ≤ c ∧ Below w.heap.size w w'
/-- Drawn refs and updates. -/
def BothMade (w : World) (e : Ending) (w' : World) : Prop := ∃ A c zs A2 c2 us, e = .returned (.tuple #[.slice A zs.length c, .slice A2 us.length c2]) ∧ Row w' w'.heap.size A (ints zs) ∧ zs.length ≤ 4 ∧ Row w' w'.heap.size A2 (upsV us) ∧ us.length ≤ 4 ∧ Below w.heap.size w w'
/-- Two drawn lists of refs. -/
def TwoRefs (w : World) (e : Ending) (w' : World) : Prop := ∃ A c zs A2 c2 ys, e = .returned (.tuple #[.slice A zs.length c, .slice A2 ys.length c2]) ∧ Row w' w'.heap.size A (ints zs) ∧ zs.length ≤ 4 ∧ Row w' w'.heap.size A2 (ints ys) ∧ ys.length ≤ 4 ∧ Below w.heap.size w w'
/-- Two drawn lists of updates. -/
def TwoUps (w : World) (e : Ending) (w' : World) : Prop := ∃ A c us A2 c2 vs, e = .returned (.tuple #[.slice A us.length c, .slice A2 vs.length c2]) ∧ Row w' w'.heap.size A (upsV us) ∧ us.length ≤ 4 ∧ Row w' w'.heap.size A2 (upsV vs) ∧ vs.length ≤ 4 ∧ Below w.heap.size w w'
theorem OwnI.ne {w : World} {B R n c : Nat} {A : Option Addr} {zs : List Int} (h : OwnI w B (.slice A n c) zs) (hR : R < B) : ∀ ad, A = some ad → ad.block ≠ R := fun ad e => by
  subst e
  have := (World.ownsRow.lt h ad.block rfl).1
  omega
theorem OwnUps.row {w : World} {B c : Nat} {A : Option Addr} {n : Nat} {us : List Up} (h : OwnUps w B (.slice A n c) us) : Row w w.heap.size A (upsV us) := by
  obtain ⟨A', c', e, hr, _⟩ := h.form
  injection e with e1
  subst e1
  exact hr
theorem row_wide {w : World} {B B' : Nat} {A : Option Addr} {vs : List Value} (h : Row w B A vs) (hB : B ≤ B') : Row w B' A vs := by
  rcases h with rfl | ⟨ad, e, hb, hc⟩
  · exact .inl rfl
  · exact .inr ⟨ad, e, Nat.lt_of_lt_of_le hb hB, hc⟩
theorem OwnI.wide {w w' : World} {B c n : Nat} {A : Option Addr} {zs : List Int} (h : OwnI w B (.slice A n c) zs) (hb : Below w.heap.size w w') : Row w' w'.heap.size A (ints zs) := (h.below hb (Nat.le_refl _)).row
end Go.Proofs.YteeffchnbkkpfabDoor
namespace Go.Proofs.YteeffchnbkkpfabDoor
open Go.RowKit Wo Pu Rf

set_option maxHeartbeats 2000000 in
theorem sameUpdates_ret (A A2 : Option Addr) (c c2 : Nat) (os : List Up) (w : World) (B C : Nat) (h : Row w B A (upsV os)) (h2 : Row w C A2 (upsV os)) (hn : os.length ≤ 1048600) :
    Calls Tryd.prog 90 #[.slice A os.length c, .slice A2 os.length c2] w (Ret (.bool true) w) := by
  go_enter Tryd.func90, Tryd.ntmps90
  go_wp2
  go_loopw [5] (fun i wr => ∃ k : Nat, k ≤ os.length ∧ i = .int .i64 k ∧ Dr w wr) (fun i _ => os.length - (intOf i).toNat)
  case atStart => exact ⟨0, Nat.zero_le _, rfl, .refl _⟩
  case round =>
    obtain ⟨k, hk, rfl, HW⟩ := hrel
    by_cases hlt : k < os.length
    · obtain ⟨o, ad, ho, rfl, ha1, g0, g1, g2⟩ := (HW.row h).up_ hlt
      obtain ⟨o2, ad2, ho2, rfl, ha2, g20, g21, g22⟩ := (HW.row h2).up_ hlt
      obtain rfl : o = o2 := by rw [← ho, ← ho2]
      have k0 : 0 ≤ (k : Int) := by omega
      have k1 : (k : Int) < (os.length : Int) := by omega
      clear ho ho2
      go_wp2
      go_quiet (fail)
      go_wp2
      go_roundw
      case rel => exact ⟨k + 1, by omega, by go_num, HW.drewN _⟩
      case measure => simp [intOf]; omega
    · have hk' : k = os.length := by omega
      subst hk'
      go_wp2
      go_ret
      exact .mk_ (HW.below _)
end Go.Proofs.YteeffchnbkkpfabDoor
namespace Go.Proofs.YteeffchnbkkpfabDoor
open Go.RowKit Wo Pu Rf

/-- Block g is an array of the values vs. -/
def Arr4 (w : World) (g : Nat) (t : TypeId) (vs : List Value) : Prop := w.heap[g]? = some (.cells vs.toArray t (0, 0))
section
variable {w w' : World} {g : Nat} {t : TypeId} {vs : List Value}
theorem Arr4.new_ (w : World) (t : TypeId) (vs : List Value) : Arr4 (w.alloc (.cells vs.toArray t)) w.heap.size t vs := heap_alloc_new w _
theorem Arr4.lt (h : Arr4 w g t vs) : g < w.heap.size := by
  rcases Nat.lt_or_ge g w.heap.size with h1 | h1
  · exact h1
  · unfold Arr4 at h; rw [Array.getElem?_eq_none h1] at h; cases h
theorem Arr4.read (h : Arr4 w g t vs) {i : Nat} (hi : i < vs.length) : w.cell? ⟨g, i, none⟩ = some vs[i] := by
  unfold Arr4 at h
  simp [World.cell?, h, hi]
theorem Arr4.frozen (h : Arr4 w g t vs) (o : Nat) : w.frozen? ⟨g, o, none⟩ = false := by
  unfold Arr4 at h
  simp [World.frozen?, h]
theorem Arr4.below {C : Nat} (h : Arr4 w g t vs) (hb : Below C w w') (hC : g < C) : Arr4 w' g t vs := (hb.block g hC).trans h
theorem Arr4.far (h : Arr4 w g t vs) {p : Addr} (hp : g ≠ p.block) (u : Value) : Arr4 (w.setCell p u) g t vs := (Below.heap_setCell w p u g hp).trans h
theorem Arr4.set (h : Arr4 w g t vs) (i : Nat) (u : Value) : Arr4 (w.setCell ⟨g, i, none⟩ u) g t (vs.set i u) := by
  unfold Arr4 at h ⊢
  simp [World.setCell, Array.getElem?_modify, h]
theorem Arr4.row (h : Arr4 w g t vs) : Row w w.heap.size (some ⟨g, 0, none⟩) vs := by
  refine .inr ⟨_, rfl, h.lt, fun j v hj => ?_⟩
  have e : (⟨g, 0, none⟩ : Addr).add j = ⟨g, j, none⟩ := by unfold Addr.add; split <;> simp_all
  rw [e]
  unfold Arr4 at h
  simp [World.cell?, h, hj]
end
/-- The first k are zs's, the others 0. -/
def pad (zs : List Int) (k : Nat) : List Int := zs.take k ++ List.replicate (4 - k) 0
theorem pad_zero (zs : List Int) : pad zs 0 = [0, 0, 0, 0] := by simp [pad, List.replicate]
theorem pad_all {zs : List Int} (h : zs.length = 4) : pad zs 4 = zs := by simp [pad, List.take_of_length_le, h]
theorem pad_length {zs : List Int} {k : Nat} (h : zs.length = 4) (hk : k ≤ 4) : (pad zs k).length = 4 := by simp [pad]; omega
theorem pad_set {zs : List Int} {k : Nat} (h : zs.length = 4) (hk : k < 4) : (pad zs k).set k (zs[k]'(by omega)) = pad zs (k + 1) := by
  apply List.ext_getElem?
  intro i
  unfold pad
  rw [List.getElem?_set, List.length_append, List.length_take, List.length_replicate]
  have hk' : k < zs.length := by omega
  by_cases e : k = i
  · subst e
    rw [if_pos rfl, if_pos (by omega), List.getElem?_append_left (by simp; omega), List.getElem?_take, if_pos (by omega), List.getElem?_eq_getElem hk']
  · rw [if_neg e]
    by_cases hi : i < k
    · rw [List.getElem?_append_left (by simp; omega), List.getElem?_append_left (by simp; omega), List.getElem?_take, List.getElem?_take, if_pos hi, if_pos (by omega)]
    · rw [List.getElem?_append_right (by simp; omega), List.getElem?_append_right (by simp; omega), List.length_take, List.length_take, List.getElem?_replicate, List.getElem?_replicate]
      by_cases h4 : i < 4
      · rw [if_pos (by omega), if_pos (by omega)]
      · rw [if_neg (by omega), if_neg (by omega)]
/-- Which refs the first k of us name. -/
def named (us : List Up) (k : Nat) (i : Nat) : Bool := (us.take k).any (fun u => u.r.toNat == i)
def nameds (us : List Up) (k : Nat) : List Value := [.bool (named us k 0), .bool (named us k 1), .bool (named us k 2), .bool (named us k 3)]
theorem named_zero (us : List Up) (i : Nat) : named us 0 i = false := by simp [named]
theorem nameds_zero (us : List Up) : nameds us 0 = [.bool false, .bool false, .bool false, .bool false] := by simp [nameds, named_zero]
theorem named_next {us : List Up} {k : Nat} (hk : k < us.length) (i : Nat) : named us (k + 1) i = (named us k i || us[k].r.toNat == i) := by
  unfold named
  rw [List.take_succ_eq_append_getElem hk, List.any_append]
  simp
theorem nameds_next {us : List Up} {k : Nat} (hk : k < us.length) {m : Nat} (hm : us[k].r = (m : Int)) (h4 : m < 4) : (nameds us k).set m (.bool true) = nameds us (k + 1) := by
  unfold nameds
  simp only [named_next hk, hm, Int.toNat_natCast]
  match m, h4 with
  | 0, _ => simp
  | 1, _ => simp
  | 2, _ => simp
  | 3, _ => simp
theorem nameds_get (us : List Up) (k : Nat) {m : Nat} (h4 : m < 4) : (nameds us k)[m]'(by simpa [nameds] using h4) = .bool (named us k m) := by
  unfold nameds
  match m, h4 with
  | 0, _ => rfl
  | 1, _ => rfl
  | 2, _ => rfl
  | 3, _ => rfl
theorem named_iff (us : List Up) (i : Nat) : named us us.length i = true ↔ ∃ u ∈ us, u.r.toNat = i := by
  unfold named
  rw [List.take_length, List.any_eq_true]
  simp
/-- None of the first k of b names a ref of a. -/
def Apart (a b : List Up) (k : Nat) : Prop := ∀ i (h : i < b.length), i < k → named a a.length b[i].r.toNat = false
theorem Apart.zero (a b : List Up) : Apart a b 0 := fun _ _ h => absurd h (Nat.not_lt_zero _)
theorem Apart.next {a b : List Up} {k : Nat} (h : Apart a b k) (hk : k < b.length) (e : named a a.length b[k].r.toNat = false) : Apart a b (k + 1) := fun i hi hl => by
  by_cases e2 : i = k
  · subst e2; exact e
  · exact h i hi (by omega)
theorem Apart.none {a b : List Up} (h : Apart a b b.length) : ¬ Cross a b := fun ⟨_, _, u, hu, v, hv, e⟩ => by
  obtain ⟨i, hi, rfl⟩ := List.getElem_of_mem hv
  have h1 := h i hi hi
  have h2 := (named_iff a b[i].r.toNat).2 ⟨u, hu, by rw [e]⟩
  rw [h1] at h2
  cases h2
theorem cross_named {a b : List Up} (ha : UV a) (hb : UV b) {k : Nat} (hk : k < b.length) (e : named a a.length b[k].r.toNat = true) : Cross a b := by
  obtain ⟨u, hu, h⟩ := (named_iff a _).1 e
  have h1 := (ha.2.mem u hu).2.1
  have h2 := (hb.2.mem _ (List.getElem_mem hk)).2.1
  exact ⟨ha, hb, u, hu, _, List.getElem_mem hk, by omega⟩
/-- The ref of the last of the first k; -1 if there is none. -/
def lastR (us : List Up) (k : Nat) : Int := if h : 0 < k ∧ k - 1 < us.length then (us[k - 1]'h.2).r else -1
theorem lastR_zero (us : List Up) : lastR us 0 = -1 := by unfold lastR; rw [dif_neg (by omega)]
theorem lastR_next {us : List Up} {k : Nat} (hk : k < us.length) : lastR us (k + 1) = us[k].r := by
  unfold lastR
  rw [dif_pos (by omega)]
  rfl
theorem okU_iff {us : List Up} {k : Nat} (hk : k < us.length) : OkU us k hk ↔ Ok us[k] ∧ lastR us k < us[k].r := by
  unfold OkU lastR
  refine and_congr_right fun h => ?_
  by_cases e : k = 0
  · subst e
    rw [dif_neg (by omega)]
    exact ⟨fun _ => by have := h.1.1; omega, fun _ => .inl rfl⟩
  · rw [dif_pos ⟨by omega, by omega⟩]
    exact ⟨fun h2 => by rcases h2 with h2 | ⟨_, h2⟩; exact absurd h2 e; exact h2, fun h2 => .inr ⟨by omega, h2⟩⟩
end Go.Proofs.YteeffchnbkkpfabDoor
namespace Go.Proofs.YteeffchnbkkpfabDoor
open Go.RowKit Wo Pu Rf

/-- A drawn transaction. -/
def TxnDrawn (R : Nat) (q : Int) (w : World) (e : Ending) (w' : World) : Prop := ∃ x : Int, e = .returned (.int .i64 x) ∧ -1 ≤ x ∧ x ≤ 12 ∧ Rd w' R (q + 2) ∧ But R w w'
set_option maxHeartbeats 4000000 in
theorem l92Txn_any (R : Nat) (q : Int) (w : World) (hR : Rd w R q) (hq : q ≤ 900000000) :
    Calls Tryd.prog 58 #[.pointer (some ⟨R, 0, none⟩)] w (TxnDrawn R q w) := by
  go_enter Tryd.func58, Tryd.ntmps58
  go_wp2_with fail
  refine (pick_any R q 24 w hR (by omega) (by omega) (by omega)).mono ?_
  rintro e w1 ⟨n1, rfl, a0, a1, hR1, hT1⟩
  by_cases h0 : n1 = 0
  · have e0 : (n1 == 0) = true := by rw [h0]; rfl
    clear h0
    go_wp2_with fail
    have hbA := (Below.refl w1.heap.size w1).alloc (Nat.le_refl _) (.cells #[.int .i64 (-1), .int .i64 11, .int .i64 12] 3)
    have hz := hR1.lt
    refine (pick_any R (q + 1) 3 _ (hR1.below hbA hz) (by omega) (by omega) (by omega)).mono ?_
    rintro e w2 ⟨n2, rfl, b0, b1, hR2, hT2⟩
    have bx : Box3 w2 w1.heap.size (.int .i64 (-1)) (.int .i64 11) (.int .i64 12) := hT2.box (Box3.new_ w1 _ _ _ _) (by omega)
    have hTT := (hT1.trans (.of_below hbA)).trans hT2
    obtain ⟨_, p0, p1, p2⟩ := bx
    have key : n2 = 0 ∨ n2 = 1 ∨ n2 = 2 := by omega
    rcases key with rfl | rfl | rfl
    · go_wp2
      go_ret
      exact ⟨_, rfl, by omega, by omega, hR2.more (by omega), hTT⟩
    · go_wp2
      go_ret
      exact ⟨_, rfl, by omega, by omega, hR2.more (by omega), hTT⟩
    · go_wp2
      go_ret
      exact ⟨_, rfl, by omega, by omega, hR2.more (by omega), hTT⟩
  · have e0 : (n1 == 0) = false := by rw [beq_eq_false_iff_ne]; omega
    go_wp2_with fail
    refine (pick_any R (q + 1) 5 _ hR1 (by omega) (by omega) (by omega)).mono ?_
    rintro e w2 ⟨n2, rfl, b0, b1, hR2, hT2⟩
    go_wp2
    go_ret
    exact ⟨_, rfl, by omega, by omega, hR2.more (by omega), hT1.trans hT2⟩
/-- Drawn locks. -/
def LocksDrawn (R : Nat) (q : Int) (w : World) (e : Ending) (w' : World) : Prop := ∃ v zs, e = .returned v ∧ OwnI w' w.heap.size v zs ∧ zs.length ≤ 4 ∧ Rd w' R (q + 12) ∧ But R w w'
end Go.Proofs.YteeffchnbkkpfabDoor
namespace Go.Proofs.YteeffchnbkkpfabDoor
open Go.RowKit Wo Pu Rf

/-- Drawn locks and a transaction. -/
def LockTxn (w : World) (e : Ending) (w' : World) : Prop := ∃ A c zs t, e = .returned (.tuple #[.slice A zs.length c, .int .i64 t]) ∧ Row w' w'.heap.size A (ints zs) ∧ zs.length ≤ 4 ∧ -1 ≤ t ∧ t ≤ 12 ∧ Below w.heap.size w w'
/-- Drawn locks, a transaction and updates. -/
def LockUps (w : World) (e : Ending) (w' : World) : Prop := ∃ A c zs t A2 c2 us, e = .returned (.tuple #[.slice A zs.length c, .int .i64 t, .slice A2 us.length c2]) ∧ Row w' w'.heap.size A (ints zs) ∧ zs.length ≤ 4 ∧ -1 ≤ t ∧ t ≤ 12 ∧ Row w' w'.heap.size A2 (upsV us) ∧ us.length ≤ 4 ∧ Below w.heap.size w w'
theorem row_four (w : World) (t : TypeId) : Row (w.alloc (.cells #[.int .i64 (-1), .int .i64 (-1), .int .i64 (-1), .int .i64 (-1)] t)) (w.alloc (.cells #[.int .i64 (-1), .int .i64 (-1), .int .i64 (-1), .int .i64 (-1)] t)).heap.size (some ⟨w.heap.size, 0, none⟩) (ints [-1, -1, -1, -1]) := by
  refine .inr ⟨_, rfl, by simp, fun j u hu => ?_⟩
  rw [add_lit]
  have e := heap_alloc_new w (.cells #[.int .i64 (-1), .int .i64 (-1), .int .i64 (-1), .int .i64 (-1)] t)
  simp only [World.cell?, e]
  match j with
  | 0 => simp [ints] at hu; subst hu; simp
  | 1 => simp [ints] at hu; subst hu; simp
  | 2 => simp [ints] at hu; subst hu; simp
  | 3 => simp [ints] at hu; subst hu; simp
  | j + 4 => simp [ints] at hu
end Go.Proofs.YteeffchnbkkpfabDoor
