/-
  Plain facts on objects: lists of links, texts, ids. No program is named here.
  Words for memory: a slice whose cells are known, kept over what a call makes.
  Words and walks that the later chapters share: what a call leaves, rows and blocks of the call's own, the reader of a code and its picks, a drawn text.
  Words and walks for lists of integers: copied, compared, marked, of the call's own.
  What an argument that reads as data gives the walks: codes, lists of ints, lists of updates.
  Plain facts on refs and updates: which are valid, what updates make of refs, how refs differ, which updates cross. No program is named here.
  Lists of updates in memory: three cells each.
  Blocks of one, two and three cells; rows and blocks of different types.
  What a list of updates that reads as data gives the walks.
  Plain facts on locks: which are valid, what taking and freeing make of them, whose they are. No program is named here.
  Plain facts on shards: what their records say of refs, locks and transactions. No program is named here.
  Records and shards in memory: three cells each; shards are one cell, states two.
  What a shard that reads as data gives the walks.
  Plain facts on coordinators: what their transactions, votes and order say. No program is named here.
  Coordinators in memory: parts, transactions, coordinators, as they are read.
  Blocks of a colour; blocks from a number up to another: what is written, and what stays.
  Coordinators of the call's own, all lists of which lie apart: parts, votes and updates of a transaction lie in blocks of a colour of its own.
  The coordinator with the slices $SA and $SB is stored as the answer, with the word $BB.
  Walks: which refs and updates are valid, by the model; what it makes of them.
-/
import Derived.Below
import Derived.WalkKit
import Derived.WalkSpells
import Derived.WalkLawsBesides
import Derived.Deep.Draws
import Derived.Deep.AppendLies
import Derived.Test.YteaibflloeipaaaGreatDoorProg
import Derived.Deep.QuietTactic
import Derived.BigQuiet
import Derived.Maps.AppendAt
import Derived.Maps.RangeWalk
import Derived.Laws.BytesString
import Derived.Deep.RegionHeld3
import Derived.Deep.RegionLaw
import Derived.Lib.AppendStr
import Derived.IntWalk
import Derived.ProofKit
import Derived.Lib.SmallJoins
import Derived.Deep.Slices
import Derived.Deep.Strs
import Derived.OpenShut
import Derived.ChangeMaps5
import Derived.OwnWalk
import Derived.Laws.OwnMore
namespace Go.Proofs.YteaibflloeipaaaGreatDoor
namespace Pu

def ascB (lo : Int) : List Int → Bool
  | [] => true
  | x :: xs => decide (lo < x) && (decide (x < 991) && ascB x xs)

def kindB (k : Int) (n m : Nat) : Bool :=
  if k = 1 then decide (n = 0) else if k = 2 then decide (m = 0) else if k = 3 then decide (0 < n) else false

def vldB (k : Int) (zs : List Int) (m : Nat) : Bool := ascB (-1) zs && (decide (zs.length ≤ 4) && (decide (m ≤ 8) && kindB k zs.length m))

def mixL (n : Int) : List Int → Int
  | [] => n
  | x :: xs => mixL ((n * 613 + x + 1) % 991) xs
def mixT (n : Int) : List UInt8 → Int
  | [] => n
  | b :: bs => mixT ((n * 257 + (b.toNat : Int) + 1) % 991) bs
def idOf (k : Int) (zs : List Int) (bs : List UInt8) : Int := mixT (mixL (100 * k + zs.length) zs) bs
def oid (k : Int) (zs : List Int) (bs : List UInt8) : Int := if vldB k zs bs.length = true then idOf k zs bs else -1

theorem ascB_range {lo : Int} {zs : List Int} (h : ascB lo zs = true) : ∀ x ∈ zs, lo < x ∧ x < 991 := by
  induction zs generalizing lo with
  | nil => intro x hx; cases hx
  | cons a as1 ih =>
    simp only [ascB, Bool.and_eq_true, decide_eq_true_eq] at h
    intro x hx
    rcases List.mem_cons.1 hx with rfl | hx
    · exact ⟨h.1, h.2.1⟩
    · have := ih h.2.2 x hx
      exact ⟨by omega, this.2⟩

theorem mixL_range {n : Int} {zs : List Int} (h0 : 0 ≤ n) (h1 : n < 991) : 0 ≤ mixL n zs ∧ mixL n zs < 991 := by
  induction zs generalizing n with
  | nil => exact ⟨h0, h1⟩
  | cons a as1 ih => exact ih (by omega) (by omega)
theorem mixT_range {n : Int} {bs : List UInt8} (h0 : 0 ≤ n) (h1 : n < 991) : 0 ≤ mixT n bs ∧ mixT n bs < 991 := by
  induction bs generalizing n with
  | nil => exact ⟨h0, h1⟩
  | cons a as1 ih => exact ih (by omega) (by omega)

theorem vldB_parts {k : Int} {zs : List Int} {m : Nat} (h : vldB k zs m = true) : ascB (-1) zs = true ∧ zs.length ≤ 4 ∧ m ≤ 8 ∧ 1 ≤ k ∧ k ≤ 3 := by
  simp only [vldB, Bool.and_eq_true, decide_eq_true_eq] at h
  obtain ⟨h1, h2, h3, h4⟩ := h
  refine ⟨h1, h2, h3, ?_⟩
  unfold kindB at h4
  by_cases e1 : k = 1
  · omega
  by_cases e2 : k = 2
  · omega
  by_cases e3 : k = 3
  · omega
  · simp [e1, e2, e3] at h4

theorem idOf_range {k : Int} {zs : List Int} {bs : List UInt8} (h : vldB k zs bs.length = true) : 0 ≤ idOf k zs bs ∧ idOf k zs bs < 991 := by
  obtain ⟨_, h2, _, h4, h5⟩ := vldB_parts h
  obtain ⟨a, b⟩ := mixL_range (n := 100 * k + zs.length) (zs := zs) (by omega) (by omega)
  exact mixT_range a b

theorem oid_range (k : Int) (zs : List Int) (bs : List UInt8) : -1 ≤ oid k zs bs ∧ oid k zs bs < 991 := by
  unfold oid
  split
  · rename_i h; have := idOf_range h; omega
  · omega
theorem oid_valid {k : Int} {zs : List Int} {bs : List UInt8} : (0 ≤ oid k zs bs) ↔ vldB k zs bs.length = true := by
  unfold oid
  split
  · rename_i h; have := idOf_range h; exact ⟨fun _ => h, fun _ => this.1⟩
  · rename_i h; exact ⟨fun e => by omega, fun e => absurd e h⟩

theorem ascB_drop {lo : Int} {zs : List Int} {k : Nat} (hk : k < zs.length) : ascB lo (zs.drop k) = (decide (lo < zs[k]) && (decide (zs[k] < 991) && ascB zs[k] (zs.drop (k + 1)))) := by
  rw [List.drop_eq_getElem_cons hk]; rfl
theorem mixL_drop {n : Int} {zs : List Int} {k : Nat} (hk : k < zs.length) : mixL n (zs.drop k) = mixL ((n * 613 + zs[k] + 1) % 991) (zs.drop (k + 1)) := by
  rw [List.drop_eq_getElem_cons hk]; rfl
theorem mixT_drop {n : Int} {bs : List UInt8} {k : Nat} (hk : k < bs.length) : mixT n (bs.drop k) = mixT ((n * 257 + (bs[k].toNat : Int) + 1) % 991) (bs.drop (k + 1)) := by
  rw [List.drop_eq_getElem_cons hk]; rfl
end Pu
end Go.Proofs.YteaibflloeipaaaGreatDoor
namespace Go.Proofs.YteaibflloeipaaaGreatDoor
open Go.RowKit
namespace Wo

theorem add_block (a : Addr) (n : Nat) : (a.add n).block = a.block := by
  unfold Addr.add
  split
  · rfl
  · rfl

theorem add_zero (a : Addr) : a.add 0 = a := by simp [Addr.add]

/-- The slice with head A holds the cells vs, and lies below block B. -/
def Row (w : World) (B : Nat) (A : Option Addr) (vs : List Value) : Prop :=
  vs = [] ∨ ∃ ad, A = some ad ∧ ad.block < B ∧ ∀ j v, vs[j]? = some v → w.cell? (ad.add j) = some v

theorem Row.none_ (w : World) (B : Nat) (A : Option Addr) : Row w B A [] := .inl rfl
theorem Row.head {w : World} {B : Nat} {A : Option Addr} {vs : List Value} (h : Row w B A vs) (hk : 0 < vs.length) :
    ∃ ad, A = some ad ∧ ad.block < B ∧ ∀ j (hj : j < vs.length), w.cell? (ad.add j) = some vs[j] := by
  rcases h with rfl | ⟨ad, e, hb, hc⟩
  · simp at hk
  · exact ⟨ad, e, hb, fun j hj => hc j _ (List.getElem?_eq_getElem hj)⟩
theorem Row.get {w : World} {B : Nat} {A : Option Addr} {vs : List Value} (h : Row w B A vs) {k : Nat} (hk : k < vs.length) :
    ∃ ad, A = some ad ∧ ad.block < B ∧ w.cell? (ad.add k) = some vs[k] := by
  obtain ⟨ad, e, hb, hc⟩ := h.head (by omega)
  exact ⟨ad, e, hb, hc k hk⟩
theorem Row.keep {w w' : World} {B : Nat} {A : Option Addr} {vs : List Value} (h : Row w B A vs) (hk : ∀ p : Addr, p.block < B → w'.cell? p = w.cell? p) : Row w' B A vs := by
  rcases h with rfl | ⟨ad, e, hb, hc⟩
  · exact .inl rfl
  · exact .inr ⟨ad, e, hb, fun j v hv => by rw [hk _ (by rw [add_block]; exact hb)]; exact hc j v hv⟩
theorem Row.more {w : World} {B B' : Nat} {A : Option Addr} {vs : List Value} (h : Row w B A vs) (hB : B ≤ B') : Row w B' A vs := by
  rcases h with rfl | ⟨ad, e, hb, hc⟩
  · exact .inl rfl
  · exact .inr ⟨ad, e, by omega, hc⟩
theorem Row.below {w w' : World} {B C : Nat} {A : Option Addr} {vs : List Value} (h : Row w B A vs) (hb : Below C w w') (hC : B ≤ C) : Row w' B A vs :=
  h.keep fun p hp => hb.cell (by omega)
theorem Row.alloc {w : World} {B : Nat} {A : Option Addr} {vs : List Value} (h : Row w B A vs) (hB : B ≤ w.heap.size) (o : Obj) : Row (w.alloc o) B A vs :=
  h.below ((Below.refl B w).alloc hB o) (Nat.le_refl _)
theorem Row.drewN {w : World} {B : Nat} {A : Option Addr} {vs : List Value} (h : Row w B A vs) (n : Nat) : Row (w.drewN n) B A vs := h
theorem Row.of_own {w : World} {base : Nat} {e : TypeId} {size n c : Nat} {A : Option Addr} {xs : List Value} (h : w.ownsRow base e size (.slice A n c) n xs) (hn : xs ≠ [] → 0 < n) : Row w w.heap.size A xs := by
  by_cases hx : xs = []
  · exact .inl hx
  · obtain ⟨g, cap, hv, _, hlt⟩ := h.form (hn hx)
    have hA : A = some ⟨g, 0, none⟩ := by injection hv
    subst hA
    exact .inr ⟨_, rfl, hlt, h.cells (g := g) rfl⟩

/-- Integers. -/
def ints (zs : List Int) : List Value := zs.map (Value.int .i64)
theorem ints_length (zs : List Int) : (ints zs).length = zs.length := List.length_map _
theorem ints_get (zs : List Int) (k : Nat) (h : k < zs.length) : (ints zs)[k]'(by rw [ints_length]; exact h) = .int .i64 zs[k] := by simp [ints]
theorem Row.int_ {w : World} {B : Nat} {A : Option Addr} {zs : List Int} (h : Row w B A (ints zs)) {k : Nat} (hk : k < zs.length) :
    ∃ ad, A = some ad ∧ ad.block < B ∧ w.cell? (ad.add k) = some (.int .i64 zs[k]) := by
  obtain ⟨ad, e, hb, hc⟩ := h.get (k := k) (by rw [ints_length]; exact hk)
  exact ⟨ad, e, hb, by rw [hc, ints_get]⟩

theorem hid {p : Prop} (h : p) : Hid p := h
theorem bcell {B : Nat} {W w1 : World} (hb : Below B W w1) : (∀ b o, b < B → w1.cell? ⟨b, o, none⟩ = W.cell? ⟨b, o, none⟩) ∧ (∀ b o, b < B → w1.frozen? ⟨b, o, none⟩ = W.frozen? ⟨b, o, none⟩) :=
  ⟨fun b o h => hb.cell (p := ⟨b, o, none⟩) h, fun b o h => hb.frozen (p := ⟨b, o, none⟩) h⟩
theorem Below.drewN {B : Nat} {a w : World} (h : Below B a w) (n : Nat) : Below B a (w.drewN n) := ⟨h.os, h.tape, h.output, h.size, h.block⟩
end Wo
end Go.Proofs.YteaibflloeipaaaGreatDoor
namespace Go.Proofs.YteaibflloeipaaaGreatDoor
open Go.RowKit Wo Pu

def Quiet (v : Value) (w : World) (e : Ending) (w' : World) : Prop := e = .returned v ∧ ∃ d, w' = w.drewN d
theorem Quiet.intro_ {v : Value} {w : World} (d : Nat) : Quiet v w (.returned v) (w.drewN d) := ⟨rfl, d, rfl⟩

/-- The world is the old one, but for draws. -/
def Dr (w w' : World) : Prop := ∃ d, w' = w.drewN d
theorem Dr.refl (w : World) : Dr w w := ⟨0, rfl⟩
theorem Dr.drewN {w w' : World} (h : Dr w w') (n : Nat) : Dr w (w'.drewN n) := by
  obtain ⟨d, rfl⟩ := h
  exact ⟨d + n, World.drewN_drewN _ _ _⟩
theorem Dr.row {w w' : World} (h : Dr w w') {B : Nat} {A : Option Addr} {vs : List Value} (hr : Row w B A vs) : Row w' B A vs := by
  obtain ⟨d, rfl⟩ := h
  exact hr.drewN d
theorem Dr.quiet {w w' : World} (h : Dr w w') (v : Value) : Quiet v w (.returned v) w' := ⟨rfl, h⟩

def Same (v : Value) (w : World) (e : Ending) (w' : World) : Prop := e = .returned v ∧ w = w'
/-- It returns v; what was there is as it was. -/
def Ret (v : Value) (w : World) (e : Ending) (w' : World) : Prop := e = .returned v ∧ Below w.heap.size w w'
theorem Dr.below {w w' : World} (h : Dr w w') (B : Nat) : Below B w w' := by
  obtain ⟨d, rfl⟩ := h
  exact Wo.Below.drewN (Below.refl _ _) _

theorem Ret.mk_ {v : Value} {w w' : World} (h : Below w.heap.size w w') : Ret v w (.returned v) w' := ⟨rfl, h⟩

theorem Ret.bool_ {a b : Bool} {w w' : World} (h : b = a) (hb : Below w.heap.size w w') : Ret (.bool a) w (.returned (.bool b)) w' := by subst h; exact ⟨rfl, hb⟩
theorem emp_ (s : ByteArray) : s.toList.isEmpty = decide (s.size = 0) := by
  rw [← decide_eq_emptyBytes s]
  simp

theorem info_of {P : Program} {t : TypeId} {z : Value} {a b : Nat} (h : (P.info? t).map (fun i => (i.zero, i.size, i.bytes)) = some (some z, a, b)) : ∃ i, P.info? t = some i ∧ i.zero = some z ∧ i.size = a ∧ i.bytes = b := by
  cases hi : P.info? t with
  | none => rw [hi] at h; cases h
  | some i =>
    rw [hi] at h
    simp only [Option.map_some, Option.some.injEq, Prod.mk.injEq] at h
    exact ⟨i, rfl, h.1, h.2.1, h.2.2⟩

/-- A slice of the call's own, in a block from B on, with just the cells xs. -/
def Mine (w : World) (B : Nat) (e : TypeId) (sz g n : Nat) (xs : List Value) : Prop := w.ownsRow B e sz (.slice (some ⟨g, 0, none⟩) n n) n xs
theorem Mine.row {w : World} {B g n : Nat} {e : TypeId} {sz : Nat} {xs : List Value} (h : Mine w B e sz g n xs) : Row w w.heap.size (some ⟨g, 0, none⟩) xs := by
  refine Row.of_own h fun hx => ?_
  have h1 := h.1
  rcases Nat.eq_zero_or_pos n with h0 | h0
  · subst h0
    exact absurd (List.eq_nil_of_length_eq_zero (by simpa using h1)) hx
  · exact h0
theorem Mine.lt {w : World} {B g n : Nat} {e : TypeId} {sz : Nat} {xs : List Value} (h : Mine w B e sz g n xs) : B ≤ g ∧ g < w.heap.size := World.ownsRow.lt h g rfl
theorem Mine.len {w : World} {B g n : Nat} {e : TypeId} {sz : Nat} {xs : List Value} (h : Mine w B e sz g n xs) : xs.length = n * sz := h.1
theorem Mine.set_ {w : World} {B g n : Nat} {e : TypeId} {sz : Nat} {xs : List Value} (h : Mine w B e sz g n xs) (j : Nat) (u : Value) : Mine (w.setCell ⟨g, j, none⟩ u) B e sz g n (xs.set j u) := (World.ownsRow.stored h j u).1
theorem Mine.below {w w' : World} {B C g n : Nat} {e : TypeId} {sz : Nat} {xs : List Value} (h : Mine w B e sz g n xs) (hb : Below C w w') (hC : g < C) : Mine w' B e sz g n xs := by
  obtain ⟨h1, h2⟩ := h
  refine ⟨h1, ?_⟩
  rcases h2 with ⟨h2, _⟩ | ⟨g', cap, cur, hv, hB, hh, hr⟩
  · cases h2
  · have hg : g' = g := by injection hv with e1; injection e1 with e1; injection e1 with e1; exact e1.symm
    subst hg
    exact .inr ⟨g', cap, cur, hv, hB, by rw [hb.block g' hC]; exact hh, hr⟩
theorem Mine.far {w : World} {B g n : Nat} {e : TypeId} {sz : Nat} {xs : List Value} (h : Mine w B e sz g n xs) {p : Addr} (hp : g ≠ p.block) (u : Value) : Mine (w.setCell p u) B e sz g n xs := by
  obtain ⟨h1, h2⟩ := h
  refine ⟨h1, ?_⟩
  rcases h2 with ⟨h2, _⟩ | ⟨g', cap, cur, hv, hB, hh, hr⟩
  · cases h2
  · have hg : g' = g := by injection hv with e1; injection e1 with e1; injection e1 with e1; exact e1.symm
    subst hg
    exact .inr ⟨g', cap, cur, hv, hB, by rw [Below.heap_setCell _ _ _ _ hp]; exact hh, hr⟩
theorem Mine.cell {w : World} {B g n : Nat} {e : TypeId} {xs : List Value} (h : Mine w B e 1 g n xs) {j : Nat} (hj : j < n) : ∃ v, w.cell? ⟨g, j, none⟩ = some v := by
  have hl := h.len
  exact ⟨_, (World.ownsRow.cellAt h j (by omega)).trans (List.getElem?_eq_getElem (by omega))⟩
theorem Mine.frozen {w : World} {B g n : Nat} {e : TypeId} {sz : Nat} {xs : List Value} (h : Mine w B e sz g n xs) (j : Nat) : w.frozen? ⟨g, j, none⟩ = false := World.ownsRow.frozenAt h j
theorem Mine.base {w : World} {B B' g n : Nat} {e : TypeId} {sz : Nat} {xs : List Value} (h : Mine w B e sz g n xs) (hB : B' ≤ B) : Mine w B' e sz g n xs := by
  obtain ⟨h1, h2⟩ := h
  refine ⟨h1, ?_⟩
  rcases h2 with h2 | ⟨g', cap, cur, hv, hb, hr⟩
  · exact .inl h2
  · exact .inr ⟨g', cap, cur, hv, by omega, hr⟩

/-- A block of three cells that read so. -/
def Box3 (w : World) (g : Nat) (v0 v1 v2 : Value) : Prop := g < w.heap.size ∧ w.cell? ⟨g, 0, none⟩ = some v0 ∧ w.cell? ⟨g, 1, none⟩ = some v1 ∧ w.cell? ⟨g, 2, none⟩ = some v2
theorem Box3.below {w w' : World} {g C : Nat} {v0 v1 v2 : Value} (h : Box3 w g v0 v1 v2) (hb : Below C w w') (hC : g < C) : Box3 w' g v0 v1 v2 := by
  obtain ⟨h0, h1, h2, h3⟩ := h
  exact ⟨Nat.lt_of_lt_of_le h0 hb.size, by rw [(bcell hb).1 _ _ hC]; exact h1, by rw [(bcell hb).1 _ _ hC]; exact h2, by rw [(bcell hb).1 _ _ hC]; exact h3⟩
theorem Box3.new_ (w : World) (t : TypeId) (v0 v1 v2 : Value) : Box3 (w.alloc (.cells #[v0, v1, v2] t)) w.heap.size v0 v1 v2 := by
  refine ⟨by simp, ?_, ?_, ?_⟩ <;> simp [go_sem]

/-- A row of one's own cells, the first k of which are those wanted. -/
theorem take_set {xs ys : List Value} {k : Nat} (h : xs.take k = ys.take k) (hx : k < xs.length) (hy : k < ys.length) : (xs.set k ys[k]).take (k + 1) = ys.take (k + 1) := by
  rw [List.take_succ_eq_append_getElem (by simpa using hx), List.take_succ_eq_append_getElem hy]
  rw [List.take_set_of_le (Nat.le_refl k), h]
  simp

/-- Only block R, of those that were there, has turned. -/
abbrev But (R : Nat) (w w' : World) : Prop := w.grownBy w' (some R)
theorem But.refl (R : Nat) (w : World) : But R w w := World.grownBy.refl w _
theorem But.of_below {R : Nat} {w w' : World} (h : Below w.heap.size w w') : But R w w' := ⟨h.os, h.tape, h.output, h.size, fun k hk _ => h.block k hk⟩
theorem But.trans {R : Nat} {a b c : World} (h : But R a b) (k : But R b c) : But R a c := World.grownBy.trans h k
theorem But.below {R B : Nat} {w w' : World} (h : But R w w') (hB : B ≤ w.heap.size) (hR : B ≤ R) : Below B w w' :=
  ⟨h.os, h.tape, h.output, h.size, fun k hk => h.block k (by omega) (fun e => by injection e with e; omega)⟩
theorem But.cell {R : Nat} {w w' : World} (h : But R w w') {b : Nat} (o : Nat) (hb : b < w.heap.size) (hR : b ≠ R) : w'.cell? ⟨b, o, none⟩ = w.cell? ⟨b, o, none⟩ :=
  World.cell?_of_block (w := w) (a := ⟨b, o, none⟩) (h.block b hb (fun e => by injection e with e; omega))
theorem But.frozen {R : Nat} {w w' : World} (h : But R w w') {b : Nat} (o : Nat) (hb : b < w.heap.size) (hR : b ≠ R) : w'.frozen? ⟨b, o, none⟩ = w.frozen? ⟨b, o, none⟩ :=
  World.frozen?_of_block (w := w) (a := ⟨b, o, none⟩) (h.block b hb (fun e => by injection e with e; omega))
theorem But.mine {R : Nat} {w w' : World} (h : But R w w') {B g n : Nat} {e : TypeId} {sz : Nat} {xs : List Value} (hx : Mine w B e sz g n xs) (hg : g ≠ R) : Mine w' B e sz g n xs :=
  World.ownsRow.kept hx h (.inr (fun e => hg (by simpa [Value.ownBlock] using e)))
theorem But.box {R : Nat} {w w' : World} (h : But R w w') {g : Nat} {v0 v1 v2 : Value} (hx : Box3 w g v0 v1 v2) (hg : g ≠ R) : Box3 w' g v0 v1 v2 := by
  obtain ⟨h0, h1, h2, h3⟩ := hx
  exact ⟨Nat.lt_of_lt_of_le h0 h.size, by rw [h.cell _ h0 hg]; exact h1, by rw [h.cell _ h0 hg]; exact h2, by rw [h.cell _ h0 hg]; exact h3⟩

/-- Bytes. -/
def bytesV (ns : List Int) : List Value := ns.map (Value.int .u8)
theorem bytesV_length (ns : List Int) : (bytesV ns).length = ns.length := List.length_map _
theorem Wo.Row.byte_ {w : World} {B : Nat} {A : Option Addr} {zs : List Int} (h : Row w B A (bytesV zs)) {k : Nat} (hk : k < zs.length) :
    ∃ ad, A = some ad ∧ ad.block < B ∧ w.cell? (ad.add k) = some (.int .u8 zs[k]) := by
  obtain ⟨ad, e, hb, hc⟩ := h.get (k := k) (by rw [bytesV_length]; exact hk)
  exact ⟨ad, e, hb, by rw [hc]; simp [bytesV]⟩

/-- The reader in block R: at most q picks have been made. -/
def Rd (w : World) (R : Nat) (q : Int) : Prop := ∃ (A : Option Addr) (c : Nat) (ns : List Int) (p : Int), w.heap[R]? = some (.cells #[.slice A ns.length c, .int .i64 p] 110 (0, 0)) ∧
  0 ≤ p ∧ p ≤ q ∧ ns.length ≤ 2000 ∧ Row w R A (bytesV ns) ∧ ∀ n ∈ ns, 0 ≤ n ∧ n < 256
theorem Rd.lt {w : World} {R : Nat} {q : Int} (h : Rd w R q) : R < w.heap.size := by
  obtain ⟨A, c, ns, p, hh, _⟩ := h
  rcases Nat.lt_or_ge R w.heap.size with h1 | h1
  · exact h1
  · rw [Array.getElem?_eq_none h1] at hh; cases hh
theorem Rd.more {w : World} {R : Nat} {q q' : Int} (h : Rd w R q) (hq : q ≤ q') : Rd w R q' := by
  obtain ⟨A, c, ns, p, h1, h2, h3, h4⟩ := h
  exact ⟨A, c, ns, p, h1, h2, by omega, h4⟩
theorem Rd.below {w w' : World} {R C : Nat} {q : Int} (h : Rd w R q) (hb : Below C w w') (hC : R < C) : Rd w' R q := by
  obtain ⟨A, c, ns, p, h1, h2, h3, h4, h5, h6⟩ := h
  exact ⟨A, c, ns, p, by rw [hb.block R hC]; exact h1, h2, h3, h4, h5.below hb (by omega), h6⟩
theorem Rd.but {w w' : World} {R g : Nat} {q : Int} (h : Rd w R q) (hb : But g w w') (hC : R < g) : Rd w' R q := by
  have hl := h.lt
  rcases Nat.lt_or_ge g w.heap.size with hg | hg
  · exact h.below (hb.below (B := g) (by omega) (Nat.le_refl _)) hC
  · exact h.below (hb.below (B := w.heap.size) (Nat.le_refl _) hg) hl

theorem xor_range (a b : Int) (ha : 0 ≤ a) (ha' : a < 9223372036854775808) (hb : 0 ≤ b) (hb' : b < 9223372036854775808) : 0 ≤ bits .xor .i64 a b := by
  obtain ⟨m, rfl⟩ := Int.eq_ofNat_of_zero_le ha
  obtain ⟨n, rfl⟩ := Int.eq_ofNat_of_zero_le hb
  have e : ∀ k : Nat, k < 9223372036854775808 → (BitVec.ofInt 64 (k : Int)).toNat = k := fun k hk => by
    rw [BitVec.ofInt_natCast, BitVec.toNat_ofNat]
    exact Nat.mod_eq_of_lt (by omega)
  have hx : m ^^^ n < 2 ^ 63 := Nat.xor_lt_two_pow (by omega) (by omega)
  show 0 ≤ IntKind.i64.wrap ((BitVec.ofInt 64 (m : Int) ^^^ BitVec.ofInt 64 (n : Int)).toNat : Int)
  rw [BitVec.toNat_xor, e m (by omega), e n (by omega), IntKind.wrap_i64]
  omega

/-- A pick's end. -/
def Picked (R : Nat) (q n : Int) (w : World) (e : Ending) (w' : World) : Prop := ∃ x : Int, e = .returned (.int .i64 x) ∧ 0 ≤ x ∧ x < n ∧ Rd w' R (q + 1) ∧ But R w w'

theorem set_reader {w : World} {R : Nat} {v0 v1 v : Value} (hh : w.heap[R]? = some (.cells #[v0, v1] 110 (0, 0))) : (w.setCell ⟨R, 1, none⟩ v).heap[R]? = some (.cells #[v0, v] 110 (0, 0)) := by
  simp [World.setCell, Array.getElem?_modify, hh]
theorem but_set (w : World) (R o : Nat) (v : Value) : But R w (w.setCell ⟨R, o, none⟩ v) :=
  ⟨rfl, rfl, rfl, by simp [World.setCell], fun k _ hne => Below.heap_setCell _ _ _ _ (fun e => hne (by rw [e]))⟩

set_option maxHeartbeats 4000000 in
theorem pick_any (R : Nat) (q n : Int) (w : World) (hR : Rd w R q) (hq : q ≤ 1000000000) (h1 : 1 ≤ n) (h2 : n ≤ 1000000) :
    Calls Tryz.prog 32 #[.pointer (some ⟨R, 0, none⟩), .int .i64 n] w (Picked R q n w) := by
  obtain ⟨A, c, ns, p, hh, hp0, hpq, hns, hrow, hby⟩ := hR
  have hc0 : w.cell? ⟨R, 0, none⟩ = some (.slice A ns.length c) := by simp [World.cell?, hh]
  have hc1 : w.cell? ⟨R, 1, none⟩ = some (.int .i64 p) := by simp [World.cell?, hh]
  have hf1 : w.frozen? ⟨R, 1, none⟩ = false := by simp [World.frozen?, hh]
  have hR' : Rd (w.setCell ⟨R, 1, none⟩ (.int .i64 (p + 1))) R (q + 1) :=
    ⟨A, c, ns, p + 1, set_reader hh, by omega, by omega, hns, hrow.below ((Below.refl R w).setCell (Nat.le_refl _) _) (Nat.le_refl _), hby⟩
  have hT := but_set w R 1 (.int .i64 (p + 1))
  by_cases h0 : ns.length = 0
  · have e0 : (((ns.length : Nat) : Int) == 0) = true := by rw [h0]; rfl
    go_enter Tryz.func32, Tryz.ntmps32
    go_wp2
    go_ret
    exact ⟨0, rfl, by omega, by omega, hR', hT⟩
  · have e0 : (((ns.length : Nat) : Int) == 0) = false := by rw [beq_eq_false_iff_ne]; omega
    have n0 : 0 < (ns.length : Int) := by omega
    by_cases hk : p < ns.length
    · obtain ⟨k, rfl⟩ := Int.eq_ofNat_of_zero_le hp0
      have hk' : k < ns.length := by omega
      obtain ⟨ad, rfl, hb, hc⟩ := hrow.byte_ hk'
      obtain ⟨b0, b1⟩ := hby _ (List.getElem_mem hk')
      have hnb : R ≠ (ad.add k).block := by rw [add_block]; omega
      have hc' : (w.setCell ⟨R, 1, none⟩ (.int .i64 (↑k + 1))).cell? (ad.add k) = some (.int .u8 ns[k]) := by
        rw [← hc]
        exact World.cell?_setCell_other w _ _ _ (fun e => hnb (by first | rw [e] | rw [← e]))
      clear hc hby
      go_enter Tryz.func32, Tryz.ntmps32
      go_wp2
      go_ret
      exact ⟨_, rfl, Int.emod_nonneg _ (by omega), Int.emod_lt_of_pos _ (by omega), hR', hT⟩
    · obtain ⟨k, rfl⟩ := Int.eq_ofNat_of_zero_le hp0
      have hi : k % ns.length < ns.length := Nat.mod_lt _ (by omega)
      have hj : (k * 7 + 3) % ns.length < ns.length := Nat.mod_lt _ (by omega)
      obtain ⟨ad, rfl, hb, hci⟩ := hrow.byte_ hi
      obtain ⟨ad', ea, _, hcj⟩ := hrow.byte_ hj
      obtain rfl : ad = ad' := by injection ea
      clear ea
      obtain ⟨b0, b1⟩ := hby _ (List.getElem_mem hi)
      obtain ⟨d0, d1⟩ := hby _ (List.getElem_mem hj)
      have far : ∀ m, (w.setCell ⟨R, 1, none⟩ (.int .i64 (↑k + 1))).cell? (ad.add m) = w.cell? (ad.add m) := fun m =>
        World.cell?_setCell_other w _ _ _ (fun e => by have := add_block ad m; first | (rw [← e] at this; simp at this; omega) | (rw [e] at this; simp at this; omega))
      have hci' := (far _).trans hci
      have hcj' := (far _).trans hcj
      have hc0' : (w.setCell ⟨R, 1, none⟩ (.int .i64 (↑k + 1))).cell? ⟨R, 0, none⟩ = some (.slice (some ad) ns.length c) := by
        rw [← hc0]
        exact World.cell?_setCell_other w _ _ _ (fun e => by injection e with _ e2; cases e2)
      clear hci hcj far hby
      go_enter Tryz.func32, Tryz.ntmps32
      go_wp2
      clear hc0 hc1 hf1 hh
      generalize w.setCell ⟨R, 1, none⟩ (.int .i64 (↑k + 1)) = w1 at *
      have i0 : 0 ≤ ((k : Nat) : Int) % (ns.length : Int) := Int.emod_nonneg _ (by omega)
      have i1 : ((k : Nat) : Int) % (ns.length : Int) < (ns.length : Int) := Int.emod_lt_of_pos _ n0
      have i2 : (((k : Nat) : Int) % (ns.length : Int)).toNat = k % ns.length := by rw [← Int.natCast_emod, Int.toNat_natCast]
      have j0 : 0 ≤ (((k : Nat) : Int) * 7 + 3) % (ns.length : Int) := Int.emod_nonneg _ (by omega)
      have j1 : (((k : Nat) : Int) * 7 + 3) % (ns.length : Int) < (ns.length : Int) := Int.emod_lt_of_pos _ n0
      have j2 : ((((k : Nat) : Int) * 7 + 3) % (ns.length : Int)).toNat = (k * 7 + 3) % ns.length := by
        rw [show ((k : Nat) : Int) * 7 + 3 = ((k * 7 + 3 : Nat) : Int) from by omega, ← Int.natCast_emod, Int.toNat_natCast]
      have k0 : 0 ≤ ((k : Nat) : Int) / (ns.length : Int) := Int.ediv_nonneg (by omega) (by omega)
      have k1 : ((k : Nat) : Int) / (ns.length : Int) ≤ 1000000000 := Int.le_trans (Int.ediv_le_self _ (by omega)) (by omega)
      go_quiet (fail)
      obtain ⟨X, hX, x0, x1⟩ : ∃ X : Int, ns[k % ns.length] * 131 + ns[(k * 7 + 3) % ns.length] * 1117 + ↑k * 29 + ↑k / ↑ns.length * 53 = X ∧ 0 ≤ X ∧ X < 1000000000000 := ⟨_, rfl, by omega, by omega⟩
      rw [hX]
      clear hX i0 i1 i2 j0 j1 j2 k0 k1
      have x2 := xor_range X (X / 64) x0 (by omega) (by omega) (by omega)
      go_wp2
      go_ret
      exact ⟨_, rfl, Int.emod_nonneg _ (by omega), Int.emod_lt_of_pos _ (by omega), hR'.below (Wo.Below.drewN (Below.refl (R + 1) _) nq) (by omega), hT.trans (.of_below (Wo.Below.drewN (Below.refl _ _) nq))⟩

/-! ### Texts. -/
/-- A text of at most m bytes has been drawn, with at most d picks. -/
def TextDrawn (R : Nat) (q d : Int) (m : Nat) (w : World) (e : Ending) (w' : World) : Prop := ∃ s : ByteArray, e = .returned (.string s) ∧ s.size ≤ m ∧ Rd w' R (q + d) ∧ But R w w'

theorem conv_one (w : World) (x : Int) (h0 : 0 ≤ x) (h1 : x < 256) : ∃ b : UInt8, (convert 22 9 (.slice (some ⟨w.heap.size, 0, none⟩) 1 1)).run Tryz.prog (w.alloc (.cells #[.int .u8 x] 5)) = .ok (.string ⟨#[b]⟩) (w.alloc (.cells #[.int .u8 x] 5)) := by
  refine ⟨UInt8.ofNat x.toNat, ?_⟩
  have hb : ((UInt8.ofNat x.toNat).toNat : Int) = x := by
    rw [UInt8.toNat_ofNat']
    omega
  refine run_convert_bytes_back (P := Tryz.prog) (w.alloc (.cells #[.int .u8 x] 5)) 22 9 5 ⟨w.heap.size, 0, none⟩ 1 [UInt8.ofNat x.toNat] Tryz.underlying22 Tryz.underlying5 Tryz.underlying9 ?_
  intro j hj
  simp only [List.length_cons, List.length_nil] at hj
  obtain rfl : j = 0 := by omega
  simp only [List.getElem_cons_zero, hb, add_zero]
  simp [go_sem]
theorem app_size (s : ByteArray) (b : UInt8) (k : Nat) (h : s.size ≤ k) : (s ++ (⟨#[b]⟩ : ByteArray)).size ≤ k + 1 := by
  rw [ByteArray.size_append]
  have : (⟨#[b]⟩ : ByteArray).size = 1 := rfl
  omega

theorem add_lit (g j : Nat) : (⟨g, 0, none⟩ : Addr).add j = ⟨g, j, none⟩ := by
  unfold Addr.add
  split
  · rename_i h; subst h; rfl
  · simp
theorem Mine.type_ne {w : World} {B B' g g' n n' : Nat} {e e' : TypeId} {sz sz' : Nat} {xs xs' : List Value} (h : Mine w B e sz g n xs) (h' : Mine w B' e' sz' g' n' xs') (he : e ≠ e') : g ≠ g' := by
  intro hg
  subst hg
  rcases h.2 with ⟨h1, _⟩ | ⟨k, _, cur, hv, _, hh, _⟩
  · cases h1
  · rcases h'.2 with ⟨h1, _⟩ | ⟨k', _, cur', hv', _, hh', _⟩
    · cases h1
    · have e1 : k = g := by injection hv with e1; injection e1 with e1; injection e1 with e1; exact e1.symm
      have e2 : k' = g := by injection hv' with e1; injection e1 with e1; injection e1 with e1; exact e1.symm
      subst e1
      subst e2
      rw [hh] at hh'
      injection hh' with h3
      injection h3 with _ h3
      exact he h3

theorem add_add (a : Addr) (n d : Nat) : (a.add n).add d = a.add (n + d) := by
  unfold Addr.add
  by_cases hn : n = 0
  · subst hn; simp
  · by_cases hd : d = 0
    · subst hd; simp
    · rw [if_neg hn, if_neg hd, if_neg (by omega)]
      simp; omega
theorem Wo.Row.take_ {w : World} {B : Nat} {A : Option Addr} {vs : List Value} (h : Row w B A vs) (n : Nat) : Row w B A (vs.take n) := by
  rcases h with rfl | ⟨ad, e, ha, hc⟩
  · exact .inl (by simp)
  · refine .inr ⟨ad, e, ha, fun j u hu => hc j u ?_⟩
    by_cases hj : j < n
    · rw [List.getElem?_take_of_lt hj] at hu; exact hu
    · rw [List.getElem?_eq_none (by simp; omega)] at hu; cases hu
theorem Wo.Row.drop_ {w : World} {B : Nat} {ad : Addr} {vs : List Value} (h : Row w B (some ad) vs) (n : Nat) : Row w B (some (ad.add n)) (vs.drop n) := by
  rcases h with rfl | ⟨ad', e, ha, hc⟩
  · exact .inl (by simp)
  · injection e with e
    subst e
    refine .inr ⟨_, rfl, by rw [add_block]; exact ha, fun j u hu => ?_⟩
    rw [List.getElem?_drop] at hu
    rw [add_add]
    exact hc _ u hu
theorem row_news {w : World} {B : Nat} {ad : Addr} {vs : List Value} (h : Row w B (some ad) vs) : ∀ j u, vs[j]? = some u → w.cell? (ad.add j) = some u := by
  rcases h with rfl | ⟨ad', e, _, hc⟩
  · intro j u hu
    simp at hu
  · injection e with e
    subst e
    exact hc

theorem run_append_nothing {P : Program} (w : World) (base : Nat) (t ty e : TypeId) (i : TypeInfo) (size : Nat) (ht : P.underlying t = some (.slice e)) (hi : P.info? e = some i)
    (v : Value) (n : Nat) (xs : List Value) (hown : w.ownsRow base e size v n xs) (c : Nat) : (Builtin.append_ #[t, t] ty #[v, .slice none 0 c]).run P w = .ok v w := by
  rcases hown.2 with ⟨rfl, rfl⟩ | ⟨g, cap, cur, rfl, _, _, hle, _⟩
  · simp [Builtin.append_, run_underlying ht, sizeOf, typeInfo, hi, Builtin.lenOf, Builtin.firstCells]
  · simp [Builtin.append_, run_underlying ht, sizeOf, typeInfo, hi, Builtin.lenOf, Builtin.firstCells, hle, storeCells]

theorem wpList_append_row {P : Program} (w : World) {ops : Array Oper} {rest : List Oper} {o : Oper} {a : Act} {Q : Exit → Act → World → Prop} (hgd : o.guard = none) (s x : Operand) (t : TypeId)
    (ho : o.op = .call { callee := .builtin .append, args := #[s, x], argTypes := #[t, t] })
    (base : Nat) (e : TypeId) (i : TypeInfo) (z : Value) (size bytes : Nat) (ht : P.underlying t = some (.slice e)) (hi : P.info? e = some i) (hz : i.zero = some z)
    (hsize : i.size = size) (hby : i.bytes = bytes) (hzs : z.cells.size = size) (hsz : 0 < size)
    (v : Value) (n : Nat) (xs : List Value) (hs : a.eval s = v) (hown : w.ownsRow base e size v n xs)
    (B : Nat) (A : Option Addr) (m c : Nat) (news : List Value) (hx : a.eval x = .slice A m c) (hr : Row w B A news) (hl : news.length = m * size) (h1 : ∀ u ∈ news, u.oneCell' = true)
    (h63 : n + m ≤ maxLen) (hbytes : (n + m) * bytes ≤ 140737488355328) (hbase : base ≤ w.heap.size)
    (h : ∀ v' w', w'.ownsRow base e size v' (n + m) (xs ++ news) → w.grownBy w' v.ownBlock → wpList P ops Q rest (a.put o.dst v') w') : wpList P ops Q (o :: rest) a w := by
  rcases A with _ | ad
  · have hnil : news = [] := by
      rcases hr with hr | ⟨ad, e, _⟩
      · exact hr
      · cases e
    subst hnil
    have hm : m = 0 := by
      rcases Nat.eq_zero_or_pos m with hm | hm
      · exact hm
      · have := Nat.mul_pos hm hsz
        simp at hl
        omega
    subst hm
    refine wpList_plain hgd fun K hK => ?_
    have hrun := run_append_nothing (P := P) w base t o.type e i size ht hi v n xs hown c
    unfold Oper.wp
    simp [execOp, ho, resolve, invoke, builtin, hs, hx, hrun, Result.andThen]
    exact hK _ _ (h v w (by simpa using hown) (World.grownBy.refl w _))
  · exact wpList_append_own w hgd s x t ho base e i z size bytes ht hi hz hsize hby hzs hsz v n xs hs hown ad m c news hx hl (row_news hr) h1 h63 hbytes hbase fun v' w' h2 h3 _ => h v' w' h2 h3

theorem step_append_row {P : Program} (w : World) {ops : Array Oper} {o : Oper} {a : Act} {K : Act → World → Prop} {Q : Exit → Act → World → Prop} {E : Prop} (hgd : o.guard = none) (s x : Operand) (t : TypeId)
    (ho : o.op = .call { callee := .builtin .append, args := #[s, x], argTypes := #[t, t] })
    (base : Nat) (e : TypeId) (i : TypeInfo) (z : Value) (size bytes : Nat) (ht : P.underlying t = some (.slice e)) (hi : P.info? e = some i) (hz : i.zero = some z)
    (hsize : i.size = size) (hby : i.bytes = bytes) (hzs : z.cells.size = size) (hsz : 0 < size)
    (v : Value) (n : Nat) (xs : List Value) (hs : a.eval s = v) (hown : w.ownsRow base e size v n xs)
    (B : Nat) (A : Option Addr) (m c : Nat) (news : List Value) (hx : a.eval x = .slice A m c) (hr : Row w B A news) (hl : news.length = m * size) (h1 : ∀ u ∈ news, u.oneCell' = true)
    (h63 : n + m ≤ maxLen) (hbytes : (n + m) * bytes ≤ 140737488355328) (hbase : base ≤ w.heap.size)
    (h : ∀ v' w', w'.ownsRow base e size v' (n + m) (xs ++ news) → w.grownBy w' v.ownBlock → K (a.put o.dst v') w') :
    if Region.wanted o (yielded ops a.tmps) = true then Oper.wp P o a w K Q else E := by
  have hw : Region.wanted o (yielded ops a.tmps) = true := by simp [Region.wanted, hgd]
  rw [if_pos hw]
  rcases A with _ | ad
  · have hnil : news = [] := by
      rcases hr with hr | ⟨ad, e, _⟩
      · exact hr
      · cases e
    subst hnil
    have hm : m = 0 := by
      rcases Nat.eq_zero_or_pos m with hm | hm
      · exact hm
      · have := Nat.mul_pos hm hsz
        simp at hl
        omega
    subst hm
    have hrun := run_append_nothing (P := P) w base t o.type e i size ht hi v n xs hown c
    unfold Oper.wp
    simp [execOp, ho, resolve, invoke, builtin, hs, hx, hrun, Result.andThen]
    exact h v w (by simpa using hown) (World.grownBy.refl w _)
  · exact wp_append_own w s x t ho base e i z size bytes ht hi hz hsize hby hzs hsz v n xs hs hown ad m c news hx hl (row_news hr) h1 h63 hbytes hbase fun v' w' h2 h3 _ => h v' w' h2 h3

theorem ints_cells (zs : List Int) : ∀ u ∈ ints zs, u.oneCell' = true := by
  intro u hu
  obtain ⟨z, _, rfl⟩ := List.mem_map.1 hu
  rfl
theorem nil_own {w : World} {B : Nat} (hB : B ≤ w.heap.size) (e : TypeId) (size : Nat) : (w.alloc (.cells #[] e)).ownsRow B e size (.slice (some ⟨w.heap.size, 0, none⟩) 0 0) 0 [] :=
  ⟨by simp, .inr ⟨w.heap.size, 0, #[], rfl, hB, heap_alloc_new w _, Nat.le_refl _, by decide, by simp, by simp⟩⟩
/-- Block g is just these three cells. -/
def Blk (w : World) (g : Nat) (t : TypeId) (v0 v1 v2 : Value) : Prop := w.heap[g]? = some (.cells #[v0, v1, v2] t (0, 0))
section
variable {w w' : World} {g : Nat} {t : TypeId} {v0 v1 v2 : Value}
theorem Blk.lt (h : Blk w g t v0 v1 v2) : g < w.heap.size := by
  rcases Nat.lt_or_ge g w.heap.size with h1 | h1
  · exact h1
  · unfold Blk at h; rw [Array.getElem?_eq_none h1] at h; cases h
theorem Blk.reads (h : Blk w g t v0 v1 v2) : w.cell? ⟨g, 0, none⟩ = some v0 ∧ w.cell? ⟨g, 1, none⟩ = some v1 ∧ w.cell? ⟨g, 2, none⟩ = some v2 ∧ ∀ o, w.frozen? ⟨g, o, none⟩ = false := by
  unfold Blk at h
  exact ⟨by simp [World.cell?, h], by simp [World.cell?, h], by simp [World.cell?, h], fun o => by simp [World.frozen?, h]⟩
theorem Blk.new_ (w : World) (t : TypeId) (v0 v1 v2 : Value) : Blk (w.alloc (.cells #[v0, v1, v2] t)) w.heap.size t v0 v1 v2 := heap_alloc_new w _
theorem Blk.below {C : Nat} (h : Blk w g t v0 v1 v2) (hb : Below C w w') (hC : g < C) : Blk w' g t v0 v1 v2 := (hb.block g hC).trans h
theorem Blk.but {R : Nat} (h : Blk w g t v0 v1 v2) (hb : But R w w') (hR : g ≠ R) : Blk w' g t v0 v1 v2 := (hb.block g h.lt (fun e => hR (by injection e))).trans h
theorem Blk.far (h : Blk w g t v0 v1 v2) {p : Addr} (hp : g ≠ p.block) (u : Value) : Blk (w.setCell p u) g t v0 v1 v2 := (Below.heap_setCell w p u g hp).trans h
theorem Blk.set0 (h : Blk w g t v0 v1 v2) (u : Value) : Blk (w.setCell ⟨g, 0, none⟩ u) g t u v1 v2 := by unfold Blk at h ⊢; simp [World.setCell, Array.getElem?_modify, h]
theorem Blk.set1 (h : Blk w g t v0 v1 v2) (u : Value) : Blk (w.setCell ⟨g, 1, none⟩ u) g t v0 u v2 := by unfold Blk at h ⊢; simp [World.setCell, Array.getElem?_modify, h]
theorem Blk.set2 (h : Blk w g t v0 v1 v2) (u : Value) : Blk (w.setCell ⟨g, 2, none⟩ u) g t v0 v1 u := by unfold Blk at h ⊢; simp [World.setCell, Array.getElem?_modify, h]
theorem Blk.grown {row : Option Nat} (h : Blk w g t v0 v1 v2) (hb : w.grownBy w' row) (hg : some g ≠ row) : Blk w' g t v0 v1 v2 := (hb.block g h.lt hg).trans h
theorem But.set_new {R : Nat} {a : World} (h : But R a w) (hB : a.heap.size ≤ g) (o : Nat) (u : Value) : But R a (w.setCell ⟨g, o, none⟩ u) :=
  ⟨h.os, h.tape, h.output, by simpa [World.setCell] using h.size, fun k hk hne => (Below.heap_setCell w _ u k (by show k ≠ g; omega)).trans (h.block k hk hne)⟩
theorem Rd.far {R : Nat} {q : Int} (h : Rd w R q) (hR : R < g) (o : Nat) (u : Value) : Rd (w.setCell ⟨g, o, none⟩ u) R q :=
  h.below ((Below.refl g w).setCell (p := ⟨g, o, none⟩) (Nat.le_refl g) u) hR
end

/-- A world that below B is as W was. -/
structure Later (B : Nat) (W : World) where
  v : World
  h : Below B W v
instance later_nonempty {B : Nat} {W : World} : Nonempty (Later B W) := ⟨⟨W, Below.refl _ _⟩⟩
def Later.w {B : Nat} {W : World} (x : Later B W) : World := x.v
theorem Later.b {B : Nat} {W : World} (x : Later B W) : Below B W x.w := x.h
theorem Later.size {B : Nat} {W : World} (hB : B ≤ W.heap.size) (x : Later B W) : B ≤ x.w.heap.size := Nat.le_trans hB x.h.size
def InLater (B : Nat) (W : World) (w' : World) : Prop := ∃ x : Later B W, w' = x.w
theorem Later.cell {B : Nat} {W : World} {p : Addr} {v : Value} (h : W.cell? p = some v) (hp : p.block < B) (x : Later B W) : x.w.cell? p = some v := (x.h.cell hp).trans h
theorem Wo.Row.later {B : Nat} {W : World} {A : Option Addr} {vs : List Value} (h : Row W B A vs) (x : Later B W) : Row x.w B A vs := h.below x.h (Nat.le_refl _)
theorem Later.call {P : Program} {f : FuncId} {args : Array Value} {v : Value} {B : Nat} {W : World} (hB : B ≤ W.heap.size) (x : Later B W) (h : Calls P f args x.w (Ret v x.w)) :
    Calls P f args x.w fun e w'' => e = .returned v ∧ ∃ y : Later B W, w'' = y.w :=
  h.mono fun _ w'' ⟨he, hb⟩ => ⟨he, ⟨w'', x.h.trans (hb.mono (Later.size hB x))⟩, rfl⟩
theorem wp_region_later {P : Program} {id : Nat} {Q : Exit → Act → World → Prop} {a : Act} {w : World} {l : List Oper} (B : Nat) (hm : P.follows .mixedOrders = true) (hB : Region.lexB .any l.toArray = true)
    (h : wpQuiet P l.toArray (fun w' => ∃ x : Later B w, w' = x.w) (fun a' => ∀ w', (∃ x : Later B w, w' = x.w) → Q .normal a' w') l a) : (Code.region id l.toArray true).wp P Q a w :=
  wp_region_quiet (C := fun w' => ∃ x : Later B w, w' = x.w) hm hB ⟨⟨w.drew, (Below.refl B w).drew⟩, rfl⟩ (by simpa using h)
/-- A code: its bytes, as it came in. -/
def Code_ (w : World) (A : Option Addr) (c : Nat) (bs : List Int) : Prop := Row w w.heap.size A (bytesV bs) ∧ bs.length ≤ c ∧ c ≤ maxLen ∧ ∀ n ∈ bs, 0 ≤ n ∧ n < 256
theorem Code_.below {w w' : World} {A : Option Addr} {c : Nat} {bs : List Int} (h : Code_ w A c bs) (hb : Below w.heap.size w w') : Code_ w' A c bs :=
  ⟨(h.1.below hb (Nat.le_refl _)).more hb.size, h.2⟩

/-- A reader, new. -/
def Opened (w : World) (e : Ending) (w' : World) : Prop := e = .returned (.pointer (some ⟨w.heap.size, 0, none⟩)) ∧ Rd w' w.heap.size 0 ∧ Below w.heap.size w w'

theorem Wo.Row.take {w : World} {B : Nat} {A : Option Addr} {vs : List Value} (h : Row w B A vs) (k : Nat) : Row w B A (vs.take k) := by
  rcases h with rfl | ⟨ad, e, hb, hc⟩
  · exact .inl (by simp)
  · refine .inr ⟨ad, e, hb, fun j v hv => hc j v ?_⟩
    rw [List.getElem?_take] at hv
    split at hv
    · exact hv
    · cases hv

theorem l6Open_any (A : Option Addr) (c : Nat) (bs : List Int) (w : World) (h : Code_ w A c bs) :
    Calls Tryz.prog 29 #[.slice A bs.length c] w (Opened w) := by
  obtain ⟨hr, hn, hc, hb⟩ := h
  have hc' := hc
  unfold maxLen at hc'
  by_cases h2 : bs.length ≤ 2000
  · go_enter Tryz.func29, Tryz.ntmps29
    go_wp2
    go_ret
    have al := (Below.refl w.heap.size w).alloc (Nat.le_refl _) (.cells #[.slice A bs.length c, .int .i64 0] 110)
    exact ⟨rfl, ⟨A, c, bs, 0, heap_alloc_new w _, by omega, by omega, h2, hr.below al (Nat.le_refl _), hb⟩, al⟩
  · have hlt : (bs.take 2000).length = 2000 := by rw [List.length_take]; omega
    have hcap : 2000 ≤ c := by omega
    have h22 : (2000 : Int) < (bs.length : Int) := by omega
    go_enter Tryz.func29, Tryz.ntmps29
    go_wp2
    go_ret
    have al := (Below.refl w.heap.size w).alloc (Nat.le_refl _) (.cells #[.slice A 2000 c, .int .i64 0] 110)
    refine ⟨rfl, ⟨A, c, bs.take 2000, 0, ?_, by omega, by omega, by omega, ?_, fun n hn => hb n (List.mem_of_mem_take hn)⟩, al⟩
    · rw [hlt]
      exact heap_alloc_new w _
    · have := (hr.take 2000).below al (Nat.le_refl _)
      rw [show bytesV (bs.take 2000) = (bytesV bs).take 2000 from by simp [bytesV, List.map_take]]
      exact this

theorem Blk.row3 {w : World} {g : Nat} {t : TypeId} {v0 v1 v2 : Value} (h : Blk w g t v0 v1 v2) : Row w w.heap.size (some ⟨g, 0, none⟩) [v0, v1, v2] := by
  obtain ⟨h0, h1, h2, _⟩ := h.reads
  refine .inr ⟨_, rfl, h.lt, fun j u hu => ?_⟩
  rw [add_lit]
  match j with
  | 0 => simp at hu; subst hu; exact h0
  | 1 => simp at hu; subst hu; exact h1
  | 2 => simp at hu; subst hu; exact h2
  | j + 3 => simp at hu
theorem own_below {w w' : World} {B C n sz : Nat} {e : TypeId} {v : Value} {xs : List Value} (h : w.ownsRow B e sz v n xs) (hb : Below C w w') (hC : w.heap.size ≤ C) : w'.ownsRow B e sz v n xs := by
  obtain ⟨h1, h2⟩ := h
  refine ⟨h1, ?_⟩
  rcases h2 with h2 | ⟨g, cap, cur, hv, hB, hh, hr⟩
  · exact .inl h2
  · refine .inr ⟨g, cap, cur, hv, hB, ?_, hr⟩
    have hl : g < w.heap.size := by
      rcases Nat.lt_or_ge g w.heap.size with h3 | h3
      · exact h3
      · rw [Array.getElem?_eq_none h3] at hh; cases hh
    rw [hb.block g (by omega)]
    exact hh
theorem new_three (w : World) (v0 v1 v2 : Value) (t : TypeId) : ∀ j u, [v0, v1, v2][j]? = some u → (w.alloc (.cells #[v0, v1, v2] t)).cell? ((⟨w.heap.size, 0, none⟩ : Addr).add j) = some u :=
  World.news_of_block (cs := #[v0, v1, v2]) (heap_alloc_new w _)

end Go.Proofs.YteaibflloeipaaaGreatDoor
namespace Go.Proofs.YteaibflloeipaaaGreatDoor
open Go.RowKit Wo Pu

theorem Ret.val_ {a b : Value} {w w' : World} (h : b = a) (hb : Below w.heap.size w w') : Ret a w (.returned b) w' := by subst h; exact ⟨rfl, hb⟩
theorem bool_of (p : Prop) : ∃ b : Bool, (b = true ↔ p) := by
  by_cases h : p
  · exact ⟨true, by simp [h]⟩
  · exact ⟨false, by simp [h]⟩
theorem l6In_yes (n lo hi : Int) (w : World) (h1 : lo ≤ n) (h2 : n ≤ hi) : Calls Tryz.prog 44 #[.int .i64 n, .int .i64 lo, .int .i64 hi] w (Same (.bool true) w) := by
  go_enter Tryz.func44, Tryz.ntmps44
  go_wp2
  go_ret
  exact ⟨rfl, rfl⟩
theorem l6In_no (n lo hi : Int) (w : World) (h : n < lo ∨ hi < n) : Calls Tryz.prog 44 #[.int .i64 n, .int .i64 lo, .int .i64 hi] w (Same (.bool false) w) := by
  by_cases h1 : lo ≤ n
  · have h2 : hi < n := by omega
    clear h
    have e1 : decide (lo ≤ n) = true := by simp [h1]
    have e2 : decide (n ≤ hi) = false := by simp; omega
    go_enter Tryz.func44, Tryz.ntmps44
    go_wp2
    go_ret
    exact ⟨rfl, rfl⟩
  · have h2 : n < lo := by omega
    clear h
    have e1 : decide (lo ≤ n) = false := by simp; omega
    go_enter Tryz.func44, Tryz.ntmps44
    go_wp2
    go_ret
    exact ⟨rfl, rfl⟩
theorem info_int : (Tryz.prog.info? 3).map (fun i => (i.zero, i.size, i.bytes)) = some (some (.int .i64 0), 1, 8) := by kernel_rfl
theorem one_int (x : Int) : ∀ u ∈ [Value.int .i64 x], u.oneCell' = true := by
  intro u hu
  rw [List.mem_singleton.1 hu]
  rfl
/-- The slice v, of the call's own, holds the integers zs. -/
def OwnI (w : World) (B : Nat) (v : Value) (zs : List Int) : Prop := w.ownsRow B 3 1 v zs.length (ints zs)
theorem OwnI.nil_new {w : World} {B : Nat} (hB : B ≤ w.heap.size) : OwnI (w.alloc (.cells #[] 3)) B (.slice (some ⟨w.heap.size, 0, none⟩) 0 0) [] := nil_own hB _ _
theorem OwnI.below {w w' : World} {B C : Nat} {v : Value} {zs : List Int} (h : OwnI w B v zs) (hb : Below C w w') (hC : w.heap.size ≤ C) : OwnI w' B v zs := own_below h hb hC
theorem OwnI.but {w w' : World} {R B : Nat} {v : Value} {zs : List Int} (h : OwnI w B v zs) (hb : But R w w') (hR : R < B) : OwnI w' B v zs := by
  refine World.ownsRow.kept h hb ?_
  rcases hv : v.ownBlock with _ | k
  · exact .inl rfl
  · refine .inr (fun e => ?_)
    have := (World.ownsRow.lt h k hv).1
    injection e with e
    omega
theorem OwnI.base {w : World} {B B' : Nat} {v : Value} {zs : List Int} (h : OwnI w B v zs) (hB : B' ≤ B) : OwnI w B' v zs := by
  obtain ⟨h1, h2⟩ := h
  refine ⟨h1, ?_⟩
  rcases h2 with h | ⟨g, cap, cur, hv, hb, hr⟩
  · exact .inl h
  · exact .inr ⟨g, cap, cur, hv, by omega, hr⟩
theorem OwnI.app {w' : World} {B : Nat} {v' : Value} {zs : List Int} {x : Int} (h : w'.ownsRow B 3 1 v' (zs.length + 1) (ints zs ++ [.int .i64 x])) : OwnI w' B v' (zs ++ [x]) := by
  have e2 : ints (zs ++ [x]) = ints zs ++ [.int .i64 x] := by simp [ints]
  unfold OwnI
  rw [List.length_append, List.length_singleton, e2]
  exact h
theorem OwnI.form {w : World} {B : Nat} {v : Value} {zs : List Int} (h : OwnI w B v zs) : ∃ (A : Option Addr) (c : Nat), v = .slice A zs.length c ∧ Row w w.heap.size A (ints zs) ∧ zs.length ≤ c := by
  have h' := h
  obtain ⟨h1, h2⟩ := h
  rcases h2 with ⟨rfl, h0⟩ | ⟨g, cap, cur, rfl, _, _, hn, _⟩
  · have : zs = [] := List.eq_nil_of_length_eq_zero h0
    subst this
    exact ⟨none, 0, rfl, .inl rfl, Nat.le_refl _⟩
  · refine ⟨_, _, rfl, Row.of_own h' (fun hx => ?_), hn⟩
    rcases Nat.eq_zero_or_pos zs.length with h0 | h0
    · have : zs = [] := List.eq_nil_of_length_eq_zero h0
      subst this
      exact absurd rfl hx
    · exact h0
/-- Behind it: integers of the call's own. -/
def IntsOf (zs : List Int) (w : World) (e : Ending) (w' : World) : Prop := ∃ A c, e = .returned (.slice A zs.length c) ∧ OwnI w' w.heap.size (.slice A zs.length c) zs ∧ Below w.heap.size w w'
theorem IntsOf.mk_ {zs : List Int} {w w' : World} {v : Value} (ho : OwnI w' w.heap.size v zs) (hb : Below w.heap.size w w') : IntsOf zs w (.returned v) w' := by
  obtain ⟨A, c, rfl, _⟩ := ho.form
  exact ⟨A, c, rfl, ho, hb⟩
theorem OwnI.row {w : World} {B c : Nat} {A : Option Addr} {n : Nat} {zs : List Int} (h : OwnI w B (.slice A n c) zs) : Row w w.heap.size A (ints zs) := by
  obtain ⟨A', c', e, hr, _⟩ := h.form
  injection e with e1
  subst e1
  exact hr
/-- Behind it: a new slice with the cells xs. -/
def NewInts (zs : List Int) (w : World) (e : Ending) (w' : World) : Prop :=
  ∃ g, e = .returned (.slice (some ⟨g, 0, none⟩) zs.length zs.length) ∧ Mine w' w.heap.size 3 1 g zs.length (ints zs) ∧ Below w.heap.size w w'

set_option maxHeartbeats 1000000 in
theorem toIntS_any (B : Nat) (A : Option Addr) (c : Nat) (zs : List Int) (w : World) (hr : Row w B A (ints zs)) (hB : B ≤ w.heap.size) (hm : zs.length ≤ 1048576) :
    Calls Tryz.prog 50 #[.slice A zs.length c] w (NewInts zs w) := by
  obtain ⟨i0, hi, hz0, hz1, hz2⟩ := info_of info_int
  go_enter Tryz.func50, Tryz.ntmps50
  go_wp2_with (at_make; refine wpList_make_full _ rfl (.tmp 6) (.tmp 6) 24 rfl w.heap.size 3 i0 (.int .i64 0) 1 Tryz.underlying24 hi hz0 hz1 .i64 .i64 zs.length zs.length zs.length rfl rfl rfl rfl (by rw [hz2]; omega) (by unfold maxLen; omega) (Nat.le_refl _) ?_; intro w1 hown hg)
  have hb1 : Below w.heap.size w w1 := (Below.refl _ _).grown hg (Nat.le_refl _) (by simp)
  have hm1 : Hid (∃ xs : List Value, Mine w1 w.heap.size 3 1 w.heap.size zs.length xs ∧ xs.take 0 = (ints zs).take 0) := ⟨_, hown, by simp⟩
  clear hown hg
  go_loopw [4] (fun i wr => ∃ k : Nat, k ≤ zs.length ∧ i = .int .i64 k ∧ Below w.heap.size w wr ∧ Hid (∃ xs : List Value, Mine wr w.heap.size 3 1 w.heap.size zs.length xs ∧ xs.take k = (ints zs).take k)) (fun i _ => zs.length - (intOf i).toNat)
  case atStart => exact ⟨0, Nat.zero_le _, rfl, hb1, hm1⟩
  case round =>
    obtain ⟨k, hk, rfl, hb, HX⟩ := hrel
    clear hb1 hm1
    obtain ⟨xs, hx, ht⟩ := HX.out
    clear HX
    by_cases hlt : k < zs.length
    · obtain ⟨ad, rfl, hbl, hc⟩ := (hr.below hb hB).int_ hlt
      obtain ⟨v0, hv0⟩ := hx.cell hlt
      have hf0 := hx.frozen k
      have hx2 := hx.set_ k (.int .i64 zs[k])
      have ht2 := hid (take_set ht (by rw [hx.len]; omega) (by rw [ints_length]; exact hlt))
      clear ht hx
      go_wp2
      go_roundw
      case rel => exact ⟨k + 1, by omega, by go_num, hb.setCell (Nat.le_refl _) _, _, hx2, by have := ht2.out; rw [ints_get zs k hlt] at this; exact this⟩
      case measure => simp [intOf]; omega
    · have hk' : k = zs.length := by omega
      subst hk'
      have hxs : xs = ints zs := by
        have hl := hx.len
        rw [List.take_of_length_le (by omega), List.take_of_length_le (by rw [ints_length]; omega)] at ht
        exact ht
      clear ht
      subst hxs
      go_wp2
      go_ret
      exact ⟨_, rfl, hx, hb⟩

set_option maxHeartbeats 1000000 in
theorem eqIntS_same (B C : Nat) (A A' : Option Addr) (c c' : Nat) (zs : List Int) (w : World) (hr : Row w B A (ints zs)) (hr' : Row w C A' (ints zs)) (hm : zs.length ≤ maxLen) :
    Calls Tryz.prog 53 #[.slice A zs.length c, .slice A' zs.length c'] w (Quiet (.bool true) w) := by
  unfold maxLen at hm
  go_enter Tryz.func53, Tryz.ntmps53
  go_wp2
  go_loopw [5] (fun i wr => ∃ k : Nat, k ≤ zs.length ∧ i = .int .i64 k ∧ Dr w wr) (fun i _ => zs.length - (intOf i).toNat)
  case atStart => exact ⟨0, Nat.zero_le _, rfl, .refl _⟩
  case round =>
    obtain ⟨k, hk, rfl, HW⟩ := hrel
    by_cases hlt : k < zs.length
    · obtain ⟨ad, rfl, hb, hc⟩ := (HW.row hr).int_ hlt
      obtain ⟨ad', rfl, hb', hc'⟩ := (HW.row hr').int_ hlt
      go_wp2
      go_quiet (fail)
      go_wp2
      go_roundw
      case rel => exact ⟨k + 1, by omega, by go_num, HW.drewN _⟩
      case measure => simp [intOf]; omega
    · have hk' : k = zs.length := by omega
      subst hk'
      go_wp2
      go_ret
      exact HW.quiet _

set_option maxHeartbeats 1000000 in
theorem sameInts_same (B C : Nat) (A A' : Option Addr) (c c' : Nat) (zs : List Int) (w : World) (hr : Row w B A (ints zs)) (hr' : Row w C A' (ints zs)) (hm : zs.length ≤ maxLen) :
    Calls Tryz.prog 17 #[.slice A zs.length c, .slice A' zs.length c'] w (Quiet (.bool true) w) := by
  unfold maxLen at hm
  go_enter Tryz.func17, Tryz.ntmps17
  go_wp2
  go_loopw [5] (fun i wr => ∃ k : Nat, k ≤ zs.length ∧ i = .int .i64 k ∧ Dr w wr) (fun i _ => zs.length - (intOf i).toNat)
  case atStart => exact ⟨0, Nat.zero_le _, rfl, .refl _⟩
  case round =>
    obtain ⟨k, hk, rfl, HW⟩ := hrel
    by_cases hlt : k < zs.length
    · obtain ⟨ad, rfl, hb, hc⟩ := (HW.row hr).int_ hlt
      obtain ⟨ad', rfl, hb', hc'⟩ := (HW.row hr').int_ hlt
      go_wp2
      go_quiet (fail)
      go_wp2
      go_roundw
      case rel => exact ⟨k + 1, by omega, by go_num, HW.drewN _⟩
      case measure => simp [intOf]; omega
    · have hk' : k = zs.length := by omega
      subst hk'
      go_wp2
      go_ret
      exact HW.quiet _

theorem sameInts_ret (A A' : Option Addr) (c c' : Nat) (zs : List Int) (w : World) (B C : Nat) (hr : Row w B A (ints zs)) (hr' : Row w C A' (ints zs)) (hm : zs.length ≤ maxLen) :
    Calls Tryz.prog 17 #[.slice A zs.length c, .slice A' zs.length c'] w (Ret (.bool true) w) :=
  (sameInts_same _ _ A A' c c' zs w hr hr' hm).mono fun _ _ ⟨he, d, hd⟩ => ⟨he, by subst hd; exact Wo.Below.drewN (Below.refl _ _) d⟩
/-- The numbers k, k+1, .., n of them. -/
def marks (k : Int) (n : Nat) : List Int := (List.range n).map (fun i => k + (i : Nat))
theorem marks_length (k : Int) (n : Nat) : (marks k n).length = n := by simp [marks]
theorem marks_get (k : Int) (n i : Nat) (h : i < (marks k n).length) : (marks k n)[i] = k + (i : Nat) := by simp [marks]

/-- Only cells of block g have been written. -/
def Wrote (g : Nat) (w w' : World) : Prop := w.grownBy w' (some g) ∧ w'.heap.size = w.heap.size ∧ ∀ (B : Nat) (e : TypeId) (sz n c : Nat) (xs : List Value), w.ownsRow B e sz (.slice (some ⟨g, 0, none⟩) n c) n xs → ∃ xs', w'.ownsRow B e sz (.slice (some ⟨g, 0, none⟩) n c) n xs'
theorem Wrote.refl (g : Nat) (w : World) : Wrote g w w := ⟨World.grownBy.refl w _, rfl, fun _ _ _ _ _ xs h => ⟨xs, h⟩⟩
theorem Wrote.set_ {g : Nat} {w w' : World} (h : Wrote g w w') (j : Nat) (u : Value) : Wrote g w (w'.setCell ⟨g, j, none⟩ u) := by
  obtain ⟨h1, h2, h3⟩ := h
  refine ⟨⟨h1.os, h1.tape, h1.output, by simpa using h1.size, fun i hi hne => ?_⟩, by simpa using h2, fun B e sz n c xs ho => ?_⟩
  · rw [Below.heap_setCell _ _ _ _ (fun e => hne (by rw [e]))]
    exact h1.block i hi hne
  · obtain ⟨xs', ho'⟩ := h3 B e sz n c xs ho
    exact ⟨_, (World.ownsRow.stored ho' j u).1⟩
theorem Wrote.own {g : Nat} {w w' : World} (h : Wrote g w w') {B : Nat} {e : TypeId} {sz n c : Nat} {g' : Nat} {xs : List Value} (ho : w.ownsRow B e sz (.slice (some ⟨g', 0, none⟩) n c) n xs) : ∃ xs', w'.ownsRow B e sz (.slice (some ⟨g', 0, none⟩) n c) n xs' := by
  by_cases hg : g' = g
  · subst hg
    exact h.2.2 _ _ _ _ _ _ ho
  · exact ⟨xs, World.ownsRow.kept ho h.1 (.inr (fun e => hg (by injection e)))⟩
theorem take_marks {xs : List Value} {k : Int} {n i : Nat} (h : xs.take i = (ints (marks k n)).take i) (hi : i < n) (hx : xs.length = n) : (xs.set i (.int .i64 (k + i))).take (i + 1) = (ints (marks k n)).take (i + 1) := by
  have hl : (ints (marks k n)).length = n := by rw [ints_length, marks_length]
  have := take_set (xs := xs) (ys := ints (marks k n)) h (by omega) (by omega)
  rw [ints_get _ _ (by rw [marks_length]; exact hi), marks_get] at this
  exact this

set_option maxHeartbeats 1000000 in
theorem markIntS_own (B g n c : Nat) (k : Int) (xs : List Value) (w : World) (ho : w.ownsRow B 3 1 (.slice (some ⟨g, 0, none⟩) n c) n xs) (hn : n ≤ 1048576) (h0 : 0 ≤ k) (h1 : k ≤ 4503599627370496) :
    Calls Tryz.prog 56 #[.slice (some ⟨g, 0, none⟩) n c, .int .i64 k] w (fun e w' => e = .returned (.int .i64 (k + n)) ∧ Wrote g w w' ∧ w'.ownsRow B 3 1 (.slice (some ⟨g, 0, none⟩) n c) n (ints (marks k n))) := by
  go_enter Tryz.func56, Tryz.ntmps56
  go_wp2_with fail
  have hx0 : Hid (∃ ys : List Value, w.ownsRow B 3 1 (.slice (some ⟨g, 0, none⟩) n c) n ys ∧ ys.take 0 = (ints (marks k n)).take 0) := ⟨xs, ho, by simp⟩
  clear ho
  go_loopw [1, 5] (fun q i wr => ∃ m : Nat, m ≤ n ∧ i = .int .i64 m ∧ q = .int .i64 (k + m) ∧ Wrote g w wr ∧ Hid (∃ ys : List Value, wr.ownsRow B 3 1 (.slice (some ⟨g, 0, none⟩) n c) n ys ∧ ys.take m = (ints (marks k n)).take m)) (fun _ i _ => n - (intOf i).toNat)
  case atStart => exact ⟨0, Nat.zero_le _, rfl, by simp, Wrote.refl _ _, hx0⟩
  case round =>
    obtain ⟨m, hm, rfl, rfl, hw, HX⟩ := hrel
    clear hx0
    obtain ⟨ys, hy, ht⟩ := HX.out
    clear HX
    have hyl : ys.length = n := by have := hy.1; omega
    by_cases hlt : m < n
    · have hv0 : ∃ v0, wr.cell? ⟨g, m, none⟩ = some v0 := ⟨_, (World.ownsRow.cellAt hy m (by omega)).trans (List.getElem?_eq_getElem (by omega))⟩
      obtain ⟨v0, hv0⟩ := hv0
      have hf0 := World.ownsRow.frozenAt hy m
      have hy2 := (World.ownsRow.stored hy m (.int .i64 (k + m))).1
      have ht2 := hid (take_marks ht hlt hyl)
      have hw2 := hw.set_ m (.int .i64 (k + m))
      clear ht hy hw
      go_wp2
      go_roundw
      case rel => exact ⟨m + 1, by omega, by go_num, by congr 1; omega, hw2, _, hy2, ht2.out⟩
      case measure => simp [intOf]; omega
    · have hm' : m = n := by omega
      subst hm'
      have e : ys = ints (marks k m) := by
        rw [List.take_of_length_le (by omega), List.take_of_length_le (by rw [ints_length, marks_length]; omega)] at ht
        exact ht
      subst e
      clear ht
      go_wp2
      go_ret
      exact ⟨rfl, hw, hy⟩

set_option maxHeartbeats 1000000 in
theorem heldIntS_yes (B : Nat) (A : Option Addr) (c n : Nat) (k : Int) (w : World) (hr : Row w B A (ints (marks k n))) (hn : n ≤ 1048576) (h0 : 0 ≤ k) (h1 : k ≤ 4503599627370496) :
    Calls Tryz.prog 58 #[.slice A n c, .int .i64 k] w (Same (.int .i64 (k + n)) w) := by
  go_enter Tryz.func58, Tryz.ntmps58
  go_wp2_with fail
  go_loop [1, 5] (fun q i => ∃ m : Nat, m ≤ n ∧ i = .int .i64 m ∧ q = .int .i64 (k + m)) (fun _ i => n - (intOf i).toNat)
  case atStart => exact ⟨0, Nat.zero_le _, rfl, by simp⟩
  case round =>
    obtain ⟨m, hm, rfl, rfl⟩ := hrel
    by_cases hlt : m < n
    · obtain ⟨ad, rfl, hb, hc⟩ := hr.int_ (k := m) (by rw [marks_length]; exact hlt)
      rw [marks_get] at hc
      go_wp2
      go_round
      case rel => exact ⟨m + 1, by omega, by go_num, by congr 1; omega⟩
      case measure => simp [intOf]; omega
    · have hm' : m = n := by omega
      subst hm'
      go_wp2
      go_ret
      exact ⟨rfl, rfl⟩

end Go.Proofs.YteaibflloeipaaaGreatDoor
namespace Go.Proofs.YteaibflloeipaaaGreatDoor
set_option maxRecDepth 100000
open Go.RowKit Go.ChangeShapes Go.WideShapes Go.Joins Wo Pu

section
variable {H : Type} {enc : TypeId × Value → H} {w : World} {held : Bool}

theorem row_of_cells {w : World} {a : Addr} {n : Nat} {f : Nat → Value} (h : ∀ i, i < n → w.cell? (a.add i) = some (f i)) : Row w w.heap.size (some a) ((List.range n).map f) := by
  rcases Nat.eq_zero_or_pos n with h0 | h0
  · subst h0
    exact .inl rfl
  · refine .inr ⟨a, rfl, ?_, fun j v hv => ?_⟩
    · have := World.block_lt_of_cell? _ _ (h 0 h0)
      rwa [add_block] at this
    · rw [List.getElem?_map] at hv
      rcases Nat.lt_or_ge j n with hj | hj
      · rw [List.getElem?_range hj] at hv
        rw [h j hj]
        exact hv
      · rw [List.getElem?_eq_none (by simpa using hj)] at hv
        cases hv

/-- A slice of ints. -/
theorem read_ints {fuel : Nat} {cs : List Value} {x : DataW H × List MemPlace} (h : DataW.trod enc Tryz.prog w 0 (fun _ => true) held fuel 24 cs = some x) :
    ∃ (A : Option Addr) (c : Nat) (zs : List Int), cs = [.slice A zs.length c] ∧ Row w w.heap.size A (ints zs) ∧ zs.length ≤ maxLen ∧ ∀ z ∈ zs, (Lit.int .i64 z).wf = true := by
  rcases open_ints Tryz.underlying24 Tryz.underlying3 (by kernel_rfl) h with ⟨hcs, _⟩ | ⟨a, len, cap, zs, hcs, _, hl, hm, hz, _, hcell, hwf⟩
  · exact ⟨none, 0, [], hcs, .inl rfl, Nat.zero_le _, fun z hz => by cases hz⟩
  · simp only [if_true] at hz
    have hlen : (zs.take len).length = len := by rw [List.length_take]; omega
    refine ⟨some a, cap, zs.take len, by rw [hlen]; exact hcs, ?_, by omega, fun z hz => hwf z (List.mem_of_mem_take hz)⟩
    have hr := row_of_cells (n := len) (f := fun i => .int .i64 (zs.getD i 0)) (fun i hi => hcell i (by omega))
    have e : ints (zs.take len) = (List.range len).map (fun i => Value.int .i64 (zs.getD i 0)) := by
      apply List.ext_getElem
      · rw [ints_length, hlen]; simp
      · intro i h1 h2
        simp at h2
        rw [ints_get _ _ (by rw [hlen]; exact h2)]
        simp [List.getD, List.getElem?_eq_getElem (show i < zs.length by omega)]
    rw [e]
    exact hr

theorem read_bytes {fuel : Nat} {cs : List Value} {x : DataW H × List MemPlace} (h : DataW.trod enc Tryz.prog w 0 (fun _ => true) held fuel 22 cs = some x) :
    ∃ (A : Option Addr) (c : Nat) (bs : List Int), cs = [.slice A bs.length c] ∧ Row w w.heap.size A (bs.map (Value.int .u8)) ∧ bs.length ≤ c ∧ c ≤ maxLen ∧ ∀ n ∈ bs, 0 ≤ n ∧ n < 256 := by
  rcases open_ints Tryz.underlying22 Tryz.underlying5 (by kernel_rfl) h with ⟨hcs, _⟩ | ⟨a, len, cap, zs, hcs, _, hl, hm, hz, _, hcell, hwf⟩
  · exact ⟨none, 0, [], hcs, .inl rfl, Nat.zero_le _, Nat.zero_le _, fun z hz => by cases hz⟩
  · simp only [if_true] at hz
    have hlen : (zs.take len).length = len := by rw [List.length_take]; omega
    refine ⟨some a, cap, zs.take len, by rw [hlen]; exact hcs, ?_, by omega, hm, fun z hz => ?_⟩
    · have hr := row_of_cells (n := len) (f := fun i => .int .u8 (zs.getD i 0)) (fun i hi => hcell i (by omega))
      have e : (zs.take len).map (Value.int .u8) = (List.range len).map (fun i => Value.int .u8 (zs.getD i 0)) := by
        apply List.ext_getElem
        · rw [List.length_map, hlen]; simp
        · intro i h1 h2
          simp at h2
          simp [List.getD, List.getElem?_eq_getElem (show i < zs.length by omega)]
      rw [e]
      exact hr
    · have hw := hwf z (List.mem_of_mem_take hz)
      have hb := bounds_u8 hw
      omega

/-- A slice of bytes. -/
theorem open_bytes {base : Nat} {v : Value} {d : DataW H} {p : List MemPlace} (_hv : Value.okWide Tryz.prog w .any base 22 v) (h : DataW.Trod enc Tryz.prog w 0 (fun _ => true) held 22 v d p) :
    ∃ (A : Option Addr) (c : Nat) (bs : List Int), v = .slice A bs.length c ∧ Row w w.heap.size A (bs.map (Value.int .u8)) ∧ bs.length ≤ c ∧ c ≤ maxLen ∧ ∀ n ∈ bs, 0 ≤ n ∧ n < 256 := by
  obtain ⟨A0, n0, c0, rfl⟩ := okWide_slice Tryz.underlying22 _hv
  obtain ⟨fuel, hf⟩ := h
  obtain ⟨A, c, bs, e, h1⟩ := read_bytes hf
  refine ⟨A, c, bs, ?_, h1⟩
  simpa [Value.cells] using e

/-- A list of ints. -/
theorem open_zs {base : Nat} {v : Value} {d : DataW H} {p : List MemPlace} (_hv : Value.okWide Tryz.prog w .any base 24 v) (h : DataW.Trod enc Tryz.prog w 0 (fun _ => true) held 24 v d p) :
    ∃ (A : Option Addr) (c : Nat) (zs : List Int), v = .slice A zs.length c ∧ Row w w.heap.size A (ints zs) ∧ zs.length ≤ maxLen := by
  obtain ⟨A0, n0, c0, rfl⟩ := okWide_slice Tryz.underlying24 _hv
  obtain ⟨fuel, hf⟩ := h
  obtain ⟨A, c, zs, e, hr, hm, _⟩ := read_ints hf
  refine ⟨A, c, zs, ?_, hr, hm⟩
  simpa [Value.cells] using e

end
end Go.Proofs.YteaibflloeipaaaGreatDoor
namespace Go.Proofs.YteaibflloeipaaaGreatDoor
namespace Rf

/-- An update: which ref, its old and its new id. -/
structure Up where
  r : Int
  o : Int
  n : Int
theorem Up.ext' {a b : Up} (h1 : a.r = b.r) (h2 : a.o = b.o) (h3 : a.n = b.n) : a = b := by cases a; cases b; cases h1; cases h2; cases h3; rfl
/-- An id or none. -/
def Val (n : Int) : Prop := -1 ≤ n ∧ n ≤ 990
def RV (zs : List Int) : Prop := zs.length = 4 ∧ ∀ z ∈ zs, Val z
/-- The update alone is right. -/
def Ok (u : Up) : Prop := (0 ≤ u.r ∧ u.r ≤ 3) ∧ Val u.o ∧ Val u.n ∧ u.o ≠ u.n
/-- The updates, after one of the ref k. -/
def Asc : Int → List Up → Prop
  | _, [] => True
  | k, u :: us => k < u.r ∧ Ok u ∧ Asc u.r us
def UV (us : List Up) : Prop := us ≠ [] ∧ Asc (-1) us
theorem Asc.nil (k : Int) : Asc k [] := trivial
theorem Asc.weak {k k' : Int} {us : List Up} (h : Asc k us) (hk : k' ≤ k) : Asc k' us := by
  cases us with
  | nil => trivial
  | cons u us => exact ⟨by have := h.1; omega, h.2⟩
theorem Asc.mem {us : List Up} : ∀ {k : Int}, Asc k us → ∀ u ∈ us, k < u.r ∧ Ok u := by
  induction us with
  | nil => intro k _ u hu; cases hu
  | cons v us ih =>
    intro k h u hu
    rcases List.mem_cons.1 hu with rfl | hu
    · exact ⟨h.1, h.2.1⟩
    · obtain ⟨h1, h2⟩ := ih h.2.2 u hu
      exact ⟨by have := h.1; omega, h2⟩
theorem Asc.drop1 {us : List Up} : ∀ {k : Int}, Asc k us → ∀ i, Asc k (us.take i ++ us.drop (i + 1)) := by
  induction us with
  | nil => intro k _ i; simp [Asc]
  | cons u us ih =>
    intro k h i
    cases i with
    | zero => exact (h.2.2).weak (by have := h.1; omega)
    | succ i => exact ⟨h.1, h.2.1, ih h.2.2 i⟩
theorem Asc.twice {us : List Up} : ∀ {k : Int} {i : Nat}, i < us.length → ¬ Asc k (us.take (i + 1) ++ us.drop i) := by
  induction us with
  | nil => intro k i hi; simp at hi
  | cons u us ih =>
    intro k i hi h
    cases i with
    | zero => have := h.2.2.1; omega
    | succ i => exact ih (by simpa using hi) h.2.2
/-- By places: the update at each place is right, and comes behind the one ahead of it. -/
theorem asc_iff {us : List Up} : ∀ {k : Int}, Asc k us ↔ ∀ i (h : i < us.length), Ok us[i] ∧ (if _hi : i = 0 then k < us[i].r else (us[i - 1]'(by omega)).r < us[i].r) := by
  induction us with
  | nil => intro k; exact ⟨fun _ i h => absurd h (Nat.not_lt_zero _), fun _ => trivial⟩
  | cons u us ih =>
    intro k
    constructor
    · rintro ⟨h1, h2, h3⟩ i hi
      cases i with
      | zero => exact ⟨h2, by simpa using h1⟩
      | succ i =>
        obtain ⟨g1, g2⟩ := ih.1 h3 i (by simpa using hi)
        refine ⟨g1, ?_⟩
        rw [dif_neg (by omega)]
        cases i with
        | zero => simpa using g2
        | succ i => rw [dif_neg (by omega)] at g2; exact g2
    · intro h
      refine ⟨by have := (h 0 (by simp)).2; rwa [dif_pos rfl] at this, (h 0 (by simp)).1, ih.2 fun i hi => ?_⟩
      obtain ⟨g1, g2⟩ := h (i + 1) (by simpa using hi)
      refine ⟨g1, ?_⟩
      rw [dif_neg (by omega)] at g2
      cases i with
      | zero => rw [dif_pos rfl]; exact g2
      | succ i => rw [dif_neg (by omega)]; exact g2

/-! ### Updates performed. -/
def fit1 (zs : List Int) (u : Up) : Prop := zs[u.r.toNat]? = some u.o
def Fits (zs : List Int) (us : List Up) : Prop := ∀ u ∈ us, fit1 zs u
def setR (zs : List Int) (us : List Up) : List Int := us.foldl (fun zs u => zs.set u.r.toNat u.n) zs
theorem setR_nil (zs : List Int) : setR zs [] = zs := rfl
theorem setR_cons (zs : List Int) (u : Up) (us : List Up) : setR zs (u :: us) = setR (zs.set u.r.toNat u.n) us := rfl
theorem setR_snoc (zs : List Int) (us : List Up) (u : Up) : setR zs (us ++ [u]) = (setR zs us).set u.r.toNat u.n := by unfold setR; rw [List.foldl_append]; rfl
theorem setR_length (us : List Up) : ∀ zs : List Int, (setR zs us).length = zs.length := by
  induction us with
  | nil => intro zs; rfl
  | cons u us ih => intro zs; rw [setR_cons, ih, List.length_set]
/-- What becomes of the ref r, that had w. -/
def wantAt (r : Nat) (w : Int) (us : List Up) : Int := us.foldl (fun w u => if u.r.toNat = r then u.n else w) w
theorem wantAt_snoc (r : Nat) (w : Int) (us : List Up) (u : Up) : wantAt r w (us ++ [u]) = if u.r.toNat = r then u.n else wantAt r w us := by unfold wantAt; rw [List.foldl_append]; rfl
theorem wantAt_nil (r : Nat) (w : Int) : wantAt r w [] = w := rfl
theorem setR_get (us : List Up) : ∀ (zs : List Int) (r : Nat), (setR zs us)[r]? = zs[r]?.map (fun w => wantAt r w us) := by
  induction us with
  | nil => intro zs r; cases h : zs[r]? <;> simp [setR, wantAt, h]
  | cons u us ih =>
    intro zs r
    rw [setR_cons, ih, List.getElem?_set]
    by_cases h : u.r.toNat = r
    · subst h
      rw [if_pos rfl]
      by_cases hl : u.r.toNat < zs.length
      · rw [if_pos hl, List.getElem?_eq_getElem hl]
        simp [wantAt]
      · rw [if_neg hl, List.getElem?_eq_none (by omega)]
        rfl
    · rw [if_neg h]
      cases zs[r]? with
      | none => rfl
      | some w => simp [wantAt, h]
theorem setR_RV {zs : List Int} {us : List Up} (h : RV zs) (hu : ∀ u ∈ us, Val u.n) : RV (setR zs us) := by
  induction us generalizing zs with
  | nil => exact h
  | cons u us ih =>
    rw [setR_cons]
    refine ih ⟨by rw [List.length_set]; exact h.1, fun z hz => ?_⟩ (fun v hv => hu v (List.mem_cons_of_mem _ hv))
    rcases List.mem_or_eq_of_mem_set hz with hz | rfl
    · exact h.2 z hz
    · exact hu u (List.mem_cons_self ..)
/-- A ref ahead of all updates keeps its id. -/
theorem wantAt_far {us : List Up} : ∀ {k : Int} {r : Nat} {w : Int}, Asc k us → (r : Int) ≤ k → wantAt r w us = w := by
  induction us with
  | nil => intros; rfl
  | cons u us ih =>
    intro k r w h hr
    have h1 := h.1
    have hne : ¬ u.r.toNat = r := by omega
    show wantAt r (if u.r.toNat = r then u.n else w) us = w
    rw [if_neg hne]
    exact ih h.2.2 (by omega)
/-- A ref of an update gets its new id. -/
theorem wantAt_new {us : List Up} : ∀ {k : Int} {u : Up} {w : Int}, Asc k us → u ∈ us → wantAt u.r.toNat w us = u.n := by
  induction us with
  | nil => intro k u w _ hu; cases hu
  | cons v us ih =>
    intro k u w h hu
    show wantAt u.r.toNat (if v.r.toNat = u.r.toNat then v.n else w) us = u.n
    rcases List.mem_cons.1 hu with rfl | hu
    · rw [if_pos rfl]
      exact wantAt_far h.2.2 (by have := h.2.1.1; omega)
    · exact ih h.2.2 hu
/-- A ref of no update keeps its id. -/
theorem wantAt_no {us : List Up} {r : Nat} {w : Int} (h : ∀ u ∈ us, u.r.toNat ≠ r) : wantAt r w us = w := by
  induction us generalizing w with
  | nil => rfl
  | cons v us ih =>
    show wantAt r (if v.r.toNat = r then v.n else w) us = w
    rw [if_neg (h v (List.mem_cons_self ..))]
    exact ih fun u hu => h u (List.mem_cons_of_mem _ hu)
theorem Asc.inj {us : List Up} {k : Int} (h : Asc k us) {u v : Up} (hu : u ∈ us) (hv : v ∈ us) (e : u.r.toNat = v.r.toNat) : u.n = v.n := by
  have h1 := wantAt_new (w := 0) h hu
  rw [e, wantAt_new (w := 0) h hv] at h1
  exact h1.symm
theorem setR_at {zs : List Int} {us : List Up} {k : Int} (h : Asc k us) (hz : zs.length = 4) {u : Up} (hu : u ∈ us) : (setR zs us)[u.r.toNat]? = some u.n := by
  have hr := (h.mem u hu).2.1
  rw [setR_get, List.getElem?_eq_getElem (by omega), Option.map_some, wantAt_new h hu]
theorem apply_twice {zs : List Int} {us : List Up} (h : UV us) (hz : zs.length = 4) : ¬ Fits (setR zs us) us := by
  obtain ⟨hne, ha⟩ := h
  obtain ⟨u, hu⟩ := List.exists_mem_of_ne_nil us hne
  intro hf
  have h1 := hf u hu
  unfold fit1 at h1
  rw [setR_at ha hz hu] at h1
  injection h1 with h1
  exact (ha.mem u hu).2.2.2.2 h1.symm

/-! ### Undone. -/
def inv1 (u : Up) : Up := ⟨u.r, u.n, u.o⟩
def inv (us : List Up) : List Up := us.map inv1
theorem inv_inv (us : List Up) : inv (inv us) = us := by
  unfold inv
  rw [List.map_map]
  conv => rhs; rw [← List.map_id us]
  exact List.map_congr_left fun u _ => rfl
theorem Asc.inv {us : List Up} : ∀ {k : Int}, Asc k us → Asc k (Rf.inv us) := by
  induction us with
  | nil => intro k _; trivial
  | cons u us ih => intro k h; exact ⟨h.1, ⟨h.2.1.1, h.2.1.2.2.1, h.2.1.2.1, fun e => h.2.1.2.2.2 e.symm⟩, ih h.2.2⟩
theorem UV.inv {us : List Up} (h : UV us) : UV (Rf.inv us) := ⟨by unfold Rf.inv; simp [h.1], h.2.inv⟩
theorem fits_inv {zs : List Int} {us : List Up} (h : UV us) (hz : zs.length = 4) : Fits (setR zs us) (inv us) := by
  intro v hv
  obtain ⟨u, hu, rfl⟩ := List.mem_map.1 hv
  exact setR_at h.2 hz hu
theorem set_back {zs : List Int} {us : List Up} (h : UV us) (hf : Fits zs us) : setR (setR zs us) (inv us) = zs := by
  apply List.ext_getElem?
  intro r
  rw [setR_get, setR_get]
  cases hz : zs[r]? with
  | none => rfl
  | some w =>
    simp only [Option.map_some, Option.some.injEq]
    by_cases hex : ∃ u ∈ us, u.r.toNat = r
    · obtain ⟨u, hu, rfl⟩ := hex
      have hi := wantAt_new (w := wantAt u.r.toNat w us) h.2.inv (List.mem_map_of_mem hu : inv1 u ∈ inv us)
      have : (inv1 u).r.toNat = u.r.toNat := rfl
      rw [this] at hi
      rw [hi]
      have h1 := hf u hu
      unfold fit1 at h1
      rw [hz] at h1
      injection h1 with h1
      exact h1.symm
    · have hno : ∀ u ∈ us, u.r.toNat ≠ r := fun u hu e => hex ⟨u, hu, e⟩
      rw [wantAt_no (us := inv us) fun v hv => by obtain ⟨u, hu, rfl⟩ := List.mem_map.1 hv; exact hno u hu, wantAt_no hno]

/-! ### Differences. -/
/-- The differences from the ref k on. -/
def difL (k : Int) : List Int → List Int → List Up
  | a :: as1, b :: bs => if a = b then difL (k + 1) as1 bs else ⟨k, a, b⟩ :: difL (k + 1) as1 bs
  | _, _ => []
theorem difL_nil (k : Int) : difL k [] [] = [] := rfl
theorem difL_asc : ∀ (as1 bs : List Int) (k : Int), 0 ≤ k → k + as1.length ≤ 4 → (∀ z ∈ as1, Val z) → (∀ z ∈ bs, Val z) → Asc (k - 1) (difL k as1 bs)
  | [], _, _, _, _, _, _ => trivial
  | _ :: _, [], _, _, _, _, _ => trivial
  | a :: as1, b :: bs, k, h0, hl, ha, hb => by
    rw [List.length_cons] at hl
    have ih := difL_asc as1 bs (k + 1) (by omega) (by omega) (fun z hz => ha z (List.mem_cons_of_mem _ hz)) (fun z hz => hb z (List.mem_cons_of_mem _ hz))
    unfold difL
    by_cases e : a = b
    · rw [if_pos e]; exact ih.weak (by omega)
    · rw [if_neg e]
      refine ⟨by show k - 1 < k; omega, ⟨⟨h0, by show k ≤ 3; omega⟩, ha a (List.mem_cons_self ..), hb b (List.mem_cons_self ..), e⟩, ?_⟩
      have : k + 1 - 1 = k := by omega
      rw [this] at ih
      exact ih
theorem difL_inv : ∀ (as1 bs : List Int) (k : Int), difL k bs as1 = inv (difL k as1 bs)
  | [], [], _ => rfl
  | [], _ :: _, _ => rfl
  | _ :: _, [], _ => rfl
  | a :: as1, b :: bs, k => by
    unfold difL
    by_cases e : a = b
    · rw [if_pos e, if_pos e.symm]; exact difL_inv as1 bs (k + 1)
    · rw [if_neg e, if_neg fun e' => e e'.symm]
      show _ = (⟨k, b, a⟩ : Up) :: inv (difL (k + 1) as1 bs)
      rw [difL_inv as1 bs (k + 1)]
theorem difL_none : ∀ (as1 bs : List Int) (k : Int), as1.length = bs.length → difL k as1 bs = [] → as1 = bs
  | [], [], _, _, _ => rfl
  | [], _ :: _, _, h, _ => by simp at h
  | _ :: _, [], _, h, _ => by simp at h
  | a :: as1, b :: bs, k, h, he => by
    unfold difL at he
    by_cases e : a = b
    · rw [if_pos e] at he
      rw [e, difL_none as1 bs (k + 1) (by simpa using h) he]
    · rw [if_neg e] at he
      cases he
theorem difL_same : ∀ (as1 : List Int) (k : Int), difL k as1 as1 = []
  | [], _ => rfl
  | a :: as1, k => by unfold difL; rw [if_pos rfl]; exact difL_same as1 (k + 1)
theorem difL_mem : ∀ (as1 bs : List Int) (k : Int) (u : Up), u ∈ difL k as1 bs → ∃ i : Nat, u.r = k + i ∧ as1[i]? = some u.o ∧ bs[i]? = some u.n
  | [], _, _, _, h => by cases h
  | _ :: _, [], _, _, h => by cases h
  | a :: as1, b :: bs, k, u, h => by
    unfold difL at h
    by_cases e : a = b
    · rw [if_pos e] at h
      obtain ⟨i, h1, h2, h3⟩ := difL_mem as1 bs (k + 1) u h
      exact ⟨i + 1, by omega, h2, h3⟩
    · rw [if_neg e] at h
      rcases List.mem_cons.1 h with rfl | h
      · exact ⟨0, by simp, rfl, rfl⟩
      · obtain ⟨i, h1, h2, h3⟩ := difL_mem as1 bs (k + 1) u h
        exact ⟨i + 1, by omega, h2, h3⟩
theorem difL_all : ∀ (as1 bs : List Int) (k : Int) (i : Nat) (x y : Int), as1[i]? = some x → bs[i]? = some y → x ≠ y → (⟨k + i, x, y⟩ : Up) ∈ difL k as1 bs
  | [], _, _, i, _, _, h, _, _ => by simp at h
  | _ :: _, [], _, i, _, _, _, h, _ => by simp at h
  | a :: as1, b :: bs, k, i, x, y, hx, hy, hne => by
    unfold difL
    cases i with
    | zero =>
      injection hx with hx
      injection hy with hy
      subst hx
      subst hy
      rw [if_neg hne]
      simp
    | succ i =>
      have ih := difL_all as1 bs (k + 1) i x y hx hy hne
      have e2 : k + 1 + (i : Int) = k + ((i + 1 : Nat) : Int) := by omega
      rw [e2] at ih
      by_cases e : a = b
      · rw [if_pos e]; exact ih
      · rw [if_neg e]; exact List.mem_cons_of_mem _ ih
def dif (from_ to_ : List Int) : List Up := difL 0 from_ to_
theorem dif_UV {a b : List Int} (ha : RV a) (hb : RV b) (h : dif a b ≠ []) : UV (dif a b) := ⟨h, difL_asc a b 0 (by omega) (by rw [ha.1]; omega) ha.2 hb.2⟩
theorem dif_fits {a b : List Int} : Fits a (dif a b) := by
  intro u hu
  obtain ⟨i, h1, h2, _⟩ := difL_mem a b 0 u hu
  unfold fit1
  rw [show u.r.toNat = i from by omega]
  exact h2
theorem dif_set {a b : List Int} (ha : RV a) (hb : RV b) : setR a (dif a b) = b := by
  have hasc := difL_asc a b 0 (by omega) (by rw [ha.1]; omega) ha.2 hb.2
  apply List.ext_getElem?
  intro r
  rw [setR_get]
  by_cases hr : r < 4
  · rw [List.getElem?_eq_getElem (by rw [ha.1]; exact hr), List.getElem?_eq_getElem (by rw [hb.1]; exact hr), Option.map_some]
    congr 1
    by_cases e : a[r]'(by rw [ha.1]; exact hr) = b[r]'(by rw [hb.1]; exact hr)
    · rw [← e]
      refine wantAt_no fun u hu er => ?_
      obtain ⟨i, h1, h2, h3⟩ := difL_mem a b 0 u hu
      have hi : i = r := by omega
      subst hi
      rw [List.getElem?_eq_getElem (by rw [ha.1]; exact hr)] at h2
      rw [List.getElem?_eq_getElem (by rw [hb.1]; exact hr)] at h3
      injection h2 with h2
      injection h3 with h3
      exact ((hasc.mem u hu).2.2.2.2) (by rw [← h2, ← h3]; exact e)
    · have hm := difL_all a b 0 r _ _ (List.getElem?_eq_getElem (by rw [ha.1]; exact hr)) (List.getElem?_eq_getElem (by rw [hb.1]; exact hr)) e
      have := wantAt_new (w := a[r]'(by rw [ha.1]; exact hr)) hasc hm
      rw [show (0 + (r : Int)).toNat = r from by omega] at this
      exact this
  · rw [List.getElem?_eq_none (by rw [ha.1]; omega), List.getElem?_eq_none (by rw [hb.1]; omega)]
    rfl
/-- Ascending updates with the same members are the same. -/
theorem asc_eq {us : List Up} : ∀ {vs : List Up} {k k' : Int}, Asc k us → Asc k' vs → (∀ u, u ∈ us ↔ u ∈ vs) → us = vs := by
  induction us with
  | nil =>
    intro vs k k' _ _ h
    cases vs with
    | nil => rfl
    | cons v vs => exact absurd ((h v).2 (List.mem_cons_self ..)) (by simp)
  | cons u us ih =>
    intro vs k k' hu hv h
    cases vs with
    | nil => exact absurd ((h u).1 (List.mem_cons_self ..)) (by simp)
    | cons v vs =>
      have e : u = v := by
        rcases List.mem_cons.1 ((h u).1 (List.mem_cons_self ..)) with e | h1
        · exact e
        · rcases List.mem_cons.1 ((h v).2 (List.mem_cons_self ..)) with e | h2
          · exact e.symm
          · have := (hv.2.2.mem u h1).1
            have := (hu.2.2.mem v h2).1
            omega
      subst e
      rw [ih hu.2.2 hv.2.2 fun x => ?_]
      constructor
      · intro hx
        rcases List.mem_cons.1 ((h x).1 (List.mem_cons_of_mem _ hx)) with e | h1
        · subst e; have := (hu.2.2.mem x hx).1; omega
        · exact h1
      · intro hx
        rcases List.mem_cons.1 ((h x).2 (List.mem_cons_of_mem _ hx)) with e | h1
        · subst e; have := (hv.2.2.mem x hx).1; omega
        · exact h1
theorem dif_apply {zs : List Int} {us : List Up} (hz : RV zs) (hu : UV us) (hf : Fits zs us) : dif zs (setR zs us) = us := by
  have hs := setR_RV hz fun u h => (hu.2.mem u h).2.2.2.1
  refine asc_eq (difL_asc _ _ 0 (by omega) (by rw [hz.1]; omega) hz.2 hs.2) hu.2 fun u => ⟨fun h => ?_, fun h => ?_⟩
  · obtain ⟨i, h1, h2, h3⟩ := difL_mem _ _ 0 u h
    have hne : u.o ≠ u.n := ((difL_asc _ _ 0 (by omega) (by rw [hz.1]; omega) hz.2 hs.2).mem u h).2.2.2.2
    rw [setR_get, h2, Option.map_some] at h3
    injection h3 with h3
    by_cases hex : ∃ v ∈ us, v.r.toNat = i
    · obtain ⟨v, hv, rfl⟩ := hex
      have hv1 := hf v hv
      unfold fit1 at hv1
      rw [h2] at hv1
      injection hv1 with hv1
      rw [wantAt_new hu.2 hv] at h3
      have hr := (hu.2.mem v hv).2.1
      have : u = v := Up.ext' (by omega) hv1 h3.symm
      rw [this]; exact hv
    · rw [wantAt_no fun v hv e => hex ⟨v, hv, e⟩] at h3
      exact absurd h3 hne
  · have hr := (hu.2.mem u h).2.1
    have h1 := hf u h
    unfold fit1 at h1
    have h2 := setR_at hu.2 hz.1 h
    have := difL_all zs (setR zs us) 0 u.r.toNat u.o u.n h1 h2 (hu.2.mem u h).2.2.2.2
    have e : (⟨0 + (u.r.toNat : Int), u.o, u.n⟩ : Up) = u := Up.ext' (by show 0 + (u.r.toNat : Int) = u.r; omega) rfl rfl
    rw [e] at this
    exact this

/-! ### Crossing. -/
def Cross (a b : List Up) : Prop := UV a ∧ UV b ∧ ∃ u ∈ a, ∃ v ∈ b, u.r = v.r
theorem Cross.symm {a b : List Up} (h : Cross a b) : Cross b a := by
  obtain ⟨h1, h2, u, hu, v, hv, e⟩ := h
  exact ⟨h2, h1, v, hv, u, hu, e.symm⟩
theorem cross_comm (a b : List Up) : Cross a b ↔ Cross b a := ⟨.symm, .symm⟩
theorem cross_self {a : List Up} (h : UV a) : Cross a a := by
  obtain ⟨u, hu⟩ := List.exists_mem_of_ne_nil a h.1
  exact ⟨h, h, u, hu, u, hu, rfl⟩
theorem no_cross {a b : List Up} (ha : UV a) (hb : UV b) (h : ¬ Cross a b) : ∀ u ∈ a, ∀ v ∈ b, u.r.toNat ≠ v.r.toNat := fun u hu v hv e => by
  have h1 := (ha.2.mem u hu).2.1
  have h2 := (hb.2.mem v hv).2.1
  exact h ⟨ha, hb, u, hu, v, hv, by omega⟩
theorem fits_far {zs : List Int} {a b : List Up} (h : ∀ u ∈ a, ∀ v ∈ b, u.r.toNat ≠ v.r.toNat) : Fits (setR zs a) b ↔ Fits zs b := by
  refine forall_congr' fun v => forall_congr' fun hv => ?_
  unfold fit1
  rw [setR_get]
  cases hz : zs[v.r.toNat]? with
  | none => exact Iff.rfl
  | some w => rw [Option.map_some, wantAt_no fun u hu => h u hu v hv]
theorem set_comm {zs : List Int} {a b : List Up} (ha : UV a) (h : ∀ u ∈ a, ∀ v ∈ b, u.r.toNat ≠ v.r.toNat) : setR (setR zs a) b = setR (setR zs b) a := by
  apply List.ext_getElem?
  intro r
  rw [setR_get, setR_get, setR_get, setR_get]
  cases zs[r]? with
  | none => rfl
  | some w =>
    simp only [Option.map_some, Option.some.injEq]
    by_cases h1 : ∃ u ∈ a, u.r.toNat = r
    · obtain ⟨u, hu, rfl⟩ := h1
      rw [wantAt_no fun v hv e => h u hu v hv e.symm, wantAt_new ha.2 hu, wantAt_new ha.2 hu]
    · have n1 : ∀ u ∈ a, u.r.toNat ≠ r := fun u hu e => h1 ⟨u, hu, e⟩
      rw [wantAt_no (us := a) n1, wantAt_no (us := a) n1]

/-! ### What RefsApply answers. -/
/-- By which of the three ways: invalid, not fitting, performed. -/
inductive RWay | bad | no | yes
def applied (zs : List Int) (us : List Up) : RWay → List Int
  | .bad => []
  | .no => zs
  | .yes => setR zs us
def RWay.ok : RWay → Bool
  | .yes => true
  | _ => false
def IsRWay (zs : List Int) (us : List Up) : RWay → Prop
  | .bad => ¬ (RV zs ∧ UV us)
  | .no => RV zs ∧ UV us ∧ ¬ Fits zs us
  | .yes => RV zs ∧ UV us ∧ Fits zs us
theorem way_of (zs : List Int) (us : List Up) : ∃ y, IsRWay zs us y := by
  by_cases h : RV zs ∧ UV us
  · by_cases hf : Fits zs us
    · exact ⟨.yes, h.1, h.2, hf⟩
    · exact ⟨.no, h.1, h.2, hf⟩
  · exact ⟨.bad, h⟩
end Rf
end Go.Proofs.YteaibflloeipaaaGreatDoor
namespace Go.Proofs.YteaibflloeipaaaGreatDoor
open Go.RowKit Wo Pu Rf

def upV (o : Up) : List Value := [.int .i64 o.r, .int .i64 o.o, .int .i64 o.n]
def upsV (os : List Up) : List Value := os.flatMap upV
theorem upsV_length (os : List Up) : (upsV os).length = os.length * 3 := by
  induction os with
  | nil => rfl
  | cons o os ih => show (upV o ++ upsV os).length = _; rw [List.length_append, ih, List.length_cons]; show 3 + _ = _; omega
theorem upsV_append (os ps : List Up) : upsV (os ++ ps) = upsV os ++ upsV ps := List.flatMap_append
theorem upsV_one (o : Up) : upsV [o] = upV o := by simp [upsV]
theorem upsV_get {os : List Up} {k d : Nat} (hk : k < os.length) (hd : d < 3) : (upsV os)[k * 3 + d]? = (upV os[k])[d]? := by
  induction os generalizing k with
  | nil => simp at hk
  | cons o os ih =>
    show (upV o ++ upsV os)[k * 3 + d]? = _
    cases k with
    | zero =>
      rw [Nat.zero_mul, Nat.zero_add, List.getElem?_append_left (by show d < 3; exact hd)]
      rfl
    | succ k =>
      rw [List.getElem?_append_right (by show 3 ≤ _; omega), show (k + 1) * 3 + d - (upV o).length = k * 3 + d from by show (k + 1) * 3 + d - 3 = _; omega, ih (by simpa using hk)]
      rfl
theorem upsV_take (os : List Up) (k : Nat) : upsV (os.take k) = (upsV os).take (k * 3) := by
  induction os generalizing k with
  | nil => simp [upsV]
  | cons o os ih =>
    cases k with
    | zero => simp [upsV]
    | succ k =>
      show upV o ++ upsV (os.take k) = (upV o ++ upsV os).take _
      rw [ih, List.take_append, show (k + 1) * 3 - (upV o).length = k * 3 from by show (k + 1) * 3 - 3 = _; omega, List.take_of_length_le (l := upV o) (by show 3 ≤ _; omega)]
theorem upsV_drop (os : List Up) (k : Nat) : upsV (os.drop k) = (upsV os).drop (k * 3) := by
  induction os generalizing k with
  | nil => simp [upsV]
  | cons o os ih =>
    cases k with
    | zero => simp [upsV]
    | succ k =>
      show upsV (os.drop k) = (upV o ++ upsV os).drop _
      rw [ih, List.drop_append, show (k + 1) * 3 - (upV o).length = k * 3 from by show (k + 1) * 3 - 3 = _; omega, List.drop_of_length_le (l := upV o) (by show 3 ≤ _; omega)]
      rfl
theorem upV_cells (o : Up) : ∀ u ∈ upV o, u.oneCell' = true := by
  intro u hu
  simp only [upV, List.mem_cons, List.not_mem_nil, or_false] at hu
  rcases hu with rfl | rfl | rfl <;> rfl
theorem upsV_cells (os : List Up) : ∀ u ∈ upsV os, u.oneCell' = true := by
  intro u hu
  obtain ⟨o, _, hu⟩ := List.mem_flatMap.1 hu
  exact upV_cells o u hu

theorem Wo.Row.up_ {w : World} {B : Nat} {A : Option Addr} {os : List Up} (h : Row w B A (upsV os)) {k : Nat} (hk : k < os.length) :
    ∃ (o : Up) (ad : Addr), os[k] = o ∧ A = some ad ∧ (ad.add (k * 3)).block < B ∧ w.cell? (ad.add (k * 3)) = some (.int .i64 o.r) ∧ w.cell? ⟨(ad.add (k * 3)).block, (ad.add (k * 3)).off + 1, none⟩ = some (.int .i64 o.o) ∧
      w.cell? ⟨(ad.add (k * 3)).block, (ad.add (k * 3)).off + 2, none⟩ = some (.int .i64 o.n) := by
  have hl := upsV_length os
  rcases h with h | ⟨ad, e, hb, hc⟩
  · rw [h] at hl; simp at hl; omega
  · have h0 := hc (k * 3 + 0) (.int .i64 os[k].r) (by rw [upsV_get hk (by omega)]; rfl)
    have h1 := hc (k * 3 + 1) (.int .i64 os[k].o) (by rw [upsV_get hk (by omega)]; rfl)
    have h2 := hc (k * 3 + 2) (.int .i64 os[k].n) (by rw [upsV_get hk (by omega)]; rfl)
    rw [← add_add] at h0 h1 h2
    exact ⟨_, ad, rfl, e, by rw [add_block]; exact hb, by rw [add_zero] at h0; exact h0, h1, h2⟩
/-- The cells of a whole update. -/
theorem Wo.Row.drew {w : World} {B : Nat} {A : Option Addr} {vs : List Value} (h : Row w B A vs) : Row w.drew B A vs := h

/-- The numbers are what Go's are. -/
def Int64 (z : Int) : Prop := -9223372036854775808 ≤ z ∧ z ≤ 9223372036854775807
def FitU (os : List Up) : Prop := ∀ o ∈ os, Int64 o.r ∧ Int64 o.o ∧ Int64 o.n
theorem FitU.get {os : List Up} (h : FitU os) {k : Nat} (hk : k < os.length) {o : Up} (e : os[k] = o) : Int64 o.r ∧ Int64 o.o ∧ Int64 o.n := by
  subst e; exact h _ (List.getElem_mem hk)
/-- A list of updates of the call's own. -/
def OwnUps (w : World) (B : Nat) (v : Value) (os : List Up) : Prop := w.ownsRow B 164 3 v os.length (upsV os)
theorem OwnUps.below {w w' : World} {B : Nat} {v : Value} {os : List Up} (h : OwnUps w B v os) (hb : Below w.heap.size w w') : OwnUps w' B v os := own_below h hb (Nat.le_refl _)
theorem OwnUps.but {w w' : World} {R B : Nat} {v : Value} {os : List Up} (h : OwnUps w B v os) (hb : But R w w') (hR : R < B) : OwnUps w' B v os := by
  refine World.ownsRow.kept h hb ?_
  rcases hv : v.ownBlock with _ | k
  · exact .inl rfl
  · refine .inr (fun e => ?_)
    have := (World.ownsRow.lt h k hv).1
    injection e with e
    omega
theorem OwnUps.base {w : World} {B B' : Nat} {v : Value} {os : List Up} (h : OwnUps w B v os) (hB : B' ≤ B) : OwnUps w B' v os := by
  obtain ⟨h1, h2⟩ := h
  refine ⟨h1, ?_⟩
  rcases h2 with h | ⟨g, cap, cur, hv, hb, hr⟩
  · exact .inl h
  · exact .inr ⟨g, cap, cur, hv, by omega, hr⟩
theorem OwnUps.lt {w : World} {B : Nat} {v : Value} {os : List Up} (h : OwnUps w B v os) : ∀ k, v.ownBlock = some k → B ≤ k := fun k hk => (World.ownsRow.lt h k hk).1
theorem OwnUps.nil_new {w : World} {B : Nat} (hB : B ≤ w.heap.size) : OwnUps (w.alloc (.cells #[] 164)) B (.slice (some ⟨w.heap.size, 0, none⟩) 0 0) [] := nil_own hB _ _
theorem OwnUps.form {w : World} {B : Nat} {v : Value} {os : List Up} (h : OwnUps w B v os) : ∃ (A : Option Addr) (c : Nat), v = .slice A os.length c ∧ Row w w.heap.size A (upsV os) ∧ os.length ≤ c := by
  have h1 := h
  obtain ⟨hl, h2⟩ := h
  rcases h2 with ⟨rfl, h0⟩ | ⟨g, cap, cur, rfl, hB, hh, hn, hm, hcs, htk⟩
  · have h0' : os.length = 0 := by omega
    exact ⟨none, 0, by rw [h0'], .inl (List.eq_nil_of_length_eq_zero (by rw [upsV_length]; omega)), by omega⟩
  · exact ⟨some ⟨g, 0, none⟩, cap, rfl, .inr ⟨_, rfl, (World.ownsRow.lt h1 g rfl).2, World.ownsRow.cells h1 (g := g) rfl⟩, hn⟩
theorem info_up : (Tryz.prog.info? 164).map (fun i => (i.zero, i.size, i.bytes)) = some (some (.agg #[.int .i64 0, .int .i64 0, .int .i64 0]), 3, 24) := by kernel_rfl
/-- Behind it: a list of updates of the call's own. -/
def NewUps (os : List Up) (w : World) (e : Ending) (w' : World) : Prop := ∃ v, e = .returned v ∧ OwnUps w' w.heap.size v os ∧ Below w.heap.size w w'
theorem NewUps.mk_ {os : List Up} {v : Value} {w w' : World} (h : OwnUps w' w.heap.size v os) (hb : Below w.heap.size w w') : NewUps os w (.returned v) w' := ⟨v, rfl, h, hb⟩
end Go.Proofs.YteaibflloeipaaaGreatDoor
namespace Go.Proofs.YteaibflloeipaaaGreatDoor
open Go.RowKit Wo Pu Rf

/-! ### Blocks of one cell and of two. -/
def Blk1 (w : World) (g : Nat) (t : TypeId) (v0 : Value) : Prop := w.heap[g]? = some (.cells #[v0] t (0, 0))
def Blk2s (w : World) (g : Nat) (t : TypeId) (v0 v1 : Value) : Prop := w.heap[g]? = some (.cells #[v0, v1] t (0, 0))
def Blk3s (w : World) (g : Nat) (t : TypeId) (v0 v1 v2 : Value) : Prop := w.heap[g]? = some (.cells #[v0, v1, v2] t (0, 0))
theorem blk_lt {w : World} {g : Nat} {o : Obj} (h : w.heap[g]? = some o) : g < w.heap.size := by
  rcases Nat.lt_or_ge g w.heap.size with h1 | h1
  · exact h1
  · rw [Array.getElem?_eq_none h1] at h; cases h
section
variable {w w' : World} {g : Nat} {t : TypeId} {v0 v1 v2 : Value}
theorem Blk1.lt (h : Blk1 w g t v0) : g < w.heap.size := blk_lt h
theorem Blk2s.lt (h : Blk2s w g t v0 v1) : g < w.heap.size := blk_lt h
theorem Blk3s.lt (h : Blk3s w g t v0 v1 v2) : g < w.heap.size := blk_lt h
theorem Blk1.reads (h : Blk1 w g t v0) : w.cell? ⟨g, 0, none⟩ = some v0 ∧ ∀ o, w.frozen? ⟨g, o, none⟩ = false := by
  unfold Blk1 at h
  exact ⟨by simp [World.cell?, h], fun o => by simp [World.frozen?, h]⟩
theorem Blk2s.reads (h : Blk2s w g t v0 v1) : w.cell? ⟨g, 0, none⟩ = some v0 ∧ w.cell? ⟨g, 1, none⟩ = some v1 ∧ ∀ o, w.frozen? ⟨g, o, none⟩ = false := by
  unfold Blk2s at h
  exact ⟨by simp [World.cell?, h], by simp [World.cell?, h], fun o => by simp [World.frozen?, h]⟩
theorem Blk3s.reads (h : Blk3s w g t v0 v1 v2) : w.cell? ⟨g, 0, none⟩ = some v0 ∧ w.cell? ⟨g, 1, none⟩ = some v1 ∧ w.cell? ⟨g, 2, none⟩ = some v2 ∧ ∀ o, w.frozen? ⟨g, o, none⟩ = false := by
  unfold Blk3s at h
  exact ⟨by simp [World.cell?, h], by simp [World.cell?, h], by simp [World.cell?, h], fun o => by simp [World.frozen?, h]⟩
theorem Blk1.new_ (w : World) (t : TypeId) (v0 : Value) : Blk1 (w.alloc (.cells #[v0] t)) w.heap.size t v0 := heap_alloc_new w _
theorem Blk2s.new_ (w : World) (t : TypeId) (v0 v1 : Value) : Blk2s (w.alloc (.cells #[v0, v1] t)) w.heap.size t v0 v1 := heap_alloc_new w _
theorem Blk3s.new_ (w : World) (t : TypeId) (v0 v1 v2 : Value) : Blk3s (w.alloc (.cells #[v0, v1, v2] t)) w.heap.size t v0 v1 v2 := heap_alloc_new w _
theorem Blk1.below {C : Nat} (h : Blk1 w g t v0) (hb : Below C w w') (hC : g < C) : Blk1 w' g t v0 := (hb.block g hC).trans h
theorem Blk2s.below {C : Nat} (h : Blk2s w g t v0 v1) (hb : Below C w w') (hC : g < C) : Blk2s w' g t v0 v1 := (hb.block g hC).trans h
theorem Blk3s.below {C : Nat} (h : Blk3s w g t v0 v1 v2) (hb : Below C w w') (hC : g < C) : Blk3s w' g t v0 v1 v2 := (hb.block g hC).trans h
theorem Blk1.later (h : Blk1 w g t v0) (hb : Below w.heap.size w w') : Blk1 w' g t v0 := h.below hb h.lt
theorem Blk2s.later (h : Blk2s w g t v0 v1) (hb : Below w.heap.size w w') : Blk2s w' g t v0 v1 := h.below hb h.lt
theorem Blk3s.later (h : Blk3s w g t v0 v1 v2) (hb : Below w.heap.size w w') : Blk3s w' g t v0 v1 v2 := h.below hb h.lt
theorem Blk1.alloc (h : Blk1 w g t v0) (o : Obj) : Blk1 (w.alloc o) g t v0 := h.later ((Below.refl _ _).alloc (Nat.le_refl _) o)
theorem Blk2s.alloc (h : Blk2s w g t v0 v1) (o : Obj) : Blk2s (w.alloc o) g t v0 v1 := h.later ((Below.refl _ _).alloc (Nat.le_refl _) o)
theorem Blk3s.alloc (h : Blk3s w g t v0 v1 v2) (o : Obj) : Blk3s (w.alloc o) g t v0 v1 v2 := h.later ((Below.refl _ _).alloc (Nat.le_refl _) o)
theorem Blk1.far (h : Blk1 w g t v0) {p : Addr} (hp : g ≠ p.block) (u : Value) : Blk1 (w.setCell p u) g t v0 := (Below.heap_setCell w p u g hp).trans h
theorem Blk2s.far (h : Blk2s w g t v0 v1) {p : Addr} (hp : g ≠ p.block) (u : Value) : Blk2s (w.setCell p u) g t v0 v1 := (Below.heap_setCell w p u g hp).trans h
theorem Blk3s.far (h : Blk3s w g t v0 v1 v2) {p : Addr} (hp : g ≠ p.block) (u : Value) : Blk3s (w.setCell p u) g t v0 v1 v2 := (Below.heap_setCell w p u g hp).trans h
theorem Blk1.set0 (h : Blk1 w g t v0) (u : Value) : Blk1 (w.setCell ⟨g, 0, none⟩ u) g t u := by unfold Blk1 at h ⊢; simp [World.setCell, Array.getElem?_modify, h]
theorem Blk2s.set0 (h : Blk2s w g t v0 v1) (u : Value) : Blk2s (w.setCell ⟨g, 0, none⟩ u) g t u v1 := by unfold Blk2s at h ⊢; simp [World.setCell, Array.getElem?_modify, h]
theorem Blk2s.set1 (h : Blk2s w g t v0 v1) (u : Value) : Blk2s (w.setCell ⟨g, 1, none⟩ u) g t v0 u := by unfold Blk2s at h ⊢; simp [World.setCell, Array.getElem?_modify, h]
theorem Blk3s.set0 (h : Blk3s w g t v0 v1 v2) (u : Value) : Blk3s (w.setCell ⟨g, 0, none⟩ u) g t u v1 v2 := by unfold Blk3s at h ⊢; simp [World.setCell, Array.getElem?_modify, h]
theorem Blk3s.set1 (h : Blk3s w g t v0 v1 v2) (u : Value) : Blk3s (w.setCell ⟨g, 1, none⟩ u) g t v0 u v2 := by unfold Blk3s at h ⊢; simp [World.setCell, Array.getElem?_modify, h]
theorem Blk3s.set2 (h : Blk3s w g t v0 v1 v2) (u : Value) : Blk3s (w.setCell ⟨g, 2, none⟩ u) g t v0 v1 u := by unfold Blk3s at h ⊢; simp [World.setCell, Array.getElem?_modify, h]
theorem Blk1.grown {row : Option Nat} (h : Blk1 w g t v0) (hg : w.grownBy w' row) (hr : some g ≠ row) : Blk1 w' g t v0 := (hg.block g h.lt hr).trans h
theorem Blk2s.grown {row : Option Nat} (h : Blk2s w g t v0 v1) (hg : w.grownBy w' row) (hr : some g ≠ row) : Blk2s w' g t v0 v1 := (hg.block g h.lt hr).trans h
theorem Blk3s.grown {row : Option Nat} (h : Blk3s w g t v0 v1 v2) (hg : w.grownBy w' row) (hr : some g ≠ row) : Blk3s w' g t v0 v1 v2 := (hg.block g h.lt hr).trans h
/-- A block of another type than a row's. -/
theorem blk_ne_row {w : World} {g B n sz : Nat} {T T' : TypeId} {cs : Array Value} {fr : Nat × Nat} {v : Value} {ys : List Value} (h : w.heap[g]? = some (.cells cs T fr)) (hr : w.ownsRow B T' sz v n ys) (hT : T ≠ T') : some g ≠ v.ownBlock := fun e => by
  rcases hr.2 with ⟨rfl, _⟩ | ⟨g2, _, cur, rfl, _, hh, _⟩
  · cases e
  · have hk : g = g2 := by simpa [Value.ownBlock] using e
    subst hk
    rw [h] at hh
    injection hh with h3
    injection h3 with _ h3
    exact hT h3
theorem blk_type {w : World} {g : Nat} {T : TypeId} {cs : Array Value} {fr : Nat × Nat} (h : w.heap[g]? = some (.cells cs T fr)) : ∀ k, some g = some k → ∃ cur fr, w.heap[k]? = some (.cells cur T fr) := fun k hk => by
  injection hk with hk
  subst hk
  exact ⟨_, _, h⟩
theorem row_typed {w : World} {B n sz : Nat} {T : TypeId} {v : Value} {ys : List Value} (h : w.ownsRow B T sz v n ys) : ∀ g, v.ownBlock = some g → ∃ cur fr, w.heap[g]? = some (.cells cur T fr) := fun g hg => by
  rcases h.2 with ⟨rfl, _⟩ | ⟨g2, _, cur, rfl, _, hh, _⟩
  · cases hg
  · have hk : g2 = g := by simpa [Value.ownBlock] using hg
    subst hk
    exact ⟨cur, _, hh⟩
/-- A row lies in another block than one of another type. -/
theorem row_far_type {w w1 : World} {B sz n : Nat} {u : Value} {T T' : TypeId} {ys : List Value} {row : Option Nat} (h' : w.ownsRow B T sz u n ys) (hT : T ≠ T') (hg : w.grownBy w1 row) (hr : ∀ g, row = some g → ∃ cur fr, w.heap[g]? = some (.cells cur T' fr)) : w1.ownsRow B T sz u n ys := by
  refine World.ownsRow.kept h' hg ?_
  rcases hu : u.ownBlock with _ | k
  · exact .inl rfl
  · refine .inr (fun e => ?_)
    rcases h'.2 with ⟨rfl, _⟩ | ⟨g, _, cur, rfl, _, hh, _⟩
    · cases hu
    · have hk : g = k := by simpa [Value.ownBlock] using hu
      subst hk
      obtain ⟨cur2, fr2, hh2⟩ := hr g e.symm
      rw [hh] at hh2
      injection hh2 with h3
      injection h3 with _ h3
      exact hT h3
end
end Go.Proofs.YteaibflloeipaaaGreatDoor
namespace Go.Proofs.YteaibflloeipaaaGreatDoor
set_option maxRecDepth 100000
open Go.RowKit Go.ChangeShapes Go.WideShapes Go.Joins Wo Pu Rf

section
variable {H : Type} {enc : TypeId × Value → H} {w : World} {held : Bool}

theorem read_ups {fuel : Nat} {cs : List Value} {x : DataW H × List MemPlace} (hf : DataW.trod enc Tryz.prog w 0 (fun _ => true) held fuel 180 cs = some x) :
    ∃ (A : Option Addr) (c : Nat) (us : List Up), cs = [.slice A us.length c] ∧ Row w w.heap.size A (upsV us) ∧ us.length ≤ maxLen ∧ us.length ≤ c := by
  rcases Deep.open_slice Tryz.underlying180 hf with ⟨hcs, _⟩ | ⟨a, len, cap, m, n, D, Pl, hcs, _, hl, hm, hmm, _, hel⟩
  · exact ⟨none, 0, [], hcs, .inl rfl, Nat.zero_le _, Nat.zero_le _⟩
  · simp only [if_true] at hmm
    have one : ∀ i, i < len → ∃ o : Up, ∀ d u, (upV o)[d]? = some u → w.cell? (a.add (i * 3 + d)) = some u := fun i hi => by
      obtain ⟨cs', hc, ht⟩ := hel i (by omega)
      have hC : Tryz.prog.cellsOf 228 = 3 := by kernel_rfl
      rw [hC] at hc
      obtain ⟨_, hlen, hat⟩ := World.cells?_some hc
      match cs', hlen with
      | [c0, c1, c2], _ =>
        obtain ⟨y0, y1, y2, n', _, _, h0, h1, h2⟩ := Deep.trod_struct3 Tryz.underlying228 ht
        have k0 : Tryz.prog.cellsOf 3 = 1 := by kernel_rfl
        obtain ⟨x0, e0, _, _⟩ := DataW.trod_int Tryz.underlying3 (show DataW.trod enc Tryz.prog w 0 (fun _ => true) held n' 3 [c0] = some y0 by simpa [k0] using h0)
        obtain ⟨x1, e1, _, _⟩ := DataW.trod_int Tryz.underlying3 (show DataW.trod enc Tryz.prog w 0 (fun _ => true) held n' 3 [c1] = some y1 by simpa [k0] using h1)
        obtain ⟨x2, e2, _, _⟩ := DataW.trod_int Tryz.underlying3 (show DataW.trod enc Tryz.prog w 0 (fun _ => true) held n' 3 [c2] = some y2 by simpa [k0] using h2)
        have q0 := hat 0 (by omega)
        have q1 := hat 1 (by omega)
        have q2 := hat 2 (by omega)
        have f0 : c0 = .int .i64 x0 := by simpa using e0
        have f1 : c1 = .int .i64 x1 := by simpa using e1
        have f2 : c2 = .int .i64 x2 := by simpa using e2
        subst f0 f1 f2
        refine ⟨⟨x0, x1, x2⟩, fun d u hu => ?_⟩
        rw [← add_add]
        match d with
        | 0 => simp [upV] at hu; subst hu; exact q0
        | 1 => simp [upV] at hu; subst hu; exact q1
        | 2 => simp [upV] at hu; subst hu; exact q2
        | d + 3 => simp [upV] at hu
    have all : ∃ us : List Up, us.length = len ∧ ∀ i (hi : i < us.length), ∀ d u, (upV us[i])[d]? = some u → w.cell? (a.add (i * 3 + d)) = some u := by
      refine ⟨(List.range len).map fun i => if h : i < len then (one i h).choose else ⟨0, 0, 0⟩, by simp, fun i hi => ?_⟩
      have hi' : i < len := by simpa using hi
      simp only [List.getElem_map, List.getElem_range, hi', dite_true]
      exact (one i hi').choose_spec
    obtain ⟨us, ho, hos⟩ := all
    refine ⟨some a, cap, us, by rw [ho]; exact hcs, ?_, by omega, by omega⟩
    rcases Nat.eq_zero_or_pos us.length with h0 | h0
    · rw [List.eq_nil_of_length_eq_zero h0]; exact .inl rfl
    · refine .inr ⟨a, rfl, ?_, fun j u hu => ?_⟩
      · have q := hos 0 h0 0 _ rfl
        have := World.block_lt_of_cell? _ _ q
        rwa [add_block] at this
      · have hj : j < us.length * 3 := by
          rcases Nat.lt_or_ge j (us.length * 3) with h1 | h1
          · exact h1
          · rw [List.getElem?_eq_none (by rw [upsV_length]; exact h1)] at hu; cases hu
        have hd : j / 3 * 3 + j % 3 = j := by omega
        rw [← hd, upsV_get (by omega) (by omega)] at hu
        have := hos (j / 3) (by omega) _ u hu
        rwa [hd] at this
end
end Go.Proofs.YteaibflloeipaaaGreatDoor
namespace Go.Proofs.YteaibflloeipaaaGreatDoor
namespace Lk
open Rf

/-- A transaction or none. -/
def Own (n : Int) : Prop := -1 ≤ n ∧ n ≤ 11
def LV (zs : List Int) : Prop := zs.length = 4 ∧ ∀ z ∈ zs, Own z
def TV (t : Int) : Prop := 0 ≤ t ∧ t ≤ 11
/-- Taking is performing: from none to the transaction. -/
def lk1 (t : Int) (u : Up) : Up := ⟨u.r, -1, t⟩
def lk (t : Int) (us : List Up) : List Up := us.map (lk1 t)
theorem lk_length (t : Int) (us : List Up) : (lk t us).length = us.length := List.length_map _
theorem lk_asc {t : Int} (ht : TV t) {us : List Up} : ∀ {k : Int}, Asc k us → Asc k (lk t us) := by
  induction us with
  | nil => intro k _; trivial
  | cons u us ih =>
    intro k h
    refine ⟨h.1, ⟨h.2.1.1, ?_, ?_, ?_⟩, ih h.2.2⟩
    · show Val (-1); unfold Val; omega
    · show Val t; unfold Val; unfold TV at ht; omega
    · show (-1 : Int) ≠ t; unfold TV at ht; omega
theorem lk_UV {t : Int} (ht : TV t) {us : List Up} (h : UV us) : UV (lk t us) := ⟨(fun e => h.1 (by cases us with | nil => rfl | cons u us => cases e)), lk_asc ht h.2⟩
theorem take_LV {zs : List Int} {t : Int} {us : List Up} (hz : LV zs) (ht : TV t) : LV (setR zs (lk t us)) := by
  induction us generalizing zs with
  | nil => exact hz
  | cons u us ih =>
    show LV (setR (zs.set u.r.toNat t) (lk t us))
    refine ih ⟨by rw [List.length_set]; exact hz.1, fun z hm => ?_⟩
    rcases List.mem_or_eq_of_mem_set hm with hm | rfl
    · exact hz.2 z hm
    · unfold Own; unfold TV at ht; omega
theorem take_at {zs : List Int} {t : Int} {us : List Up} (hz : LV zs) (ht : TV t) (hu : UV us) {u : Up} (h : u ∈ us) : (setR zs (lk t us))[u.r.toNat]? = some t :=
  setR_at (u := lk1 t u) (lk_asc ht hu.2) hz.1 (List.mem_map_of_mem h)
theorem take_twice {zs : List Int} {t t2 : Int} {us : List Up} (hz : LV zs) (ht : TV t) (hu : UV us) : ¬ Fits (setR zs (lk t us)) (lk t2 us) := by
  obtain ⟨u, h⟩ := List.exists_mem_of_ne_nil us hu.1
  intro hf
  have h1 := hf (lk1 t2 u) (List.mem_map_of_mem h)
  unfold fit1 at h1
  have h2 := take_at hz ht hu h
  rw [show (lk1 t2 u).r = u.r from rfl, h2] at h1
  injection h1 with h1
  have : t = -1 := h1
  unfold TV at ht
  omega
theorem lk_far {t t2 : Int} {us vs : List Up} (h : ∀ u ∈ us, ∀ v ∈ vs, u.r.toNat ≠ v.r.toNat) : ∀ u ∈ lk t us, ∀ v ∈ lk t2 vs, u.r.toNat ≠ v.r.toNat := by
  intro u hu v hv
  obtain ⟨u', hu', rfl⟩ := List.mem_map.1 hu
  obtain ⟨v', hv', rfl⟩ := List.mem_map.1 hv
  exact h u' hu' v' hv'
theorem take_cross {zs : List Int} {t t2 : Int} {us vs : List Up} (hz : LV zs) (ht : TV t) (hu : UV us) (hv : UV vs) (hf : Fits zs (lk t2 vs)) : Fits (setR zs (lk t us)) (lk t2 vs) ↔ ¬ Cross us vs := by
  constructor
  · rintro h ⟨-, -, u, hu1, v, hv1, e⟩
    have h1 := h (lk1 t2 v) (List.mem_map_of_mem hv1)
    unfold fit1 at h1
    have h2 := take_at hz ht hu hu1
    rw [show (lk1 t2 v).r = u.r from e.symm, h2] at h1
    injection h1 with h1
    have : t = -1 := h1
    unfold TV at ht
    omega
  · intro h
    exact (fits_far (lk_far (no_cross hu hv h))).2 hf

/-! ### Whose. -/
def ofL : Int → Int → List Int → List Int
  | _, _, [] => []
  | k, t, z :: zs => if z = t then k :: ofL (k + 1) t zs else ofL (k + 1) t zs
theorem ofL_length (t : Int) : ∀ (zs : List Int) (k : Int), (ofL k t zs).length = zs.count t
  | [], _ => rfl
  | z :: zs, k => by
    have ih := ofL_length t zs (k + 1)
    unfold ofL
    by_cases e : z = t
    · rw [if_pos e, List.length_cons, ih, e, List.count_cons_self]
    · rw [if_neg e, ih, List.count_cons_of_ne e]
theorem ofL_mem (t x : Int) : ∀ (zs : List Int) (k : Int), x ∈ ofL k t zs ↔ ∃ i : Nat, x = k + i ∧ zs[i]? = some t
  | [], k => by simp [ofL]
  | z :: zs, k => by
    have ih := ofL_mem t x zs (k + 1)
    unfold ofL
    constructor
    · intro h
      by_cases e : z = t
      · rw [if_pos e] at h
        rcases List.mem_cons.1 h with rfl | h
        · exact ⟨0, by simp, by rw [e]; rfl⟩
        · obtain ⟨i, h1, h2⟩ := ih.1 h
          exact ⟨i + 1, by omega, h2⟩
      · rw [if_neg e] at h
        obtain ⟨i, h1, h2⟩ := ih.1 h
        exact ⟨i + 1, by omega, h2⟩
    · rintro ⟨i, h1, h2⟩
      cases i with
      | zero =>
        injection h2 with h2
        rw [if_pos h2]
        exact List.mem_cons.2 (.inl (by omega))
      | succ i =>
        have := ih.2 ⟨i, by omega, h2⟩
        by_cases e : z = t
        · rw [if_pos e]; exact List.mem_cons_of_mem _ this
        · rw [if_neg e]; exact this
theorem ofL_le (t : Int) (zs : List Int) (k : Int) : (ofL k t zs).length ≤ zs.length := by rw [ofL_length]; exact List.count_le_length
theorem ofL_none (t : Int) (zs : List Int) : (ofL 0 t zs).length = 0 ↔ t ∉ zs := by rw [ofL_length, List.count_eq_zero]
theorem ofL_at {t : Int} {zs : List Int} {r : Nat} (h : r < zs.length) : (r : Int) ∈ ofL 0 t zs ↔ zs[r] = t := by
  rw [ofL_mem]
  constructor
  · rintro ⟨i, h1, h2⟩
    have : i = r := by omega
    subst this
    rw [List.getElem?_eq_getElem h] at h2
    injection h2
  · intro e
    exact ⟨r, by omega, by rw [List.getElem?_eq_getElem h, e]⟩
theorem ofL_snoc (t : Int) : ∀ (zs : List Int) (z k : Int), ofL k t (zs ++ [z]) = ofL k t zs ++ (if z = t then [k + zs.length] else [])
  | [], z, k => by simp [ofL]
  | y :: zs, z, k => by
    have ih := ofL_snoc t zs z (k + 1)
    have e2 : k + 1 + (zs.length : Int) = k + ((y :: zs).length : Int) := by rw [List.length_cons]; omega
    rw [List.cons_append]
    unfold ofL
    by_cases e : y = t
    · rw [if_pos e, if_pos e, ih, e2]; rfl
    · rw [if_neg e, if_neg e, ih, e2]

/-! ### Freed. -/
def free1 (t z : Int) : Int := if z = t then -1 else z
def freeL (t : Int) (zs : List Int) : List Int := zs.map (free1 t)
theorem free_length (t : Int) (zs : List Int) : (freeL t zs).length = zs.length := List.length_map _
theorem free_LV {t : Int} {zs : List Int} (h : LV zs) : LV (freeL t zs) := by
  refine ⟨by rw [free_length]; exact h.1, fun z hz => ?_⟩
  obtain ⟨y, hy, rfl⟩ := List.mem_map.1 hz
  have := h.2 y hy
  unfold Own free1 at *
  split <;> omega
theorem free_none {t : Int} {zs : List Int} (h : TV t) : t ∉ freeL t zs := by
  intro hm
  obtain ⟨y, -, hy⟩ := List.mem_map.1 hm
  unfold TV at h
  unfold free1 at hy
  split at hy <;> omega
theorem free_same {t : Int} {zs : List Int} (h : t ∉ zs) : freeL t zs = zs := by
  unfold freeL
  conv => rhs; rw [← List.map_id zs]
  refine List.map_congr_left fun z hz => ?_
  unfold free1
  rw [if_neg (fun e => h (by rw [← e]; exact hz))]
  rfl
theorem free_at {t : Int} {zs : List Int} {r : Nat} (h : r < zs.length) (h2 : r < (freeL t zs).length) : (freeL t zs)[r] = if zs[r] = t then -1 else zs[r] := by
  have e : (freeL t zs)[r]? = some (free1 t zs[r]) := by
    unfold freeL
    rw [List.getElem?_map, List.getElem?_eq_getElem h]
    rfl
  rw [List.getElem?_eq_getElem h2] at e
  injection e
/-- What has been taken is freed again. -/
theorem free_take {zs : List Int} {t : Int} {us : List Up} (ht : TV t) (hu : UV us) (hf : Fits zs (lk t us)) (hn : t ∉ zs) : freeL t (setR zs (lk t us)) = zs := by
  apply List.ext_getElem?
  intro r
  unfold freeL
  rw [List.getElem?_map, setR_get]
  cases hz : zs[r]? with
  | none => rfl
  | some w =>
    simp only [Option.map_some, Option.some.injEq]
    by_cases hex : ∃ u ∈ us, u.r.toNat = r
    · obtain ⟨u, h, rfl⟩ := hex
      have h1 := wantAt_new (w := w) (u := lk1 t u) (lk_asc ht hu.2) (List.mem_map_of_mem h)
      rw [show (lk1 t u).r = u.r from rfl] at h1
      rw [h1]
      have h2 := hf (lk1 t u) (List.mem_map_of_mem h)
      unfold fit1 at h2
      rw [show (lk1 t u).r = u.r from rfl, hz] at h2
      injection h2 with h2
      show free1 t t = w
      unfold free1
      rw [if_pos rfl]
      exact h2.symm
    · rw [wantAt_no (us := lk t us) fun v hv => by obtain ⟨u, h, rfl⟩ := List.mem_map.1 hv; exact fun e => hex ⟨u, h, e⟩]
      unfold free1
      rw [if_neg fun e => hn (by rw [← e]; exact List.mem_of_getElem? hz)]
theorem take_has {zs : List Int} {t : Int} {us : List Up} (hz : LV zs) (ht : TV t) (hu : UV us) : t ∈ setR zs (lk t us) := by
  obtain ⟨u, h⟩ := List.exists_mem_of_ne_nil us hu.1
  exact List.mem_of_getElem? (take_at hz ht hu h)
theorem count_set {zs : List Int} {t : Int} : ∀ {r : Nat}, zs[r]? = some (-1) → t ≠ -1 → (zs.set r t).count t = zs.count t + 1 := by
  induction zs with
  | nil => intro r h; simp at h
  | cons z zs ih =>
    intro r h ht
    cases r with
    | zero =>
      injection h with h
      rw [List.set_cons_zero, List.count_cons_self, List.count_cons_of_ne (by rw [h]; exact fun e => ht e.symm)]
    | succ r =>
      rw [List.set_cons_succ]
      have := ih (r := r) h ht
      by_cases e : z = t
      · rw [e, List.count_cons_self, List.count_cons_self, this]
      · rw [List.count_cons_of_ne e, List.count_cons_of_ne e, this]
theorem take_count {t : Int} (ht : TV t) {us : List Up} : ∀ {zs : List Int} {k : Int}, Asc k us → Fits zs (lk t us) → (setR zs (lk t us)).count t = zs.count t + us.length := by
  induction us with
  | nil => intro zs k _ _; rfl
  | cons u us ih =>
    intro zs k h hf
    show (setR (zs.set u.r.toNat t) (lk t us)).count t = _
    have h0 := hf (lk1 t u) (List.mem_cons_self ..)
    unfold fit1 at h0
    rw [show (lk1 t u).r = u.r from rfl] at h0
    have hu0 := h.2.1.1.1
    have hf2 : Fits (zs.set u.r.toNat t) (lk t us) := by
      intro v hv
      obtain ⟨v', hv', rfl⟩ := List.mem_map.1 hv
      have h1 := hf (lk1 t v') (List.mem_cons_of_mem _ (List.mem_map_of_mem hv'))
      have h2 := (h.2.2.mem v' hv').1
      unfold fit1 at h1 ⊢
      rw [show (lk1 t v').r = v'.r from rfl] at h1 ⊢
      rw [List.getElem?_set_ne (by omega)]
      exact h1
    rw [ih h.2.2 hf2, count_set h0 (by unfold TV at ht; omega), List.length_cons]
    omega
/-! ### What LocksTake answers. -/
def IsLWay (zs : List Int) (t : Int) (us : List Up) : RWay → Prop
  | .bad => ¬ (LV zs ∧ TV t ∧ UV us)
  | .no => LV zs ∧ TV t ∧ UV us ∧ ¬ Fits zs (lk t us)
  | .yes => LV zs ∧ TV t ∧ UV us ∧ Fits zs (lk t us)
theorem lway_of (zs : List Int) (t : Int) (us : List Up) : ∃ y, IsLWay zs t us y := by
  by_cases h : LV zs ∧ TV t ∧ UV us
  · by_cases hf : Fits zs (lk t us)
    · exact ⟨.yes, h.1, h.2.1, h.2.2, hf⟩
    · exact ⟨.no, h.1, h.2.1, h.2.2, hf⟩
  · exact ⟨.bad, h⟩
/-- What LocksFree and LocksOf answer. -/
def freed (v : Bool) (zs : List Int) (t : Int) : List Int := if v then freeL t zs else []
def owned (v : Bool) (zs : List Int) (t : Int) : List Int := if v then ofL 0 t zs else []
end Lk
end Go.Proofs.YteaibflloeipaaaGreatDoor
namespace Go.Proofs.YteaibflloeipaaaGreatDoor
namespace Sh
open Rf Lk

/-- A record: its kind, its transaction, its updates. -/
structure Rec where
  k : Int
  t : Int
  us : List Up
/-- The state of a shard. -/
structure St where
  refs : List Int
  locks : List Int
/-- What the records say of a transaction: the kind of the last one. -/
def ask (rs : List Rec) (t : Int) : Int := rs.foldl (fun s r => if r.t = t then r.k else s) 0
/-- The updates of the first vote for it. -/
def upd : List Rec → Int → List Up
  | [], _ => []
  | r :: rs, t => if r.t = t ∧ r.k = 1 then r.us else upd rs t
theorem ask_snoc (rs : List Rec) (r : Rec) (t : Int) : ask (rs ++ [r]) t = if r.t = t then r.k else ask rs t := by
  unfold ask
  rw [List.foldl_append]
  rfl
theorem upd_snoc (rs : List Rec) (r : Rec) (t : Int) (h : r.t = t → r.k = 1 → ∀ x ∈ rs, ¬ (x.t = t ∧ x.k = 1)) : upd (rs ++ [r]) t = if r.t = t ∧ r.k = 1 then r.us else upd rs t := by
  induction rs with
  | nil => rfl
  | cons x rs ih =>
    show (if x.t = t ∧ x.k = 1 then x.us else upd (rs ++ [r]) t) = _
    have ih' := ih fun h1 h2 y hy => h h1 h2 y (List.mem_cons_of_mem _ hy)
    by_cases hx : x.t = t ∧ x.k = 1
    · rw [if_pos hx]
      by_cases hr : r.t = t ∧ r.k = 1
      · exact absurd hx (h hr.1 hr.2 x List.mem_cons_self)
      · rw [if_neg hr]
        show _ = (if x.t = t ∧ x.k = 1 then x.us else upd rs t)
        rw [if_pos hx]
    · rw [if_neg hx, ih']
      show _ = if r.t = t ∧ r.k = 1 then r.us else (if x.t = t ∧ x.k = 1 then x.us else upd rs t)
      rw [if_neg hx]
/-- A record that may follow on others, by its kind. -/
inductive Step (rs : List Rec) (s : St) (r : Rec) : St → Prop
  | prepare : r.k = 1 → ask rs r.t = 0 → UV r.us → Fits s.refs r.us → Fits s.locks (lk r.t r.us) → Step rs s r ⟨s.refs, setR s.locks (lk r.t r.us)⟩
  | commit : r.k = 2 → ask rs r.t = 1 → r.us = [] → Step rs s r ⟨setR s.refs (upd rs r.t), freeL r.t s.locks⟩
  | abort : r.k = 3 → (ask rs r.t = 0 ∨ ask rs r.t = 1) → r.us = [] → Step rs s r ⟨s.refs, freeL r.t s.locks⟩
theorem Step.one {rs : List Rec} {s : St} {r : Rec} {a b : St} (h1 : Step rs s r a) (h2 : Step rs s r b) : a = b := by
  cases h1 <;> cases h2 <;> first | rfl | omega
/-- What all records make of a new shard. -/
inductive Rcv : List Rec → St → Prop
  | nil : Rcv [] ⟨[-1, -1, -1, -1], [-1, -1, -1, -1]⟩
  | snoc {rs : List Rec} {s s' : St} {r : Rec} : Rcv rs s → TV r.t → Step rs s r s' → Rcv (rs ++ [r]) s'
/-- What holds of a shard all the time. -/
structure Inv (rs : List Rec) (s : St) : Prop where
  refs : RV s.refs
  locks : LV s.locks
  kinds : ∀ r ∈ rs, TV r.t ∧ (r.k = 1 ∨ r.k = 2 ∨ r.k = 3)
  none_ : ∀ t, ask rs t = 0 → ∀ r ∈ rs, r.t ≠ t
  prep : ∀ t, ask rs t = 1 → TV t ∧ UV (upd rs t) ∧ Fits s.refs (upd rs t) ∧ ∀ u ∈ upd rs t, s.locks[u.r.toNat]? = some t
  owner : ∀ (r : Nat) (z : Int), s.locks[r]? = some z → z = -1 ∨ (ask rs z = 1 ∧ ∃ u ∈ upd rs z, u.r.toNat = r)
theorem Inv.begin_ : Inv [] ⟨[-1, -1, -1, -1], [-1, -1, -1, -1]⟩ := by
  refine ⟨⟨rfl, fun z hz => ?_⟩, ⟨rfl, fun z hz => ?_⟩, fun r hr => (by cases hr), fun t _ r hr => (by cases hr), fun t ht => absurd ht (by unfold ask; simp), fun r z hz => .inl ?_⟩
  · simp at hz; subst hz; unfold Val; omega
  · simp at hz; subst hz; unfold Lk.Own; omega
  · match r, hz with
    | 0, hz => simpa using hz.symm
    | 1, hz => simpa using hz.symm
    | 2, hz => simpa using hz.symm
    | 3, hz => simpa using hz.symm
    | r + 4, hz => simp at hz
theorem ask_fresh {rs : List Rec} {s : St} (h : Inv rs s) {t : Int} (ht : ask rs t = 0) : ∀ x ∈ rs, ¬ (x.t = t ∧ x.k = 1) := fun x hx e => h.none_ t ht x hx e.1
theorem ask_kind {rs : List Rec} {s : St} (h : Inv rs s) {r : Rec} (hr : r.k ≠ 0) : ∀ t, ask (rs ++ [r]) t = 0 → ∀ x ∈ rs ++ [r], x.t ≠ t := fun t ht x hx e => by
  rw [ask_snoc] at ht
  by_cases hrt : r.t = t
  · rw [if_pos hrt] at ht; exact hr ht
  · rw [if_neg hrt] at ht
    rcases List.mem_append.1 hx with hx | hx
    · exact h.none_ t ht x hx e
    · rw [List.mem_singleton] at hx
      subst hx
      exact hrt e
theorem free_get {t : Int} {zs : List Int} {r : Nat} : (freeL t zs)[r]? = zs[r]?.map fun z => if z = t then -1 else z := by
  unfold freeL
  rw [List.getElem?_map]
  rfl
theorem setR_far {zs : List Int} {us : List Up} {r : Nat} (h : ∀ u ∈ us, u.r.toNat ≠ r) : (setR zs us)[r]? = zs[r]? := by
  rw [setR_get]
  cases hz : zs[r]? with
  | none => rfl
  | some w => simp [wantAt_no h]
theorem Inv.step {rs : List Rec} {s s' : St} {r : Rec} (h : Inv rs s) (ht : TV r.t) (hs : Step rs s r s') : Inv (rs ++ [r]) s' := by
  have hk : r.k = 1 ∨ r.k = 2 ∨ r.k = 3 := by cases hs <;> omega
  have kinds : ∀ x ∈ rs ++ [r], TV x.t ∧ (x.k = 1 ∨ x.k = 2 ∨ x.k = 3) := fun x hx => by
    rcases List.mem_append.1 hx with hx | hx
    · exact h.kinds x hx
    · rw [List.mem_singleton] at hx
      subst hx
      exact ⟨ht, hk⟩
  have none_ := ask_kind h (r := r) (by omega)
  cases hs with
  | prepare k1 k2 k3 k4 k5 =>
    have hu : ∀ t, upd (rs ++ [r]) t = if r.t = t ∧ r.k = 1 then r.us else upd rs t := fun t => upd_snoc rs r t fun e _ => ask_fresh h (by rw [← e]; exact k2)
    have far : ∀ z, ask rs z = 1 → ∀ u ∈ upd rs z, ∀ v ∈ lk r.t r.us, v.r.toNat ≠ u.r.toNat := fun z hz u hu' v hv e => by
      have h1 := (h.prep z hz).2.2.2 u hu'
      have h2 : s.locks[v.r.toNat]? = some v.o := k5 v hv
      obtain ⟨v0, hv0, rfl⟩ := List.mem_map.1 hv
      have h3 : s.locks[u.r.toNat]? = some (-1) := by rw [← e]; exact h2
      rw [h1] at h3
      have := (h.prep z hz).1
      unfold TV at this
      injection h3 with h3
      omega
    refine ⟨h.refs, take_LV h.locks ht, kinds, none_, fun t hat => ?_, fun i z hz => ?_⟩
    · rw [ask_snoc] at hat
      rw [hu t]
      by_cases e : r.t = t
      · rw [if_pos ⟨e, k1⟩]
        subst e
        exact ⟨ht, k3, k4, fun u hu' => take_at h.locks ht k3 hu'⟩
      · rw [if_neg e] at hat
        rw [if_neg fun x => e x.1]
        obtain ⟨p1, p2, p3, p4⟩ := h.prep t hat
        exact ⟨p1, p2, p3, fun u hu' => by rw [setR_far (far t hat u hu')]; exact p4 u hu'⟩
    · by_cases hex : ∃ u ∈ r.us, u.r.toNat = i
      · obtain ⟨u, hu', rfl⟩ := hex
        have h1 := take_at h.locks ht k3 hu'
        have e : z = r.t := by rw [show (setR s.locks (lk r.t r.us))[u.r.toNat]? = some z from hz] at h1; injection h1
        subst e
        right
        rw [ask_snoc, if_pos rfl, hu, if_pos ⟨rfl, k1⟩]
        exact ⟨k1, u, hu', rfl⟩
      · have hz' : s.locks[i]? = some z := by
          rw [← hz]
          refine (setR_far fun v hv e => hex ?_).symm
          obtain ⟨v0, hv0, rfl⟩ := List.mem_map.1 hv
          exact ⟨v0, hv0, e⟩
        rcases h.owner i z hz' with e | ⟨e1, e2⟩
        · exact .inl e
        · right
          have hne : ¬ r.t = z := fun e => by rw [e, e1] at k2; omega
          rw [ask_snoc, if_neg hne, hu, if_neg fun x => hne x.1]
          exact ⟨e1, e2⟩
  | commit k1 k2 k3 =>
    have hu : ∀ t, upd (rs ++ [r]) t = upd rs t := fun t => by rw [upd_snoc rs r t fun _ e => by omega, if_neg fun x => by omega]
    obtain ⟨q1, q2, q3, q4⟩ := h.prep r.t k2
    refine ⟨setR_RV h.refs fun u hu' => (q2.2.mem u hu').2.2.2.1, free_LV h.locks, kinds, none_, fun t hat => ?_, fun i z hz => ?_⟩
    · rw [ask_snoc] at hat
      by_cases e : r.t = t
      · rw [if_pos e] at hat; omega
      · rw [if_neg e] at hat
        rw [hu]
        obtain ⟨p1, p2, p3, p4⟩ := h.prep t hat
        refine ⟨p1, p2, fun u hu' => ?_, fun u hu' => ?_⟩
        · show (setR s.refs (upd rs r.t))[u.r.toNat]? = _
          rw [setR_far fun v hv e2 => e ?_]
          · exact p3 u hu'
          · have h1 := q4 v hv
            have h2 := p4 u hu'
            rw [e2, h2] at h1
            injection h1 with h1
            exact h1.symm
        · show (freeL r.t s.locks)[u.r.toNat]? = _
          rw [free_get, p4 u hu']
          simp only [Option.map_some, Option.some.injEq]
          rw [if_neg fun x => e x.symm]
    · rw [show (freeL r.t s.locks)[i]? = s.locks[i]?.map _ from free_get] at hz
      cases hz' : s.locks[i]? with
      | none => rw [hz'] at hz; cases hz
      | some z0 =>
        rw [hz'] at hz
        simp only [Option.map_some, Option.some.injEq] at hz
        by_cases e : z0 = r.t
        · rw [if_pos e] at hz; exact .inl hz.symm
        · rw [if_neg e] at hz
          subst hz
          rcases h.owner i z0 hz' with e' | ⟨e1, e2⟩
          · exact .inl e'
          · right
            rw [ask_snoc, if_neg fun x => e x.symm, hu]
            exact ⟨e1, e2⟩
  | abort k1 k2 k3 =>
    have hu : ∀ t, upd (rs ++ [r]) t = upd rs t := fun t => by rw [upd_snoc rs r t fun _ e => by omega, if_neg fun x => by omega]
    refine ⟨h.refs, free_LV h.locks, kinds, none_, fun t hat => ?_, fun i z hz => ?_⟩
    · rw [ask_snoc] at hat
      by_cases e : r.t = t
      · rw [if_pos e] at hat; omega
      · rw [if_neg e] at hat
        rw [hu]
        obtain ⟨p1, p2, p3, p4⟩ := h.prep t hat
        refine ⟨p1, p2, p3, fun u hu' => ?_⟩
        show (freeL r.t s.locks)[u.r.toNat]? = _
        rw [free_get, p4 u hu']
        simp only [Option.map_some, Option.some.injEq]
        rw [if_neg fun x => e x.symm]
    · rw [show (freeL r.t s.locks)[i]? = s.locks[i]?.map _ from free_get] at hz
      cases hz' : s.locks[i]? with
      | none => rw [hz'] at hz; cases hz
      | some z0 =>
        rw [hz'] at hz
        simp only [Option.map_some, Option.some.injEq] at hz
        by_cases e : z0 = r.t
        · rw [if_pos e] at hz; exact .inl hz.symm
        · rw [if_neg e] at hz
          subst hz
          rcases h.owner i z0 hz' with e' | ⟨e1, e2⟩
          · exact .inl e'
          · right
            rw [ask_snoc, if_neg fun x => e x.symm, hu]
            exact ⟨e1, e2⟩
theorem Rcv.inv {rs : List Rec} {s : St} (h : Rcv rs s) : Inv rs s := by
  induction h with
  | nil => exact Inv.begin_
  | snoc _ ht hs ih => exact ih.step ht hs
theorem Rcv.snoc_inv {rs : List Rec} {r : Rec} {s' : St} (h : Rcv (rs ++ [r]) s') : ∃ s, Rcv rs s ∧ TV r.t ∧ Step rs s r s' := by
  generalize hx : rs ++ [r] = xs at h
  cases h with
  | nil => exact absurd hx (by simp)
  | snoc h1 h2 h3 =>
    obtain ⟨rfl, e⟩ := List.append_inj' hx rfl
    simp only [List.cons.injEq, and_true] at e
    subst e
    exact ⟨_, h1, h2, h3⟩
theorem Rcv.one {rs : List Rec} : ∀ {a b : St}, Rcv rs a → Rcv rs b → a = b := by
  intro a b h
  induction h generalizing b with
  | nil =>
    intro k
    generalize hx : ([] : List Rec) = xs at k
    cases k with
    | nil => rfl
    | snoc _ _ _ => exact absurd hx.symm (by simp)
  | snoc h1 _ h3 ih =>
    intro k
    obtain ⟨s2, k1, _, k3⟩ := k.snoc_inv
    obtain rfl := ih k1
    exact h3.one k3
theorem Rcv.pre {xs ys : List Rec} {s : St} (h : Rcv (xs ++ ys) s) : ∃ s0, Rcv xs s0 := by
  generalize hz : xs ++ ys = zs at h
  induction h generalizing ys with
  | nil =>
    obtain ⟨rfl, -⟩ := List.append_eq_nil_iff.1 hz
    exact ⟨_, .nil⟩
  | @snoc rs s s' r h1 h2 h3 ih =>
    by_cases hy : ys = []
    · subst hy
      rw [List.append_nil] at hz
      subst hz
      exact ⟨_, .snoc h1 h2 h3⟩
    · have e := List.dropLast_concat_getLast hy
      rw [← e, ← List.append_assoc] at hz
      exact ih (List.append_inj' hz rfl).1
/-- Exactly prepared transactions have locks. -/
theorem Inv.has {rs : List Rec} {s : St} (h : Inv rs s) {t : Int} (ht : TV t) : t ∈ s.locks ↔ ask rs t = 1 := by
  refine ⟨fun hm => ?_, fun ha => ?_⟩
  · obtain ⟨i, hi, e⟩ := List.mem_iff_getElem.1 hm
    rcases h.owner i t (by rw [List.getElem?_eq_getElem hi, e]) with e | ⟨e, _⟩
    · unfold TV at ht; omega
    · exact e
  · obtain ⟨_, hu, _, hl⟩ := h.prep t ha
    obtain ⟨u, hu'⟩ := List.exists_mem_of_ne_nil _ hu.1
    exact List.mem_of_getElem? (hl u hu')
/-- The committed transactions, in their order. -/
def com (rs : List Rec) : List Int := (rs.filter fun r => r.k == 2).map Rec.t
theorem com_snoc (rs : List Rec) (r : Rec) : com (rs ++ [r]) = com rs ++ if r.k = 2 then [r.t] else [] := by
  unfold com
  rw [List.filter_append, List.map_append]
  by_cases e : r.k = 2
  · simp [e]
  · simp [e]
theorem Rcv.com_iff {rs : List Rec} {s : St} (h : Rcv rs s) (t : Int) : t ∈ com rs ↔ ask rs t = 2 := by
  induction h with
  | nil => unfold com ask; simp
  | @snoc rs s s' r h1 h2 h3 ih =>
    rw [com_snoc, ask_snoc]
    by_cases e : r.t = t
    · subst e
      rw [if_pos rfl]
      cases h3 with
      | prepare k1 k2 _ _ _ => rw [k1]; simp; rw [ih]; omega
      | commit k1 _ _ => rw [k1]; simp
      | abort k1 k2 _ => rw [k1]; simp; rw [ih]; omega
    · rw [if_neg e]
      have : t ∉ (if r.k = 2 then [r.t] else []) := by
        split
        · simp; exact fun x => e x.symm
        · simp
      rw [List.mem_append, ← ih]
      exact ⟨fun x => x.elim id fun y => absurd y this, .inl⟩
theorem Rcv.com_nodup {rs : List Rec} {s : St} (h : Rcv rs s) : (com rs).Nodup := by
  induction h with
  | nil => exact List.nodup_nil
  | @snoc rs s s' r h1 h2 h3 ih =>
    rw [com_snoc]
    split
    · rename_i hk
      rw [List.nodup_append]
      refine ⟨ih, List.nodup_cons.2 ⟨by simp, List.nodup_nil⟩, fun a ha b hb e => ?_⟩
      rw [List.mem_singleton] at hb
      subst hb
      subst e
      have := (h1.com_iff r.t).1 ha
      cases h3 <;> omega
    · rw [List.append_nil]; exact ih
def start : List Int := [-1, -1, -1, -1]
/-- The refs after the first transactions of a list. -/
def after (rs : List Rec) (ts : List Int) : List Int := ts.foldl (fun z t => setR z (upd rs t)) start
theorem after_congr {rs rs' : List Rec} {ts : List Int} (h : ∀ t ∈ ts, upd rs' t = upd rs t) : after rs' ts = after rs ts := by
  unfold after
  generalize start = z
  induction ts generalizing z with
  | nil => rfl
  | cons t ts ih =>
    show ts.foldl _ (setR z (upd rs' t)) = ts.foldl _ (setR z (upd rs t))
    rw [h t List.mem_cons_self]
    exact ih (fun t ht => h t (List.mem_cons_of_mem _ ht)) _
/-- Refs are those of the committed transactions, each of which fitted in its time. -/
theorem Rcv.refs_of {rs : List Rec} {s : St} (h : Rcv rs s) : s.refs = after rs (com rs) ∧ ∀ i (hi : i < (com rs).length), UV (upd rs (com rs)[i]) ∧ Fits (after rs ((com rs).take i)) (upd rs (com rs)[i]) := by
  induction h with
  | nil => exact ⟨rfl, fun i hi => absurd hi (by unfold com; simp)⟩
  | @snoc rs s s' r h1 h2 h3 ih =>
    obtain ⟨ih1, ih2⟩ := ih
    have hi := h1.inv
    have same : ∀ t ∈ com rs, upd (rs ++ [r]) t = upd rs t := fun t ht => by
      have ha := (h1.com_iff t).1 ht
      rw [upd_snoc rs r t fun e1 e2 => by
        have : ask rs r.t = 0 := by cases h3 <;> first | assumption | omega
        exact ask_fresh hi (by rw [← e1]; exact this)]
      rw [if_neg]
      rintro ⟨e1, e2⟩
      have : ask rs r.t = 0 := by cases h3 <;> first | assumption | omega
      rw [e1] at this
      omega
    have old : ∀ i (hx : i < (com rs).length), UV (upd (rs ++ [r]) (com rs)[i]) ∧ Fits (after (rs ++ [r]) ((com rs).take i)) (upd (rs ++ [r]) (com rs)[i]) := fun i hx => by
      rw [same _ (List.getElem_mem hx), after_congr fun t ht => same t (List.mem_of_mem_take ht)]
      exact ih2 i hx
    by_cases hk : r.k = 2
    · have hc : com (rs ++ [r]) = com rs ++ [r.t] := by rw [com_snoc, if_pos hk]
      have hask : ask rs r.t = 1 := by cases h3 <;> first | assumption | omega
      have hup : upd (rs ++ [r]) r.t = upd rs r.t := by rw [upd_snoc rs r r.t fun _ e => by omega, if_neg fun x => by omega]
      obtain ⟨_, p2, p3, _⟩ := hi.prep r.t hask
      have hall : after (rs ++ [r]) (com rs) = s.refs := by rw [after_congr same, ← ih1]
      refine ⟨?_, fun i hx => ?_⟩
      · have e : s'.refs = setR s.refs (upd rs r.t) := by cases h3 <;> first | rfl | omega
        rw [hc, e]
        unfold after
        rw [List.foldl_append]
        show _ = setR (after (rs ++ [r]) (com rs)) (upd (rs ++ [r]) r.t)
        rw [hall, hup]
      · by_cases hl : i < (com rs).length
        · have := old i hl
          simp only [hc, List.getElem_append_left hl, List.take_append_of_le_length (Nat.le_of_lt hl)]
          exact this
        · have hil : i = (com rs).length := by rw [hc] at hx; simp at hx; omega
          subst hil
          have e1 : (com (rs ++ [r]))[(com rs).length] = r.t := by simp [hc]
          have e2 : (com (rs ++ [r])).take (com rs).length = com rs := by simp [hc]
          rw [e1, e2, hall, hup]
          exact ⟨p2, p3⟩
    · have hc : com (rs ++ [r]) = com rs := by rw [com_snoc, if_neg hk, List.append_nil]
      have e : s'.refs = s.refs := by cases h3 <;> first | rfl | omega
      refine ⟨by rw [hc, e, after_congr same, ih1], fun i hx => ?_⟩
      have := old i (by rw [hc] at hx; exact hx)
      simp only [hc]
      exact this
/-! ### What the functions on shards answer. -/
def Vld (rs : List Rec) : Prop := (∃ s, Rcv rs s) ∧ rs.length ≤ 30
theorem Vld.snoc_iff {rs : List Rec} {s : St} (h : Rcv rs s) (r : Rec) : Vld (rs ++ [r]) ↔ rs.length < 30 ∧ TV r.t ∧ ∃ s', Step rs s r s' := by
  constructor
  · rintro ⟨⟨s', h'⟩, hl⟩
    obtain ⟨s0, h0, ht, hs⟩ := h'.snoc_inv
    obtain rfl := h.one h0
    exact ⟨by simp at hl; omega, ht, s', hs⟩
  · rintro ⟨hl, ht, s', hs⟩
    exact ⟨⟨s', .snoc h ht hs⟩, by simp; omega⟩
theorem Vld.prepare_iff {rs : List Rec} {s : St} (h : Rcv rs s) {t : Int} (ht : TV t) (us : List Up) :
    Vld (rs ++ [⟨1, t, us⟩]) ↔ rs.length < 30 ∧ ask rs t = 0 ∧ UV us ∧ Fits s.refs us ∧ Fits s.locks (lk t us) := by
  rw [Vld.snoc_iff h]
  constructor
  · rintro ⟨hl, -, s', hs⟩
    cases hs with
    | prepare _ k2 k3 k4 k5 => exact ⟨hl, k2, k3, k4, k5⟩
    | commit k1 _ _ => exact absurd k1 (by simp)
    | abort k1 _ _ => exact absurd k1 (by simp)
  · rintro ⟨hl, k2, k3, k4, k5⟩
    exact ⟨hl, ht, _, .prepare rfl k2 k3 k4 k5⟩
theorem Vld.commit_iff {rs : List Rec} {s : St} (h : Rcv rs s) {t : Int} (ht : TV t) : Vld (rs ++ [⟨2, t, []⟩]) ↔ rs.length < 30 ∧ ask rs t = 1 := by
  rw [Vld.snoc_iff h]
  constructor
  · rintro ⟨hl, -, s', hs⟩
    cases hs with
    | prepare k1 _ _ _ _ => exact absurd k1 (by simp)
    | commit _ k2 _ => exact ⟨hl, k2⟩
    | abort k1 _ _ => exact absurd k1 (by simp)
  · rintro ⟨hl, k2⟩
    exact ⟨hl, ht, _, .commit rfl k2 rfl⟩
theorem Vld.abort_iff {rs : List Rec} {s : St} (h : Rcv rs s) {t : Int} (ht : TV t) : Vld (rs ++ [⟨3, t, []⟩]) ↔ rs.length < 30 ∧ (ask rs t = 0 ∨ ask rs t = 1) := by
  rw [Vld.snoc_iff h]
  constructor
  · rintro ⟨hl, -, s', hs⟩
    cases hs with
    | prepare k1 _ _ _ _ => exact absurd k1 (by simp)
    | commit k1 _ _ => exact absurd k1 (by simp)
    | abort _ k2 _ => exact ⟨hl, k2⟩
  · rintro ⟨hl, k2⟩
    exact ⟨hl, ht, _, .abort rfl k2 rfl⟩
theorem ask_range {rs : List Rec} {s : St} (h : Rcv rs s) (t : Int) : ask rs t = 0 ∨ ask rs t = 1 ∨ ask rs t = 2 ∨ ask rs t = 3 := by
  induction h with
  | nil => exact .inl (by unfold ask; simp)
  | @snoc rs s s' r h1 h2 h3 ih =>
    rw [ask_snoc]
    split
    · cases h3 <;> omega
    · exact ih
theorem ask_TV {rs : List Rec} {s : St} (h : Rcv rs s) {t : Int} (ht : ¬ TV t) : ask rs t = 0 := by
  induction h with
  | nil => unfold ask; simp
  | @snoc rs s s' r h1 h2 h3 ih =>
    rw [ask_snoc, if_neg fun e => ht (by rw [← e]; exact h2)]
    exact ih
/-- A vote, all that it may come to: the records behind it, and the word. -/
inductive Voted (rs : List Rec) (t : Int) (us : List Up) : List Rec → Bool → Prop
  | bad : ¬ (Vld rs ∧ TV t ∧ UV us) → Voted rs t us [] false
  | known : Vld rs → TV t → UV us → ask rs t ≠ 0 → Voted rs t us rs (ask rs t == 1)
  | yes : Vld rs → TV t → UV us → ask rs t = 0 → Vld (rs ++ [⟨1, t, us⟩]) → Voted rs t us (rs ++ [⟨1, t, us⟩]) true
  | no : Vld rs → TV t → UV us → ask rs t = 0 → ¬ Vld (rs ++ [⟨1, t, us⟩]) → rs.length < 30 → Voted rs t us (rs ++ [⟨3, t, []⟩]) false
  | full : Vld rs → TV t → UV us → ask rs t = 0 → ¬ rs.length < 30 → Voted rs t us rs false
/-- A decision: k is 2 for a commit, 3 for an abort. -/
inductive Decided (rs : List Rec) (t k : Int) : List Rec → Bool → Prop
  | bad : ¬ (Vld rs ∧ TV t) → Decided rs t k [] false
  | known : Vld rs → TV t → ask rs t = k → Decided rs t k rs true
  | yes : Vld rs → TV t → ask rs t ≠ k → Vld (rs ++ [⟨k, t, []⟩]) → Decided rs t k (rs ++ [⟨k, t, []⟩]) true
  | no : Vld rs → TV t → ask rs t ≠ k → ¬ Vld (rs ++ [⟨k, t, []⟩]) → Decided rs t k rs false
theorem voted_ex (rs : List Rec) (t : Int) (us : List Up) : ∃ xs b, Voted rs t us xs b := by
  by_cases h : Vld rs ∧ TV t ∧ UV us
  · obtain ⟨h1, h2, h3⟩ := h
    by_cases ha : ask rs t = 0
    · by_cases hl : rs.length < 30
      · by_cases hv : Vld (rs ++ [⟨1, t, us⟩])
        · exact ⟨_, _, .yes h1 h2 h3 ha hv⟩
        · exact ⟨_, _, .no h1 h2 h3 ha hv hl⟩
      · exact ⟨_, _, .full h1 h2 h3 ha hl⟩
    · exact ⟨_, _, .known h1 h2 h3 ha⟩
  · exact ⟨_, _, .bad h⟩
theorem decided_ex (rs : List Rec) (t k : Int) : ∃ xs b, Decided rs t k xs b := by
  by_cases h : Vld rs ∧ TV t
  · obtain ⟨h1, h2⟩ := h
    by_cases ha : ask rs t = k
    · exact ⟨_, _, .known h1 h2 ha⟩
    · by_cases hv : Vld (rs ++ [⟨k, t, []⟩])
      · exact ⟨_, _, .yes h1 h2 ha hv⟩
      · exact ⟨_, _, .no h1 h2 ha hv⟩
  · exact ⟨_, _, .bad h⟩
/-! ### What the laws ask. -/
/-- A decision is final. -/
theorem final {rs : List Rec} {s : St} (h : Rcv rs s) {t k k' : Int} (ht : TV t) (ha : ask rs t = k) (hk : k = 2 ∨ k = 3) (hk' : k' = 2 ∨ k' = 3) : ¬ Vld (rs ++ [⟨k', t, []⟩]) := by
  rcases hk' with rfl | rfl
  · rw [Vld.commit_iff h ht]; omega
  · rw [Vld.abort_iff h ht]; omega
theorem fits_lk {zs : List Int} {t : Int} {us : List Up} : Fits zs (lk t us) ↔ ∀ u ∈ us, zs[u.r.toNat]? = some (-1) := by
  constructor
  · intro h u hu
    exact h (lk1 t u) (List.mem_map_of_mem hu)
  · intro h v hv
    obtain ⟨u, hu, rfl⟩ := List.mem_map.1 hv
    exact h u hu
/-- A commit performs the updates, and frees what was locked; all else stays. -/
theorem commit_at {rs : List Rec} {s : St} (h : Inv rs s) {t : Int} (ha : ask rs t = 1) (i : Nat) :
    (s.locks[i]? = some t → (freeL t s.locks)[i]? = some (-1) ∧ (setR s.refs (upd rs t))[i]? ≠ s.refs[i]?) ∧ (s.locks[i]? ≠ some t → (freeL t s.locks)[i]? = s.locks[i]? ∧ (setR s.refs (upd rs t))[i]? = s.refs[i]?) := by
  obtain ⟨ht, hu, hf, hl⟩ := h.prep t ha
  refine ⟨fun e => ?_, fun e => ?_⟩
  · refine ⟨by rw [free_get, e]; simp, fun e2 => ?_⟩
    rcases h.owner i t e with e3 | ⟨_, u, hu', e4⟩
    · unfold TV at ht; omega
    · subst e4
      have h1 := setR_at hu.2 h.refs.1 hu'
      have h2 : s.refs[u.r.toNat]? = some u.o := hf u hu'
      rw [e2, h2] at h1
      injection h1 with h1
      exact (hu.2.mem u hu').2.2.2.2 h1
  · refine ⟨?_, setR_far fun u hu' e2 => e (by rw [← e2]; exact hl u hu')⟩
    rw [free_get]
    cases hz : s.locks[i]? with
    | none => rfl
    | some z =>
      rw [hz] at e
      simp only [Option.map_some]
      rw [if_neg fun x => e (by rw [x])]
/-- A vote locks what it is about. -/
theorem prepare_at {rs : List Rec} {s : St} (h : Inv rs s) {t : Int} (ht : TV t) {us : List Up} (hu : UV us) (hf : Fits s.locks (lk t us)) {u : Up} (hm : u ∈ us) : s.locks[u.r.toNat]? = some (-1) ∧ (setR s.locks (lk t us))[u.r.toNat]? = some t :=
  ⟨fits_lk.1 hf u hm, take_at h.locks ht hu hm⟩
/-- Another transaction is not concerned. -/
theorem voted_other {rs xs : List Rec} {t t' : Int} {us : List Up} {b : Bool} (h : Voted rs t us xs b) (hx : xs ≠ []) (hne : t' ≠ t) : ask xs t' = ask rs t' := by
  cases h with
  | bad _ => exact absurd rfl hx
  | known _ _ _ _ => rfl
  | yes _ _ _ _ _ => rw [ask_snoc, if_neg fun e => hne e.symm]
  | no _ _ _ _ _ _ => rw [ask_snoc, if_neg fun e => hne e.symm]
  | full _ _ _ _ _ => rfl
theorem decided_other {rs xs : List Rec} {t t' k : Int} {b : Bool} (h : Decided rs t k xs b) (hx : xs ≠ []) (hne : t' ≠ t) : ask xs t' = ask rs t' := by
  cases h with
  | bad _ => exact absurd rfl hx
  | known _ _ _ => rfl
  | yes _ _ _ _ => rw [ask_snoc, if_neg fun e => hne e.symm]
  | no _ _ _ _ => rfl
theorem voted_valid {rs xs : List Rec} {t : Int} {us : List Up} {b : Bool} (h : Voted rs t us xs b) : Vld xs := by
  cases h with
  | bad _ => exact ⟨⟨_, .nil⟩, Nat.zero_le _⟩
  | known h1 _ _ _ => exact h1
  | yes _ _ _ _ h5 => exact h5
  | no h1 h2 _ h4 _ h6 => obtain ⟨⟨s, hs⟩, _⟩ := h1; exact (Vld.abort_iff hs h2).2 ⟨h6, .inl h4⟩
  | full h1 _ _ _ _ => exact h1
theorem decided_valid {rs xs : List Rec} {t k : Int} {b : Bool} (h : Decided rs t k xs b) : Vld xs := by
  cases h with
  | bad _ => exact ⟨⟨_, .nil⟩, Nat.zero_le _⟩
  | known h1 _ _ => exact h1
  | yes _ _ _ h4 => exact h4
  | no h1 _ _ _ => exact h1
/-- The same request gets the same vote, where a record more fits. -/
theorem voted_twice {rs xs : List Rec} {t : Int} {us : List Up} {b : Bool} (h : Voted rs t us xs b) (hx : xs ≠ []) (hl : rs.length ≠ 30) : Voted xs t us xs b := by
  have hv := voted_valid h
  cases h with
  | bad _ => exact absurd rfl hx
  | known h1 h2 h3 h4 => exact .known h1 h2 h3 h4
  | yes _ h2 h3 _ _ =>
    have e : ask (rs ++ [⟨1, t, us⟩]) t = 1 := by rw [ask_snoc, if_pos rfl]
    have := Voted.known hv h2 h3 (by rw [e]; decide)
    rw [e] at this
    exact this
  | no _ h2 h3 _ _ _ =>
    have e : ask (rs ++ [⟨3, t, []⟩]) t = 3 := by rw [ask_snoc, if_pos rfl]
    have := Voted.known hv h2 h3 (by rw [e]; decide)
    rw [e] at this
    exact this
  | full h1 _ _ _ h5 => have := h1.2; omega
end Sh
end Go.Proofs.YteaibflloeipaaaGreatDoor
namespace Go.Proofs.YteaibflloeipaaaGreatDoor
open Go.RowKit Wo Pu Rf Lk Sh

/-! ### Records. -/
/-- At ad lies the record r. -/
def RecAt (w : World) (B : Nat) (ad : Addr) (r : Rec) : Prop :=
  ∃ (A : Option Addr) (c : Nat), w.cell? ad = some (.int .i64 r.k) ∧ w.cell? (ad.add 1) = some (.int .i64 r.t) ∧ w.cell? (ad.add 2) = some (.slice A r.us.length c) ∧ r.us.length ≤ c ∧ Row w B A (upsV r.us)
/-- The slice with head A holds the records rs. -/
def Recs (w : World) (B : Nat) (A : Option Addr) (rs : List Rec) : Prop :=
  rs = [] ∨ ∃ ad, A = some ad ∧ ad.block < B ∧ ∀ i (h : i < rs.length), RecAt w B (ad.add (i * 3)) rs[i]
section
variable {w w' : World} {B C : Nat} {A : Option Addr} {rs : List Rec}
theorem RecAt.below {ad : Addr} {r : Rec} (h : RecAt w B ad r) (ha : ad.block < B) (hb : Below C w w') (hC : B ≤ C) : RecAt w' B ad r := by
  obtain ⟨A, c, h0, h1, h2, h3, h4⟩ := h
  have f : ∀ p : Addr, p.block < B → w'.cell? p = w.cell? p := fun p hp => hb.cell (by omega)
  exact ⟨A, c, by rw [f _ ha]; exact h0, by rw [f _ (by rw [add_block]; exact ha)]; exact h1, by rw [f _ (by rw [add_block]; exact ha)]; exact h2, h3, h4.below hb hC⟩
theorem Recs.below (h : Recs w B A rs) (hb : Below C w w') (hC : B ≤ C) : Recs w' B A rs := by
  rcases h with rfl | ⟨ad, e, ha, hh⟩
  · exact .inl rfl
  · exact .inr ⟨ad, e, ha, fun i hi => (hh i hi).below (by rw [add_block]; exact ha) hb hC⟩
theorem Recs.more {B' : Nat} (h : Recs w B A rs) (hB : B ≤ B') : Recs w B' A rs := by
  rcases h with rfl | ⟨ad, e, ha, hh⟩
  · exact .inl rfl
  · refine .inr ⟨ad, e, by omega, fun i hi => ?_⟩
    obtain ⟨A, c, h0, h1, h2, h3, h4⟩ := hh i hi
    exact ⟨A, c, h0, h1, h2, h3, h4.more hB⟩
theorem Recs.on (h : Recs w w.heap.size A rs) (hb : Below w.heap.size w w') : Recs w' w'.heap.size A rs := (h.below hb (Nat.le_refl _)).more hb.size
theorem Recs.rec (h : Recs w B A rs) {k : Nat} (hk : k < rs.length) :
    ∃ (r : Rec) (ad : Addr) (A' : Option Addr) (c : Nat), rs[k] = r ∧ A = some ad ∧ (ad.add (k * 3)).block < B ∧ w.cell? (ad.add (k * 3)) = some (.int .i64 r.k) ∧ w.cell? ⟨(ad.add (k * 3)).block, (ad.add (k * 3)).off + 1, none⟩ = some (.int .i64 r.t) ∧
      w.cell? ⟨(ad.add (k * 3)).block, (ad.add (k * 3)).off + 2, none⟩ = some (.slice A' r.us.length c) ∧ r.us.length ≤ c ∧ Row w B A' (upsV r.us) := by
  rcases h with rfl | ⟨ad, e, ha, hh⟩
  · simp at hk
  · obtain ⟨A', c, h0, h1, h2, h3, h4⟩ := hh k hk
    exact ⟨_, ad, A', c, rfl, e, by rw [add_block]; exact ha, h0, h1, h2, h3, h4⟩
theorem Recs.take_ (h : Recs w B A rs) (k : Nat) : Recs w B A (rs.take k) := by
  rcases h with rfl | ⟨ad, e, ha, hh⟩
  · exact .inl (by simp)
  · exact .inr ⟨ad, e, ha, fun i hi => by rw [List.getElem_take]; exact hh i (by rw [List.length_take] at hi; omega)⟩
theorem Recs.tail {ad : Addr} (h : Recs w B (some ad) rs) : Recs w B (some (ad.add 3)) (rs.drop 1) := by
  rcases h with rfl | ⟨ad', e, ha, hh⟩
  · exact .inl (by simp)
  · injection e with e
    subst e
    refine .inr ⟨_, rfl, by rw [add_block]; exact ha, fun i hi => ?_⟩
    have hi' : 1 + i < rs.length := by rw [List.length_drop] at hi; omega
    rw [List.getElem_drop, add_add, show 3 + i * 3 = (1 + i) * 3 from by omega]
    exact hh _ hi'
end
/-- Among the cells xs the j-th record is r; its updates are of the call's own. -/
def RecIs (w : World) (B : Nat) (xs : List Value) (j : Nat) (r : Rec) : Prop :=
  ∃ (A : Option Addr) (c : Nat), xs[j * 3]? = some (.int .i64 r.k) ∧ xs[j * 3 + 1]? = some (.int .i64 r.t) ∧ xs[j * 3 + 2]? = some (.slice A r.us.length c) ∧ r.us.length ≤ c ∧ OwnUps w B (.slice A r.us.length c) r.us
/-- The slice v, of the call's own, holds the records rs. -/
def OwnRecs (w : World) (B : Nat) (v : Value) (rs : List Rec) : Prop :=
  ∃ xs, w.ownsRow B 128 3 v rs.length xs ∧ ∀ j (hj : j < rs.length), RecIs w B xs j rs[j]
section
variable {w w' : World} {B : Nat} {v : Value} {rs : List Rec}
theorem OwnRecs.below (h : OwnRecs w B v rs) (hb : Below w.heap.size w w') : OwnRecs w' B v rs := by
  obtain ⟨xs, h1, h2⟩ := h
  refine ⟨xs, own_below h1 hb (Nat.le_refl _), fun j hj => ?_⟩
  obtain ⟨A, c, q0, q1, q2, q3, q4⟩ := h2 j hj
  exact ⟨A, c, q0, q1, q2, q3, q4.below hb⟩
theorem OwnRecs.but {R : Nat} (h : OwnRecs w B v rs) (hb : But R w w') (hR : R < B) : OwnRecs w' B v rs := by
  obtain ⟨xs, h1, h2⟩ := h
  refine ⟨xs, World.ownsRow.kept h1 hb ?_, fun j hj => ?_⟩
  · rcases hv : v.ownBlock with _ | k
    · exact .inl rfl
    · refine .inr (fun e => ?_)
      have := (World.ownsRow.lt h1 k hv).1
      injection e with e
      omega
  · obtain ⟨A, c, q0, q1, q2, q3, q4⟩ := h2 j hj
    exact ⟨A, c, q0, q1, q2, q3, q4.but hb hR⟩
theorem OwnRecs.base {B' : Nat} (h : OwnRecs w B v rs) (hB : B' ≤ B) : OwnRecs w B' v rs := by
  obtain ⟨xs, ⟨h1, h1'⟩, h2⟩ := h
  refine ⟨xs, ⟨h1, ?_⟩, fun j hj => ?_⟩
  · rcases h1' with h | ⟨g, cap, cur, hv, hb, hr⟩
    · exact .inl h
    · exact .inr ⟨g, cap, cur, hv, by omega, hr⟩
  · obtain ⟨A, c, q0, q1, q2, q3, q4⟩ := h2 j hj
    exact ⟨A, c, q0, q1, q2, q3, q4.base hB⟩
theorem OwnRecs.lt (h : OwnRecs w B v rs) : ∀ k, v.ownBlock = some k → B ≤ k := fun k hk => by
  obtain ⟨xs, h1, _⟩ := h
  exact (World.ownsRow.lt h1 k hk).1
theorem OwnRecs.nil_new (hB : B ≤ w.heap.size) : OwnRecs (w.alloc (.cells #[] 128)) B (.slice (some ⟨w.heap.size, 0, none⟩) 0 0) [] :=
  ⟨[], nil_own hB _ _, fun j hj => by simp at hj⟩
theorem OwnRecs.nil_none (w : World) (B : Nat) : OwnRecs w B (.slice none 0 0) [] := ⟨[], ⟨rfl, .inl ⟨rfl, rfl⟩⟩, fun j hj => by simp at hj⟩
theorem OwnUps.nil_none (w : World) (B : Nat) : OwnUps w B (.slice none 0 0) [] := ⟨rfl, .inl ⟨rfl, rfl⟩⟩
theorem OwnRecs.form (h : OwnRecs w B v rs) : ∃ (A : Option Addr) (c : Nat), v = .slice A rs.length c ∧ Recs w w.heap.size A rs ∧ rs.length ≤ c := by
  obtain ⟨xs, h1, h2⟩ := h
  have h1' := h1
  obtain ⟨hl, h1⟩ := h1
  rcases h1 with ⟨rfl, h0⟩ | ⟨g, cap, cur, rfl, hB, hh, hn, hm, hcs, htk⟩
  · exact ⟨none, 0, by rw [h0], .inl (List.eq_nil_of_length_eq_zero h0), by omega⟩
  · refine ⟨some ⟨g, 0, none⟩, cap, rfl, .inr ⟨_, rfl, (World.ownsRow.lt h1' g rfl).2, fun i hi => ?_⟩, hn⟩
    obtain ⟨A, c, q0, q1, q2, q3, q4⟩ := h2 i hi
    have hc := World.ownsRow.cells h1' (g := g) rfl
    obtain ⟨A3, c3, e3, h3, _⟩ := q4.form
    injection e3 with e3 _ _
    subst e3
    exact ⟨A, c, hc _ _ q0, by rw [add_add]; exact hc _ _ q1, by rw [add_add]; exact hc _ _ q2, q3, h3⟩
theorem OwnUps.keptT {T : TypeId} {row : Option Nat} {u : Value} {us : List Up} (h : OwnUps w B u us) (t2 : 164 ≠ T) (hg : w.grownBy w' row) (hr : ∀ g, row = some g → ∃ cur fr, w.heap[g]? = some (.cells cur T fr)) : OwnUps w' B u us := row_far_type h t2 hg hr
theorem OwnRecs.keptT {T : TypeId} {row : Option Nat} (h : OwnRecs w B v rs) (t1 : 128 ≠ T) (t2 : 164 ≠ T) (hg : w.grownBy w' row) (hr : ∀ g, row = some g → ∃ cur fr, w.heap[g]? = some (.cells cur T fr)) : OwnRecs w' B v rs := by
  obtain ⟨xs, h1, h2⟩ := h
  refine ⟨xs, row_far_type h1 t1 hg hr, fun j hj => ?_⟩
  obtain ⟨A, c, q0, q1, q2, q3, q4⟩ := h2 j hj
  exact ⟨A, c, q0, q1, q2, q3, q4.keptT t2 hg hr⟩
/-- One record more. -/
theorem OwnRecs.app {w1 : World} {c : Nat} {A : Option Addr} {v' : Value} {r : Rec} {ys : List Value} (hos : ∀ j (hj : j < rs.length), RecIs w B ys j rs[j]) (hc : r.us.length ≤ c)
    (hups : OwnUps w B (.slice A r.us.length c) r.us) (hrow : w.ownsRow B 128 3 v rs.length ys)
    (hown : w1.ownsRow B 128 3 v' (rs.length + 1) (ys ++ [.int .i64 r.k, .int .i64 r.t, .slice A r.us.length c]))
    (hg : (w.alloc (.cells #[.int .i64 r.k, .int .i64 r.t, .slice A r.us.length c] 128)).grownBy w1 v.ownBlock) : OwnRecs w1 B v' (rs ++ [r]) := by
  have hlen : ys.length = rs.length * 3 := hrow.1
  have al := (Below.refl w.heap.size w).alloc (Nat.le_refl _) (.cells #[.int .i64 r.k, .int .i64 r.t, .slice A r.us.length c] 128)
  have keep : ∀ {u : Value} {us : List Up}, OwnUps w B u us → OwnUps w1 B u us := fun {u us} h =>
    (h.below al).keptT (by decide) hg fun g e => row_typed (World.ownsRow.alloc hrow _) g e
  refine ⟨_, by simpa using hown, fun j hj => ?_⟩
  by_cases e : j < rs.length
  · obtain ⟨A', c', q0, q1, q2, q3, q4⟩ := hos j e
    rw [List.getElem_append_left e]
    exact ⟨A', c', by rw [List.getElem?_append_left (by omega)]; exact q0, by rw [List.getElem?_append_left (by omega)]; exact q1, by rw [List.getElem?_append_left (by omega)]; exact q2, q3, keep q4⟩
  · have ej : j = rs.length := by simp at hj; omega
    subst ej
    have eo : (rs ++ [r])[rs.length]'(by simp) = r := by simp
    rw [eo]
    refine ⟨A, c, ?_, ?_, ?_, hc, keep hups⟩
    · rw [List.getElem?_append_right (by omega), hlen]; simp
    · rw [List.getElem?_append_right (by omega), hlen, show rs.length * 3 + 1 - rs.length * 3 = 1 from by omega]; rfl
    · rw [List.getElem?_append_right (by omega), hlen, show rs.length * 3 + 2 - rs.length * 3 = 2 from by omega]; rfl
end
theorem rec_cells (k t : Int) (A : Option Addr) (n c : Nat) : ∀ u ∈ [Value.int .i64 k, .int .i64 t, .slice A n c], u.oneCell' = true := by
  intro u hu
  simp only [List.mem_cons, List.not_mem_nil, or_false] at hu
  rcases hu with rfl | rfl | rfl <;> rfl
theorem row_threeR (w : World) (v0 v1 v2 : Value) (t : TypeId) : Row (w.alloc (.cells #[v0, v1, v2] t)) (w.alloc (.cells #[v0, v1, v2] t)).heap.size (some ⟨w.heap.size, 0, none⟩) [v0, v1, v2] :=
  .inr ⟨_, rfl, by simp, World.news_of_block (cs := #[v0, v1, v2]) (heap_alloc_new w _)⟩
theorem info_rec : (Tryz.prog.info? 128).map (fun i => (i.zero, i.size, i.bytes)) = some (some (.agg #[.int .i64 0, .int .i64 0, .slice none 0 0]), 3, 40) := by kernel_rfl

/-! ### Shards and states. -/
def shV (A : Option Addr) (n c : Nat) : Value := .agg #[.slice A n c]
/-- A shard, read. -/
def Shd (w : World) (B : Nat) (v : Value) (rs : List Rec) : Prop := ∃ A c, v = shV A rs.length c ∧ Recs w B A rs ∧ rs.length ≤ c
/-- A shard of the call's own. -/
def OwnSh (w : World) (B : Nat) (v : Value) (rs : List Rec) : Prop := ∃ A c, v = shV A rs.length c ∧ OwnRecs w B (.slice A rs.length c) rs ∧ rs.length ≤ c
section
variable {w w' : World} {B : Nat} {v : Value} {rs : List Rec}
theorem Shd.below {C : Nat} (h : Shd w B v rs) (hb : Below C w w') (hC : B ≤ C) : Shd w' B v rs := by
  obtain ⟨A, c, e, h1, h2⟩ := h
  exact ⟨A, c, e, h1.below hb hC, h2⟩
theorem Shd.more {B' : Nat} (h : Shd w B v rs) (hB : B ≤ B') : Shd w B' v rs := by
  obtain ⟨A, c, e, h1, h2⟩ := h
  exact ⟨A, c, e, h1.more hB, h2⟩
theorem Shd.on (h : Shd w B v rs) (hb : Below B w w') (hB : B ≤ w'.heap.size) : Shd w' w'.heap.size v rs := (h.below hb (Nat.le_refl _)).more hB
theorem OwnSh.below (h : OwnSh w B v rs) (hb : Below w.heap.size w w') : OwnSh w' B v rs := by
  obtain ⟨A, c, e, h1, h2⟩ := h
  exact ⟨A, c, e, h1.below hb, h2⟩
theorem OwnSh.base {B' : Nat} (h : OwnSh w B v rs) (hB : B' ≤ B) : OwnSh w B' v rs := by
  obtain ⟨A, c, e, h1, h2⟩ := h
  exact ⟨A, c, e, h1.base hB, h2⟩
theorem OwnSh.shd (h : OwnSh w B v rs) : Shd w w.heap.size v rs := by
  obtain ⟨A, c, e, h1, h2⟩ := h
  obtain ⟨A', c', e', h3, _⟩ := h1.form
  injection e' with e1 _ e3
  subst e1
  exact ⟨A, c, e, h3, h2⟩
theorem OwnSh.mk_ {u : Value} (h : OwnRecs w B u rs) : OwnSh w B (.agg #[u]) rs := by
  obtain ⟨A, c, rfl, _, hc⟩ := h.form
  exact ⟨A, c, rfl, h, hc⟩
theorem OwnSh.none_ (w : World) (B : Nat) : OwnSh w B (.agg #[.slice none 0 0]) [] := ⟨none, 0, rfl, OwnRecs.nil_none w B, Nat.le_refl _⟩
theorem OwnSh.keptT {T : TypeId} {row : Option Nat} (h : OwnSh w B v rs) (t1 : 128 ≠ T) (t2 : 164 ≠ T) (hg : w.grownBy w' row) (hr : ∀ g, row = some g → ∃ cur fr, w.heap[g]? = some (.cells cur T fr)) : OwnSh w' B v rs := by
  obtain ⟨A, c, e, h1, h2⟩ := h
  exact ⟨A, c, e, h1.keptT t1 t2 hg hr, h2⟩
end
/-- Sizes that a call can bear. -/
def FitR (rs : List Rec) : Prop := rs.length ≤ 1048576 ∧ ∀ r ∈ rs, r.us.length ≤ 1048576
theorem FitR.take {rs : List Rec} (h : FitR rs) (k : Nat) : FitR (rs.take k) := ⟨by rw [List.length_take]; have := h.1; omega, fun r hr => h.2 r (List.mem_of_mem_take hr)⟩
/-- Behind it: a shard of the call's own. -/
def NewSh (rs : List Rec) (w : World) (e : Ending) (w' : World) : Prop := ∃ v, e = .returned v ∧ OwnSh w' w.heap.size v rs ∧ Below w.heap.size w w'
/-- .. and a word. -/
def NewShB (rs : List Rec) (b : Bool) (w : World) (e : Ending) (w' : World) : Prop := ∃ v, e = .returned (.tuple #[v, .bool b]) ∧ OwnSh w' w.heap.size v rs ∧ Below w.heap.size w w'
/-- A state as a value. -/
def stV (A : Option Addr) (n c : Nat) (A2 : Option Addr) (n2 c2 : Nat) : Value := .agg #[.slice A n c, .slice A2 n2 c2]
/-- The state s, read. -/
def Stt (w : World) (B : Nat) (v : Value) (s : St) : Prop := ∃ A c A2 c2, v = stV A s.refs.length c A2 s.locks.length c2 ∧ Row w B A (ints s.refs) ∧ s.refs.length ≤ c ∧ Row w B A2 (ints s.locks) ∧ s.locks.length ≤ c2
theorem Stt.below {w w' : World} {B C : Nat} {v : Value} {s : St} (h : Stt w B v s) (hb : Below C w w') (hC : B ≤ C) : Stt w' B v s := by
  obtain ⟨A, c, A2, c2, e, h1, h2, h3, h4⟩ := h
  exact ⟨A, c, A2, c2, e, h1.below hb hC, h2, h3.below hb hC, h4⟩
theorem Stt.more {w : World} {B B' : Nat} {v : Value} {s : St} (h : Stt w B v s) (hB : B ≤ B') : Stt w B' v s := by
  obtain ⟨A, c, A2, c2, e, h1, h2, h3, h4⟩ := h
  exact ⟨A, c, A2, c2, e, h1.more hB, h2, h3.more hB, h4⟩
theorem Stt.on {w w' : World} {B : Nat} {v : Value} {s : St} (h : Stt w B v s) (hb : Below B w w') (hB : B ≤ w'.heap.size) : Stt w' w'.heap.size v s := (h.below hb (Nat.le_refl _)).more hB
/-- Refs and locks of four. -/
def Four (s : St) : Prop := RV s.refs ∧ LV s.locks
theorem Four.len {s : St} (h : Four s) : s.refs.length = 4 ∧ s.locks.length = 4 := ⟨h.1.1, h.2.1⟩
theorem Four.begin_ : Four ⟨[-1, -1, -1, -1], [-1, -1, -1, -1]⟩ := ⟨Inv.begin_.refs, Inv.begin_.locks⟩
/-- Behind it: a state that can be read. -/
def NewSt (s : St) (w : World) (e : Ending) (w' : World) : Prop := ∃ v, e = .returned v ∧ Stt w' w'.heap.size v s ∧ Below w.heap.size w w'
def NewStB (s : St) (b : Bool) (w : World) (e : Ending) (w' : World) : Prop := ∃ v, e = .returned (.tuple #[v, .bool b]) ∧ Stt w' w'.heap.size v s ∧ Below w.heap.size w w'
end Go.Proofs.YteaibflloeipaaaGreatDoor
namespace Go.Proofs.YteaibflloeipaaaGreatDoor
set_option maxRecDepth 100000
open Go.RowKit Go.ChangeShapes Go.WideShapes Go.Joins Wo Pu Rf Lk Sh

section
variable {H : Type} {enc : TypeId × Value → H} {w : World} {held : Bool}

/-- Sizes that memory can bear. -/
def WideR (rs : List Rec) : Prop := rs.length ≤ maxLen ∧ ∀ r ∈ rs, r.us.length ≤ maxLen
theorem read_recs {fuel : Nat} {cs : List Value} {x : DataW H × List MemPlace} (hf : DataW.trod enc Tryz.prog w 0 (fun _ => true) held fuel 100 cs = some x) :
    ∃ (A : Option Addr) (c : Nat) (rs : List Rec), cs = [.slice A rs.length c] ∧ Recs w w.heap.size A rs ∧ WideR rs ∧ rs.length ≤ c := by
  rcases Deep.open_slice Tryz.underlying100 hf with ⟨hcs, _⟩ | ⟨a, len, cap, m, n, D, Pl, hcs, _, hl, hm, hmm, _, hel⟩
  · exact ⟨none, 0, [], hcs, .inl rfl, ⟨Nat.zero_le _, fun o ho => by cases ho⟩, Nat.zero_le _⟩
  · simp only [if_true] at hmm
    have one : ∀ i, i < len → ∃ r : Rec, RecAt w w.heap.size (a.add (i * 3)) r ∧ r.us.length ≤ maxLen := fun i hi => by
      obtain ⟨cs', hc, ht⟩ := hel i (by omega)
      have hC : Tryz.prog.cellsOf 182 = 3 := by kernel_rfl
      rw [hC] at hc
      obtain ⟨_, hlen, hat⟩ := World.cells?_some hc
      match cs', hlen with
      | [c0, c1, c2], _ =>
        obtain ⟨y0, y1, y2, n', _, _, h0, h1, h2⟩ := Deep.trod_struct3 Tryz.underlying182 ht
        have k0 : Tryz.prog.cellsOf 3 = 1 := by kernel_rfl
        have k2 : Tryz.prog.cellsOf 180 = 1 := by kernel_rfl
        obtain ⟨x0, e0, _, _⟩ := DataW.trod_int Tryz.underlying3 (show DataW.trod enc Tryz.prog w 0 (fun _ => true) held n' 3 [c0] = some y0 by simpa [k0] using h0)
        obtain ⟨x1, e1, _, _⟩ := DataW.trod_int Tryz.underlying3 (show DataW.trod enc Tryz.prog w 0 (fun _ => true) held n' 3 [c1] = some y1 by simpa [k0] using h1)
        obtain ⟨A, c, us, e2, hr, hz, hz3⟩ := read_ups (show DataW.trod enc Tryz.prog w 0 (fun _ => true) held n' 180 [c2] = some y2 by simpa [k2] using h2)
        have q0 := hat 0 (by omega)
        have q1 := hat 1 (by omega)
        have q2 := hat 2 (by omega)
        have f0 : c0 = .int .i64 x0 := by simpa using e0
        have f1 : c1 = .int .i64 x1 := by simpa using e1
        have f2 : c2 = .slice A us.length c := by simpa using e2
        subst f0 f1 f2
        exact ⟨⟨x0, x1, us⟩, ⟨A, c, by rw [add_zero] at q0; exact q0, q1, q2, hz3, hr⟩, hz⟩
    have all : ∃ rs : List Rec, rs.length = len ∧ ∀ i (hi : i < rs.length), RecAt w w.heap.size (a.add (i * 3)) rs[i] ∧ rs[i].us.length ≤ maxLen := by
      refine ⟨(List.range len).map fun i => if h : i < len then (one i h).choose else ⟨0, 0, []⟩, by simp, fun i hi => ?_⟩
      have hi' : i < len := by simpa using hi
      simp only [List.getElem_map, List.getElem_range, hi', dite_true]
      exact (one i hi').choose_spec
    obtain ⟨rs, ho, hrs⟩ := all
    refine ⟨some a, cap, rs, by rw [ho]; exact hcs, ?_, ⟨by omega, fun o hmem => ?_⟩, by omega⟩
    · rcases Nat.eq_zero_or_pos rs.length with h0 | h0
      · exact .inl (List.eq_nil_of_length_eq_zero h0)
      · refine .inr ⟨a, rfl, ?_, fun i hi => (hrs i hi).1⟩
        obtain ⟨_, _, q, _⟩ := (hrs 0 h0).1
        have := World.block_lt_of_cell? _ _ q
        rwa [add_block] at this
    · obtain ⟨i, hi, rfl⟩ := List.mem_iff_getElem.1 hmem
      exact (hrs i hi).2
/-- A shard. -/
theorem open_shard {base : Nat} {v : Value} {d : DataW H} {p : List MemPlace} (hv : Value.okWide Tryz.prog w .any base 102 v) (h : DataW.Trod enc Tryz.prog w 0 (fun _ => true) held 102 v d p) :
    ∃ rs : List Rec, Shd w w.heap.size v rs ∧ WideR rs := by
  obtain ⟨cs, rfl, hsz⟩ := okWide_struct Tryz.underlying102 hv
  have hC : Tryz.prog.cellsOf 102 = 1 := by kernel_rfl
  obtain ⟨c0, rfl⟩ : ∃ c0, cs = #[c0] := by
    have h1 := hsz.trans hC
    obtain ⟨l⟩ := cs
    match l, h1 with
    | [c0], _ => exact ⟨c0, rfl⟩
  obtain ⟨fuel, hf⟩ := h
  obtain ⟨y0, n', _, _, h0⟩ := trod_struct1 Tryz.underlying102 hf
  have k0 : Tryz.prog.cellsOf 100 = 1 := by kernel_rfl
  obtain ⟨A, c, rs, e0, hr, hw, hc⟩ := read_recs (show DataW.trod enc Tryz.prog w 0 (fun _ => true) held n' 100 [c0] = some y0 by simpa [k0, Value.cells] using h0)
  obtain rfl : c0 = .slice A rs.length c := by injection e0
  exact ⟨rs, ⟨A, c, rfl, hr, hc⟩, hw⟩
end
end Go.Proofs.YteaibflloeipaaaGreatDoor
namespace Go.Proofs.YteaibflloeipaaaGreatDoor
namespace Co
open Rf Lk

/-- A part: a shard and its updates. -/
structure Part where
  s : Int
  us : List Up
/-- A transaction: parts, votes, decision. -/
structure Tx where
  ps : List Part
  vs : List Int
  d : Int
/-- A coordinator: transactions, and the order of the committed ones. -/
structure Crd where
  ts : List Tx
  os : List Int
def PartsV (ps : List Part) : Prop := ps ≠ [] ∧ (∀ p ∈ ps, 0 ≤ p.s ∧ p.s ≤ 2 ∧ UV p.us) ∧ ps.Pairwise fun a b => a.s < b.s
structure TxV (t : Tx) : Prop where
  rng : ∀ v ∈ t.vs, -1 ≤ v ∧ v ≤ 1
  parts : PartsV t.ps
  len : t.vs.length = t.ps.length
  dec : (t.d = 0 ∧ -1 ∉ t.vs ∧ ∃ v ∈ t.vs, v ≠ 1) ∨ (t.d = 2 ∧ ∀ v ∈ t.vs, v = 1) ∨ (t.d = 3 ∧ ∃ v ∈ t.vs, v ≠ 1)
def isCom (t : Tx) : Bool := t.d == 2
structure CV (c : Crd) : Prop where
  many : c.ts.length ≤ 12
  txs : ∀ t ∈ c.ts, TxV t
  ord : ∀ i (h : i < c.ts.length), c.ts[i].d = 2 ↔ (i : Int) ∈ c.os
  cnt : c.os.length = c.ts.countP isCom

/-! ### The order has the committed ones, each once. -/
theorem same_set {L : List Int} : ∀ {os : List Int}, L.Nodup → (∀ x ∈ L, x ∈ os) → os.length ≤ L.length → os.Nodup ∧ ∀ x ∈ os, x ∈ L := by
  induction L with
  | nil => intro os _ _ h; obtain rfl := List.eq_nil_of_length_eq_zero (Nat.le_zero.1 h); exact ⟨List.nodup_nil, fun x hx => by cases hx⟩
  | cons a L ih =>
    intro os hn hs hl
    obtain ⟨ha, hn⟩ := List.nodup_cons.1 hn
    have hm := hs a List.mem_cons_self
    have hp := List.perm_cons_erase hm
    have hle : (os.erase a).length ≤ L.length := by
      rw [List.length_erase_of_mem hm]
      simp at hl
      omega
    obtain ⟨i1, i2⟩ := ih (os := os.erase a) hn (fun x hx => (List.mem_erase_of_ne (fun e => ha (by rw [← e]; exact hx))).2 (hs x (List.mem_cons_of_mem _ hx))) hle
    refine ⟨hp.nodup_iff.2 (List.nodup_cons.2 ⟨fun h => ha (i2 a h), i1⟩), fun x hx => ?_⟩
    rcases List.mem_cons.1 (hp.mem_iff.1 hx) with h | h
    · rw [h]; exact List.mem_cons_self
    · exact List.mem_cons_of_mem _ (i2 x h)
def comAt (ts : List Tx) (i : Nat) : Bool := (ts[i]?.map isCom) == some true
theorem comAt_count (ts : List Tx) : ∀ k, k ≤ ts.length → ((List.range k).filter (comAt ts)).length = (ts.take k).countP isCom := by
  intro k
  induction k with
  | zero => intro _; rfl
  | succ k ih =>
    intro hk
    rw [List.range_succ, List.filter_append, List.length_append, ih (by omega), List.take_succ_eq_append_getElem (by omega), List.countP_append]
    congr 1
    unfold comAt
    by_cases h : isCom ts[k] = true
    · simp [List.getElem?_eq_getElem (show k < ts.length by omega), h]
    · simp [List.getElem?_eq_getElem (show k < ts.length by omega), h]
theorem CV.order {c : Crd} (h : CV c) : c.os.Nodup ∧ ∀ o ∈ c.os, ∃ (i : Nat) (hi : i < c.ts.length), o = (i : Int) ∧ c.ts[i].d = 2 := by
  have hl := comAt_count c.ts c.ts.length (Nat.le_refl _)
  rw [List.take_length, ← h.cnt] at hl
  have hmem : ∀ i : Nat, i ∈ (List.range c.ts.length).filter (comAt c.ts) → ∃ hi : i < c.ts.length, c.ts[i].d = 2 := fun i hi => by
    obtain ⟨h1, h2⟩ := List.mem_filter.1 hi
    have h3 := List.mem_range.1 h1
    refine ⟨h3, ?_⟩
    unfold comAt isCom at h2
    rw [List.getElem?_eq_getElem h3] at h2
    simpa using h2
  have hnd : (((List.range c.ts.length).filter (comAt c.ts)).map Int.ofNat).Nodup := by
    refine List.Pairwise.map _ (fun a b (hab : a ≠ b) e => hab (Int.ofNat.inj e)) (List.Nodup.sublist List.filter_sublist List.nodup_range)
  obtain ⟨q1, q2⟩ := same_set (os := c.os) hnd (fun x hx => by
    obtain ⟨i, hi, rfl⟩ := List.mem_map.1 hx
    obtain ⟨h1, h2⟩ := hmem i hi
    exact (h.ord i h1).1 h2) (by rw [List.length_map, hl]; exact Nat.le_refl _)
  refine ⟨q1, fun o ho => ?_⟩
  obtain ⟨i, hi, rfl⟩ := List.mem_map.1 (q2 o ho)
  obtain ⟨h1, h2⟩ := hmem i hi
  exact ⟨i, h1, rfl, h2⟩

/-! ### One transaction is changed. -/
theorem set_get {ts : List Tx} {i j : Nat} {t : Tx} (hj : j < ts.length) : (ts.set i t)[j]'(by rw [List.length_set]; exact hj) = if i = j then t else ts[j] := by
  rw [List.getElem_set]
theorem CV.set {c : Crd} (h : CV c) {i : Nat} (hi : i < c.ts.length) {t : Tx} (ht : TxV t) (h1 : c.ts[i].d ≠ 2) (h2 : t.d ≠ 2) : CV ⟨c.ts.set i t, c.os⟩ := by
  refine ⟨by simpa using h.many, fun x hx => ?_, fun j hj => ?_, ?_⟩
  · rcases List.mem_or_eq_of_mem_set hx with h3 | h3
    · exact h.txs x h3
    · rw [h3]; exact ht
  · have hj' : j < c.ts.length := by simpa using hj
    show (c.ts.set i t)[j].d = 2 ↔ _
    rw [set_get hj', ← h.ord j hj']
    by_cases e : i = j
    · subst e
      rw [if_pos rfl]
      exact ⟨fun e => absurd e h2, fun e => absurd e h1⟩
    · rw [if_neg e]
  · show c.os.length = (c.ts.set i t).countP isCom
    rw [List.countP_set hi, h.cnt]
    have e1 : isCom c.ts[i] = false := by unfold isCom; rw [beq_eq_false_iff_ne]; exact h1
    have e2 : isCom t = false := by unfold isCom; rw [beq_eq_false_iff_ne]; exact h2
    rw [e1, e2]
    simp
theorem CV.com {c : Crd} (h : CV c) {i : Nat} (hi : i < c.ts.length) {t : Tx} (ht : TxV t) (h1 : c.ts[i].d ≠ 2) (h2 : t.d = 2) : CV ⟨c.ts.set i t, c.os ++ [(i : Int)]⟩ := by
  refine ⟨by simpa using h.many, fun x hx => ?_, fun j hj => ?_, ?_⟩
  · rcases List.mem_or_eq_of_mem_set hx with h3 | h3
    · exact h.txs x h3
    · rw [h3]; exact ht
  · have hj' : j < c.ts.length := by simpa using hj
    show (c.ts.set i t)[j].d = 2 ↔ (j : Int) ∈ c.os ++ [(i : Int)]
    rw [set_get hj', List.mem_append, ← h.ord j hj', List.mem_singleton]
    by_cases e : i = j
    · subst e
      rw [if_pos rfl]
      exact ⟨fun _ => .inr rfl, fun _ => h2⟩
    · rw [if_neg e]
      exact ⟨.inl, fun k => k.resolve_right fun e2 => e (by omega)⟩
  · show (c.os ++ [(i : Int)]).length = (c.ts.set i t).countP isCom
    rw [List.countP_set hi, List.length_append, h.cnt]
    have e1 : isCom c.ts[i] = false := by unfold isCom; rw [beq_eq_false_iff_ne]; exact h1
    have e2 : isCom t = true := by unfold isCom; rw [beq_iff_eq]; exact h2
    rw [e1, e2]
    simp
theorem CV.add {c : Crd} (h : CV c) {t : Tx} (ht : TxV t) (h1 : c.ts.length < 12) (h2 : t.d ≠ 2) : CV ⟨c.ts ++ [t], c.os⟩ := by
  refine ⟨by show (c.ts ++ [t]).length ≤ 12; rw [List.length_append]; simp; omega, fun x hx => ?_, fun j hj => ?_, ?_⟩
  · rcases List.mem_append.1 hx with h3 | h3
    · exact h.txs x h3
    · rw [List.mem_singleton.1 h3]; exact ht
  · show (c.ts ++ [t])[j].d = 2 ↔ _
    by_cases e : j < c.ts.length
    · rw [List.getElem_append_left e]
      exact h.ord j e
    · have hj' : j < (c.ts ++ [t]).length := hj
      rw [List.length_append, List.length_singleton] at hj'
      rw [List.getElem_append_right (by omega)]
      simp only [List.getElem_singleton]
      refine ⟨fun e => absurd e h2, fun hm => ?_⟩
      obtain ⟨i, hi, e3, -⟩ := h.order.2 _ hm
      omega
  · show c.os.length = (c.ts ++ [t]).countP isCom
    rw [List.countP_append, ← h.cnt]
    have e2 : isCom t = false := by unfold isCom; rw [beq_eq_false_iff_ne]; exact h2
    simp [e2]
/-- A transaction that begins. -/
def fresh (ps : List Part) : Tx := ⟨ps, List.replicate ps.length 0, 0⟩
theorem fresh_valid {ps : List Part} (h : PartsV ps) : TxV (fresh ps) := by
  have hp : 0 < ps.length := List.length_pos_iff.2 h.1
  refine ⟨fun v hv => ?_, h, by simp [fresh], .inl ⟨rfl, fun hv => ?_, 0, ?_, by decide⟩⟩
  · have := (List.mem_replicate.1 hv).2; omega
  · have := (List.mem_replicate.1 hv).2; omega
  · exact List.mem_replicate.2 ⟨by omega, rfl⟩
/-- A transaction that is not decided, and a vote that is missing. -/
structure Open (c : Crd) (i k : Nat) : Prop where
  hi : i < c.ts.length
  d0 : c.ts[i].d = 0
  hk : k < c.ts[i].vs.length
  v0 : c.ts[i].vs[k] = 0
def noTx (t : Tx) (k : Nat) : Tx := ⟨t.ps, t.vs.set k (-1), 3⟩
def yesTx (t : Tx) (k : Nat) : Tx := ⟨t.ps, t.vs.set k 1, if (t.vs.set k 1).all (· == 1) then 2 else 0⟩
def lateTx (t : Tx) : Tx := ⟨t.ps, t.vs, 3⟩
theorem noTx_valid {t : Tx} {k : Nat} (h : TxV t) (hk : k < t.vs.length) : TxV (noTx t k) := by
  refine ⟨fun v hv => ?_, h.parts, by simpa [noTx] using h.len, .inr (.inr ⟨rfl, -1, ?_, by decide⟩)⟩
  · rcases List.mem_or_eq_of_mem_set hv with h1 | h1
    · exact h.rng v h1
    · omega
  · exact List.mem_set hk _
theorem yesTx_valid {t : Tx} {k : Nat} (h : TxV t) (h0 : t.d = 0) : TxV (yesTx t k) := by
  have hd : -1 ∉ t.vs := by
    rcases h.dec with ⟨_, h1, _⟩ | ⟨h1, _⟩ | ⟨h1, _⟩
    · exact h1
    · omega
    · omega
  refine ⟨fun v hv => ?_, h.parts, by simpa [yesTx] using h.len, ?_⟩
  · rcases List.mem_or_eq_of_mem_set hv with h1 | h1
    · exact h.rng v h1
    · omega
  · unfold yesTx
    by_cases ha : (t.vs.set k 1).all (· == 1) = true
    · refine .inr (.inl ⟨by simp only; rw [if_pos ha], fun v hv => ?_⟩)
      have := List.all_eq_true.1 ha v hv
      simpa using this
    · refine .inl ⟨by simp only; rw [if_neg ha], fun hv => ?_, ?_⟩
      · rcases List.mem_or_eq_of_mem_set hv with h1 | h1
        · exact hd h1
        · omega
      · rw [List.all_eq_true] at ha
        simp only [Classical.not_forall] at ha
        obtain ⟨v, hv, h1⟩ := ha
        exact ⟨v, hv, by simpa using h1⟩
theorem lateTx_valid {t : Tx} (h : TxV t) (h0 : t.d = 0) : TxV (lateTx t) := by
  refine ⟨h.rng, h.parts, h.len, .inr (.inr ⟨rfl, ?_⟩)⟩
  rcases h.dec with ⟨_, _, h1⟩ | ⟨h1, _⟩ | ⟨h1, _⟩
  · exact h1
  · omega
  · omega

/-! ### What the functions answer. -/
def noC (c : Crd) (n k : Nat) (h : n < c.ts.length) : Crd := ⟨c.ts.set n (noTx c.ts[n] k), c.os⟩
def yesC (c : Crd) (n k : Nat) (h : n < c.ts.length) : Crd := ⟨c.ts.set n (yesTx c.ts[n] k), if (c.ts[n].vs.set k 1).all (· == 1) then c.os ++ [(n : Int)] else c.os⟩
def lateC (c : Crd) (n : Nat) (h : n < c.ts.length) : Crd := ⟨c.ts.set n (lateTx c.ts[n]), c.os⟩
def newC (c : Crd) (ps : List Part) : Crd := ⟨c.ts ++ [fresh ps], c.os⟩
theorem noC_valid {c : Crd} {n k : Nat} (h : CV c) (ho : Open c n k) : CV (noC c n k ho.hi) :=
  h.set ho.hi (noTx_valid (h.txs _ (List.getElem_mem ho.hi)) ho.hk) (by rw [ho.d0]; decide) (by show (3 : Int) ≠ 2; decide)
theorem yesC_valid {c : Crd} {n k : Nat} (h : CV c) (ho : Open c n k) : CV (yesC c n k ho.hi) := by
  have hi := ho.hi
  have ht := yesTx_valid (k := k) (h.txs _ (List.getElem_mem ho.hi)) ho.d0
  unfold yesC
  by_cases ha : (c.ts[n].vs.set k 1).all (· == 1) = true
  · rw [if_pos ha]
    exact h.com ho.hi ht (by rw [ho.d0]; decide) (by unfold yesTx; simp only; rw [if_pos ha])
  · rw [if_neg ha]
    exact h.set ho.hi ht (by rw [ho.d0]; decide) (by unfold yesTx; simp only; rw [if_neg ha]; decide)
theorem lateC_valid {c : Crd} {n : Nat} (h : CV c) (hi : n < c.ts.length) (h0 : c.ts[n].d = 0) : CV (lateC c n hi) :=
  h.set hi (lateTx_valid (h.txs _ (List.getElem_mem hi)) h0) (by rw [h0]; decide) (by show (3 : Int) ≠ 2; decide)
theorem newC_valid {c : Crd} {ps : List Part} (h : CV c) (hp : PartsV ps) (h1 : c.ts.length < 12) : CV (newC c ps) :=
  h.add (fresh_valid hp) h1 (by show (0 : Int) ≠ 2; decide)
def none_ : Crd := ⟨[], []⟩
theorem none_valid : CV none_ := ⟨Nat.zero_le _, (fun _ ht => nomatch ht), (fun _ hi => absurd hi (Nat.not_lt_zero _)), rfl⟩
/-- CoordinatorBegin. -/
inductive Begun (c : Crd) (ps : List Part) : Crd → Bool → Prop
  | bad : ¬ (CV c ∧ PartsV ps) → Begun c ps none_ false
  | full : CV c → PartsV ps → ¬ c.ts.length < 12 → Begun c ps c false
  | yes : CV c → PartsV ps → c.ts.length < 12 → Begun c ps (newC c ps) true
/-- The vote of shard s for transaction t is awaited, as vote k of transaction n. -/
structure Awaits (c : Crd) (t s : Int) (n k : Nat) : Prop extends Open c n k where
  ht : t = (n : Int)
  kp : k < c.ts[n].ps.length
  hs : c.ts[n].ps[k].s = s
/-- CoordinatorVote. -/
inductive Counted (c : Crd) (t s : Int) (y : Bool) : Crd → Bool → Prop
  | bad : ¬ CV c → Counted c t s y none_ false
  | no : CV c → (∀ n k, ¬ Awaits c t s n k) → Counted c t s y c false
  | yes (n k : Nat) (h : Awaits c t s n k) : CV c → Counted c t s y (if y then yesC c n k h.hi else noC c n k h.hi) true
/-- CoordinatorTimeout. -/
inductive Late (c : Crd) (t : Int) : Crd → Bool → Prop
  | bad : ¬ CV c → Late c t none_ false
  | no : CV c → (∀ n (h : n < c.ts.length), t = (n : Int) → c.ts[n].d ≠ 0) → Late c t c false
  | yes (n : Nat) (h : n < c.ts.length) : t = (n : Int) → c.ts[n].d = 0 → CV c → Late c t (lateC c n h) true
theorem begun_ex (c : Crd) (ps : List Part) : ∃ x b, Begun c ps x b := by
  by_cases h : CV c ∧ PartsV ps
  · by_cases h1 : c.ts.length < 12
    · exact ⟨_, _, .yes h.1 h.2 h1⟩
    · exact ⟨_, _, .full h.1 h.2 h1⟩
  · exact ⟨_, _, .bad h⟩
theorem counted_ex (c : Crd) (t s : Int) (y : Bool) : ∃ x b, Counted c t s y x b := by
  by_cases h : CV c
  · by_cases h1 : ∃ n k, Awaits c t s n k
    · obtain ⟨n, k, h2⟩ := h1
      exact ⟨_, _, .yes n k h2 h⟩
    · exact ⟨_, _, .no h fun n k h2 => h1 ⟨n, k, h2⟩⟩
  · exact ⟨_, _, .bad h⟩
theorem late_ex (c : Crd) (t : Int) : ∃ x b, Late c t x b := by
  by_cases h : CV c
  · by_cases h1 : ∃ n, ∃ h : n < c.ts.length, t = (n : Int) ∧ c.ts[n].d = 0
    · obtain ⟨n, h2, h3, h4⟩ := h1
      exact ⟨_, _, .yes n h2 h3 h4 h⟩
    · exact ⟨_, _, .no h fun n h2 h3 h4 => h1 ⟨n, h2, h3, h4⟩⟩
  · exact ⟨_, _, .bad h⟩
theorem Begun.valid {c x : Crd} {ps : List Part} {b : Bool} (h : Begun c ps x b) : CV x := by
  cases h with
  | bad _ => exact none_valid
  | full h _ _ => exact h
  | yes h h1 h2 => exact newC_valid h h1 h2
theorem Counted.valid {c x : Crd} {t s : Int} {y b : Bool} (h : Counted c t s y x b) : CV x := by
  cases h with
  | bad _ => exact none_valid
  | no h _ => exact h
  | yes n k h1 h => cases y with
    | true => exact yesC_valid h h1.toOpen
    | false => exact noC_valid h h1.toOpen
theorem Late.valid {c x : Crd} {t : Int} {b : Bool} (h : Late c t x b) : CV x := by
  cases h with
  | bad _ => exact none_valid
  | no h _ => exact h
  | yes n h1 _ h3 h => exact lateC_valid h h1 h3
/-- At most one vote is meant. -/
theorem parts_one {ps : List Part} (h : PartsV ps) {i j : Nat} (hi : i < ps.length) (hj : j < ps.length) (e : ps[i].s = ps[j].s) : i = j := by
  have hp := List.pairwise_iff_getElem.1 h.2.2
  rcases Nat.lt_trichotomy i j with h1 | h1 | h1
  · have := hp i j hi hj h1; omega
  · exact h1
  · have := hp j i hj hi h1; omega
theorem Awaits.one {c : Crd} (h : CV c) {t s : Int} {n k n' k' : Nat} (a : Awaits c t s n k) (b : Awaits c t s n' k') : n = n' ∧ k = k' := by
  have e : n = n' := by have := a.ht; have := b.ht; omega
  subst e
  exact ⟨rfl, parts_one (h.txs _ (List.getElem_mem a.hi)).parts a.kp b.kp (a.hs.trans b.hs.symm)⟩
/-- The shards that a transaction waits for, and those of a number. -/
def waitsT (t : Tx) : List Int := ((t.ps.zip t.vs).filter fun x => x.2 == 0).map fun x => x.1.s
def Waits (c : Crd) (t : Int) (zs : List Int) : Prop := (∃ n, ∃ h : n < c.ts.length, CV c ∧ t = (n : Int) ∧ c.ts[n].d = 0 ∧ zs = waitsT c.ts[n]) ∨ (¬ (CV c ∧ ∃ n, ∃ h : n < c.ts.length, t = (n : Int) ∧ c.ts[n].d = 0) ∧ zs = [])
theorem waits_ex (c : Crd) (t : Int) : ∃ zs, Waits c t zs := by
  by_cases h : CV c ∧ ∃ n, ∃ h : n < c.ts.length, t = (n : Int) ∧ c.ts[n].d = 0
  · obtain ⟨h1, n, h2, h3, h4⟩ := h
    exact ⟨_, .inl ⟨n, h2, h1, h3, h4, rfl⟩⟩
  · exact ⟨_, .inr ⟨h, rfl⟩⟩
theorem mem_waitsT {t : Tx} {s : Int} (hl : t.vs.length = t.ps.length) : s ∈ waitsT t ↔ ∃ k, ∃ h1 : k < t.ps.length, ∃ h2 : k < t.vs.length, t.ps[k].s = s ∧ t.vs[k] = 0 := by
  unfold waitsT
  constructor
  · intro h
    obtain ⟨x, hx, rfl⟩ := List.mem_map.1 h
    obtain ⟨h1, h2⟩ := List.mem_filter.1 hx
    obtain ⟨k, hk, rfl⟩ := List.mem_iff_getElem.1 h1
    have hk' : k < t.ps.length ∧ k < t.vs.length := by
      rw [List.length_zip] at hk
      omega
    refine ⟨k, hk'.1, hk'.2, ?_, ?_⟩
    · rw [List.getElem_zip]
    · rw [List.getElem_zip] at h2
      simpa using h2
  · rintro ⟨k, h1, h2, rfl, h3⟩
    refine List.mem_map.2 ⟨(t.ps[k], t.vs[k]), List.mem_filter.2 ⟨?_, by simp [h3]⟩, rfl⟩
    have hk : k < (t.ps.zip t.vs).length := by rw [List.length_zip]; omega
    have := List.getElem_mem hk
    rwa [List.getElem_zip] at this
/-- What a committed transaction sets in a shard, and the refs of a shard after some of them. -/
def usAt (ps : List Part) (s : Int) : List Up := match ps.find? fun p => p.s == s with
  | some p => p.us
  | none => []
def refsC (c : Crd) (s : Int) (m : Nat) : List Int := (c.os.take m).foldl (fun z o => match c.ts[o.toNat]? with
  | some t => setR z (usAt t.ps s)
  | none => z) Sh.start
theorem refsC_succ {c : Crd} {s : Int} {m n : Nat} (hm : m < c.os.length) (hn : n < c.ts.length) (e : c.os[m] = (n : Int)) : refsC c s (m + 1) = setR (refsC c s m) (usAt c.ts[n].ps s) := by
  unfold refsC
  rw [List.take_succ_eq_append_getElem hm, List.foldl_append]
  simp only [List.foldl_cons, List.foldl_nil]
  rw [e, show ((n : Int)).toNat = n from rfl, List.getElem?_eq_getElem hn]

/-! ### What the laws ask of them. -/
theorem zip_count : ∀ {ps : List Part} {vs : List Int}, vs.length = ps.length → ((ps.zip vs).filter fun x => x.2 == 0).length = vs.count 0 := by
  intro ps
  induction ps with
  | nil => intro vs h; rw [List.eq_nil_of_length_eq_zero h]; rfl
  | cons p ps ih =>
    intro vs h
    cases vs with
    | nil => cases h
    | cons v vs =>
      have h' := ih (vs := vs) (by simpa using h)
      rw [List.zip_cons_cons, List.filter_cons, List.count_cons, ← h']
      by_cases e : v = 0
      · subst e; simp
      · simp [e]
theorem waits_len {t : Tx} (hl : t.vs.length = t.ps.length) : (waitsT t).length = t.vs.count 0 := by
  unfold waitsT
  rw [List.length_map, zip_count hl]
theorem waits_vote {t : Tx} {k : Nat} (hl : t.vs.length = t.ps.length) (hk : k < t.vs.length) (h0 : t.vs[k] = 0) : (waitsT t).length = (waitsT (yesTx t k)).length + 1 := by
  have hp : 0 < t.vs.count 0 := List.count_pos_iff.2 (by rw [← h0]; exact List.getElem_mem hk)
  rw [waits_len hl, waits_len (by simpa [yesTx] using hl)]
  show _ = (t.vs.set k 1).count 0 + 1
  rw [List.count_set hk, h0]
  simp
  omega
theorem waits_gone {t : Tx} {k : Nat} (h : TxV t) (hk : k < t.ps.length) : t.ps[k].s ∉ waitsT (yesTx t k) := fun hm => by
  obtain ⟨j, h1, h2, h3, h4⟩ := (mem_waitsT (by simpa [yesTx] using h.len)).1 hm
  have e : j = k := parts_one h.parts h1 hk h3
  subst e
  simp [yesTx] at h4
theorem all_one {t : Tx} {k : Nat} (h : TxV t) (hd : t.d = 0) (hk : k < t.vs.length) (h0 : t.vs[k] = 0) : (t.vs.set k 1).all (· == 1) = true ↔ (waitsT t).length = 1 := by
  have hn : -1 ∉ t.vs := by
    rcases h.dec with ⟨_, h1, _⟩ | ⟨h1, _⟩ | ⟨h1, _⟩
    · exact h1
    · omega
    · omega
  rw [waits_vote h.len hk h0, waits_len (by simpa [yesTx] using h.len)]
  show _ ↔ (t.vs.set k 1).count 0 + 1 = 1
  constructor
  · intro ha
    have : (t.vs.set k 1).count 0 = 0 := List.count_eq_zero.2 fun hm => by
      have := List.all_eq_true.1 ha 0 hm
      simp at this
    omega
  · intro hc
    have hz := List.count_eq_zero.1 (show (t.vs.set k 1).count 0 = 0 by omega)
    refine List.all_eq_true.2 fun v hv => ?_
    rcases List.mem_or_eq_of_mem_set hv with h1 | h1
    · have h2 := h.rng v h1
      have h3 : v ≠ -1 := fun e => hn (by rw [← e]; exact h1)
      have h4 : v ≠ 0 := fun e => hz (by rw [← e]; exact hv)
      rw [beq_iff_eq]
      omega
    · rw [h1]; rfl
theorem waits_asc {t : Tx} (h : TxV t) : (waitsT t).Pairwise (· < ·) := by
  unfold waitsT
  refine List.pairwise_map.2 (List.Pairwise.sublist List.filter_sublist ?_)
  have := h.parts.2.2
  rw [← List.map_fst_zip (l₁ := t.ps) (l₂ := t.vs) (by rw [h.len]; exact Nat.le_refl _), List.pairwise_map] at this
  exact this
theorem waits_fresh (ps : List Part) : waitsT (fresh ps) = ps.map Part.s := by
  unfold waitsT fresh
  induction ps with
  | nil => rfl
  | cons p ps ih =>
    simp only [List.length_cons, List.replicate_succ, List.zip_cons_cons, List.filter_cons]
    rw [if_pos (by rfl), List.map_cons, ih, List.map_cons]
theorem waits_pos {t : Tx} (h : TxV t) (hd : t.d = 0) : waitsT t ≠ [] := fun e => by
  rcases h.dec with ⟨_, h1, v, hv, h2⟩ | ⟨h1, _⟩ | ⟨h1, _⟩
  · have h3 := h.rng v hv
    have h4 : v ≠ -1 := fun e => h1 (by rw [← e]; exact hv)
    have h5 : v = 0 := by omega
    subst h5
    obtain ⟨k, hk, e2⟩ := List.mem_iff_getElem.1 hv
    have kp : k < t.ps.length := by rw [← h.len]; exact hk
    have hm : t.ps[k].s ∈ waitsT t := (mem_waitsT h.len).2 ⟨k, kp, hk, rfl, e2⟩
    rw [e] at hm
    cases hm
  · exact absurd (hd.symm.trans h1) (by decide)
  · exact absurd (hd.symm.trans h1) (by decide)
/-- A vote is awaited just where the shard is waited for. -/
theorem awaits_iff {c : Crd} {t s : Int} {zs : List Int} (h : CV c) (hz : Waits c t zs) : s ∈ zs ↔ ∃ n k, Awaits c t s n k := by
  constructor
  · intro hs
    rcases hz with ⟨n, h1, h2, h3, h4, rfl⟩ | ⟨-, rfl⟩
    · obtain ⟨k, k1, k2, k3, k4⟩ := (mem_waitsT (h.txs _ (List.getElem_mem h1)).len).1 hs
      exact ⟨n, k, ⟨h1, h4, k2, k4⟩, h3, k1, k3⟩
    · cases hs
  · rintro ⟨n, k, a⟩
    rcases hz with ⟨n', h1, h2, h3, h4, rfl⟩ | ⟨hn, rfl⟩
    · have e : n' = n := by have := a.ht; omega
      subst e
      exact (mem_waitsT (h.txs _ (List.getElem_mem h1)).len).2 ⟨k, a.kp, a.hk, a.hs, a.v0⟩
    · exact absurd ⟨h, n, a.hi, a.ht, a.d0⟩ hn
theorem yesC_get {c : Crd} {n k : Nat} (h : n < c.ts.length) : (yesC c n k h).ts[n]'(by simpa [yesC] using h) = yesTx c.ts[n] k := by
  simp [yesC]
theorem noC_get {c : Crd} {n k : Nat} (h : n < c.ts.length) : (noC c n k h).ts[n]'(by simpa [noC] using h) = noTx c.ts[n] k := by
  simp [noC]
theorem lateC_get {c : Crd} {n : Nat} (h : n < c.ts.length) : (lateC c n h).ts[n]'(by simpa [lateC] using h) = lateTx c.ts[n] := by
  simp [lateC]
/-- A vote is counted once. -/
theorem counted_once {c x : Crd} {t s : Int} {y : Bool} (h : Counted c t s y x true) : ∀ n k, ¬ Awaits x t s n k := by
  cases h with
  | yes n k a hv =>
    intro n' k' b
    have e : n' = n := by have := a.ht; have := b.ht; omega
    subst e
    cases y with
    | false =>
      have h1 := b.d0
      simp only [Bool.false_eq_true, if_false] at h1
      rw [noC_get a.hi] at h1
      exact absurd h1 (by show (3 : Int) ≠ 0; decide)
    | true =>
      have hi := a.hi
      have h1 := b.v0
      have h2 := b.hs
      have h3 := b.kp
      simp only [if_true] at h1 h2 h3
      simp only [yesC_get hi] at h1 h2 h3
      have e2 : k' = k := parts_one (hv.txs _ (List.getElem_mem hi)).parts h3 a.kp (h2.trans a.hs.symm)
      subst e2
      simp [yesTx] at h1
/-- A decided transaction stays so. -/
theorem late_once {c x : Crd} {t : Int} (h : Late c t x true) : ∀ n (hn : n < x.ts.length), t = (n : Int) → x.ts[n].d ≠ 0 := by
  cases h with
  | yes n hn ht _ _ =>
    intro m hm e
    have e2 : m = n := by omega
    subst e2
    rw [lateC_get hn]
    show (3 : Int) ≠ 0
    decide
theorem late_back {c : Crd} {n : Nat} (h : n < c.ts.length) (h0 : c.ts[n].d = 0) : (lateC c n h).ts.set n { lateTx c.ts[n] with d := 0 } = c.ts := by
  show (c.ts.set n (lateTx c.ts[n])).set n _ = _
  rw [List.set_set]
  have e : ({ lateTx c.ts[n] with d := 0 } : Tx) = c.ts[n] := by
    unfold lateTx
    rw [← h0]
  rw [e, List.set_getElem_self]
/-- Two votes for a transaction, in either order. -/
theorem votes_swap {c : Crd} {n k k' : Nat} (hn : n < c.ts.length) (hk : k ≠ k') :
    (c.ts[n].vs.set k 1).all (· == 1) = false → (c.ts[n].vs.set k' 1).all (· == 1) = false →
    yesC (yesC c n k hn) n k' (by simpa [yesC] using hn) = yesC (yesC c n k' hn) n k (by simpa [yesC] using hn) := by
  intro h1 h2
  have e1 : (yesC c n k hn).os = c.os := by simp only [yesC]; rw [if_neg (by rw [h1]; decide)]
  have e2 : (yesC c n k' hn).os = c.os := by simp only [yesC]; rw [if_neg (by rw [h2]; decide)]
  have g1 := yesC_get (c := c) (k := k) hn
  have g2 := yesC_get (c := c) (k := k') hn
  have hs : (c.ts[n].vs.set k 1).set k' 1 = (c.ts[n].vs.set k' 1).set k 1 := List.set_comm _ _ hk
  have t1 : (yesC (yesC c n k hn) n k' (by simpa [yesC] using hn)).ts = c.ts.set n (yesTx (yesTx c.ts[n] k) k') := by
    show (yesC c n k hn).ts.set n _ = _
    rw [g1]
    show (c.ts.set n _).set n _ = _
    rw [List.set_set]
  have t2 : (yesC (yesC c n k' hn) n k (by simpa [yesC] using hn)).ts = c.ts.set n (yesTx (yesTx c.ts[n] k') k) := by
    show (yesC c n k' hn).ts.set n _ = _
    rw [g2]
    show (c.ts.set n _).set n _ = _
    rw [List.set_set]
  have ey : yesTx (yesTx c.ts[n] k) k' = yesTx (yesTx c.ts[n] k') k := by
    unfold yesTx
    simp only [hs]
  have o1 : (yesC (yesC c n k hn) n k' (by simpa [yesC] using hn)).os = if ((c.ts[n].vs.set k 1).set k' 1).all (· == 1) then c.os ++ [(n : Int)] else c.os := by
    have hb : n < (yesC c n k hn).ts.length := by simpa [yesC] using hn
    show (if ((yesC c n k hn).ts[n].vs.set k' 1).all (· == 1) then (yesC c n k hn).os ++ [(n : Int)] else (yesC c n k hn).os) = _
    rw [g1, e1]
    rfl
  have o2 : (yesC (yesC c n k' hn) n k (by simpa [yesC] using hn)).os = if ((c.ts[n].vs.set k' 1).set k 1).all (· == 1) then c.os ++ [(n : Int)] else c.os := by
    have hb : n < (yesC c n k' hn).ts.length := by simpa [yesC] using hn
    show (if ((yesC c n k' hn).ts[n].vs.set k 1).all (· == 1) then (yesC c n k' hn).os ++ [(n : Int)] else (yesC c n k' hn).os) = _
    rw [g2, e2]
    rfl
  have ext : ∀ a b : Crd, a.ts = b.ts → a.os = b.os → a = b := fun a b h1 h2 => by cases a; cases b; simp only at h1 h2; rw [h1, h2]
  exact ext _ _ (by rw [t1, t2, ey]) (by rw [o1, o2, hs])
/-- The parts, one after another. -/
theorem usAt_fold (s : Int) : ∀ {ps : List Part}, ps.Pairwise (fun a b => a.s < b.s) → ∀ z, ps.foldl (fun z p => if p.s = s then setR z p.us else z) z = setR z (usAt ps s) := by
  intro ps
  induction ps with
  | nil => intro _ z; rfl
  | cons p ps ih =>
    intro h z
    obtain ⟨h1, h2⟩ := List.pairwise_cons.1 h
    rw [List.foldl_cons, ih h2]
    by_cases e : p.s = s
    · have e1 : usAt (p :: ps) s = p.us := by unfold usAt; rw [List.find?_cons_of_pos (by simp [e])]
      have e2 : usAt ps s = [] := by
        unfold usAt
        rw [List.find?_eq_none.2 fun q hq => by have := h1 q hq; simp; omega]
      rw [if_pos e, e1, e2]
      rfl
    · have e1 : usAt (p :: ps) s = usAt ps s := by unfold usAt; rw [List.find?_cons_of_neg (by simp [e])]
      rw [if_neg e, e1]

/-! ### Valid, as it is counted. -/
/-- The first k parts are good, each behind the one ahead of it. -/
def PGood (ps : List Part) (k : Nat) : Prop := ∀ i (h : i < ps.length), i < k → (0 ≤ ps[i].s ∧ ps[i].s ≤ 2) ∧ UV ps[i].us ∧ ∀ j (hj : j < ps.length), j + 1 = i → ps[j].s < ps[i].s
theorem PGood.zero (ps : List Part) : PGood ps 0 := fun _ _ h => absurd h (Nat.not_lt_zero _)
theorem PGood.succ {ps : List Part} {k : Nat} (h : PGood ps k) (hk : k < ps.length) (h1 : 0 ≤ ps[k].s ∧ ps[k].s ≤ 2) (h2 : UV ps[k].us) (h3 : ∀ j (hj : j < ps.length), j + 1 = k → ps[j].s < ps[k].s) : PGood ps (k + 1) := fun i hi hik => by
  by_cases e : i = k
  · subst e; exact ⟨h1, h2, h3⟩
  · exact h i hi (by omega)
theorem PGood.lt {ps : List Part} (h : PGood ps ps.length) : ∀ d i (hi : i + d + 1 < ps.length), ps[i].s < ps[i + d + 1].s := by
  intro d
  induction d with
  | zero => intro i hi; exact (h (i + 1) (by omega) (by omega)).2.2 i (by omega) rfl
  | succ d ih =>
    intro i hi
    have h1 := ih i (by omega)
    have h2 := (h (i + (d + 1) + 1) hi hi).2.2 (i + d + 1) (by omega) (by omega)
    omega
theorem partsV_iff {ps : List Part} : PartsV ps ↔ ps ≠ [] ∧ PGood ps ps.length := by
  constructor
  · rintro ⟨h1, h2, h3⟩
    refine ⟨h1, fun i hi _ => ?_⟩
    obtain ⟨q1, q2, q3⟩ := h2 _ (List.getElem_mem hi)
    exact ⟨⟨q1, q2⟩, q3, fun j hj e => List.pairwise_iff_getElem.1 h3 j i hj hi (by omega)⟩
  · rintro ⟨h1, h2⟩
    refine ⟨h1, fun p hp => ?_, List.pairwise_iff_getElem.2 fun i j hi hj hij => ?_⟩
    · obtain ⟨i, hi, rfl⟩ := List.mem_iff_getElem.1 hp
      obtain ⟨⟨q1, q2⟩, q3, -⟩ := h2 i hi hi
      exact ⟨q1, q2, q3⟩
    · obtain ⟨d, rfl⟩ : ∃ d, j = i + d + 1 := ⟨j - i - 1, by omega⟩
      exact h2.lt d i hj
theorem txV_iff {t : Tx} : TxV t ↔ (∀ v ∈ t.vs, -1 ≤ v ∧ v ≤ 1) ∧ PartsV t.ps ∧ t.vs.length = t.ps.length ∧ ((t.d = 0 ∧ t.vs.count (-1) = 0 ∧ t.vs.count 1 < t.vs.length) ∨ (t.d = 2 ∧ t.vs.count 1 = t.vs.length) ∨ (t.d = 3 ∧ t.vs.count 1 < t.vs.length)) := by
  have all : t.vs.count 1 = t.vs.length ↔ ∀ v ∈ t.vs, v = 1 := by
    rw [List.count_eq_length]
    exact ⟨fun h v hv => (h v hv).symm, fun h v hv => (h v hv).symm⟩
  have some_ : t.vs.count 1 < t.vs.length ↔ ∃ v ∈ t.vs, v ≠ 1 := by
    have hle := List.count_le_length (a := (1 : Int)) (l := t.vs)
    constructor
    · intro h
      by_cases h1 : ∃ v ∈ t.vs, v ≠ 1
      · exact h1
      · have := all.2 fun v hv => Classical.byContradiction fun e => h1 ⟨v, hv, e⟩
        omega
    · rintro ⟨v, hv, h1⟩
      rcases Nat.lt_or_ge (t.vs.count 1) t.vs.length with h2 | h2
      · exact h2
      · exact absurd (all.1 (by omega) v hv) h1
  constructor
  · intro h
    refine ⟨h.rng, h.parts, h.len, ?_⟩
    rw [some_, all, List.count_eq_zero]
    exact h.dec
  · rintro ⟨h1, h2, h3, h4⟩
    rw [some_, all, List.count_eq_zero] at h4
    exact ⟨h1, h2, h3, h4⟩
end Co
end Go.Proofs.YteaibflloeipaaaGreatDoor
namespace Go.Proofs.YteaibflloeipaaaGreatDoor
open Go.RowKit Wo Pu Rf Lk Sh Co

/-- At ad lies the part p. -/
def PartAt (w : World) (B : Nat) (ad : Addr) (p : Part) : Prop :=
  ∃ (A : Option Addr) (c : Nat), w.cell? ad = some (.int .i64 p.s) ∧ w.cell? (ad.add 1) = some (.slice A p.us.length c) ∧ p.us.length ≤ c ∧ Row w B A (upsV p.us)
/-- The slice with head A holds the parts ps. -/
def Parts (w : World) (B : Nat) (A : Option Addr) (ps : List Part) : Prop :=
  ps = [] ∨ ∃ ad, A = some ad ∧ ad.block < B ∧ ∀ i (h : i < ps.length), PartAt w B (ad.add (i * 2)) ps[i]
/-- At ad lies the transaction t. -/
def TxAt (w : World) (B : Nat) (ad : Addr) (t : Tx) : Prop :=
  ∃ (A : Option Addr) (c : Nat) (A2 : Option Addr) (c2 : Nat), w.cell? ad = some (.slice A t.ps.length c) ∧ w.cell? (ad.add 1) = some (.slice A2 t.vs.length c2) ∧ w.cell? (ad.add 2) = some (.int .i64 t.d) ∧ t.ps.length ≤ c ∧ t.vs.length ≤ c2 ∧ Parts w B A t.ps ∧ Row w B A2 (ints t.vs)
/-- The slice with head A holds the transactions ts. -/
def Txs (w : World) (B : Nat) (A : Option Addr) (ts : List Tx) : Prop :=
  ts = [] ∨ ∃ ad, A = some ad ∧ ad.block < B ∧ ∀ i (h : i < ts.length), TxAt w B (ad.add (i * 3)) ts[i]
section
variable {w w' : World} {B C : Nat} {A : Option Addr} {ps : List Part} {ts : List Tx}
theorem PartAt.below {ad : Addr} {p : Part} (h : PartAt w B ad p) (ha : ad.block < B) (hb : Below C w w') (hC : B ≤ C) : PartAt w' B ad p := by
  obtain ⟨A, c, h0, h1, h2, h3⟩ := h
  have f : ∀ p : Addr, p.block < B → w'.cell? p = w.cell? p := fun p hp => hb.cell (by omega)
  exact ⟨A, c, by rw [f _ ha]; exact h0, by rw [f _ (by rw [add_block]; exact ha)]; exact h1, h2, h3.below hb hC⟩
theorem Parts.below (h : Parts w B A ps) (hb : Below C w w') (hC : B ≤ C) : Parts w' B A ps := by
  rcases h with rfl | ⟨ad, e, ha, hh⟩
  · exact .inl rfl
  · exact .inr ⟨ad, e, ha, fun i hi => (hh i hi).below (by rw [add_block]; exact ha) hb hC⟩
theorem Parts.more {B' : Nat} (h : Parts w B A ps) (hB : B ≤ B') : Parts w B' A ps := by
  rcases h with rfl | ⟨ad, e, ha, hh⟩
  · exact .inl rfl
  · refine .inr ⟨ad, e, by omega, fun i hi => ?_⟩
    obtain ⟨A, c, h0, h1, h2, h3⟩ := hh i hi
    exact ⟨A, c, h0, h1, h2, h3.more hB⟩
theorem Parts.on (h : Parts w w.heap.size A ps) (hb : Below w.heap.size w w') : Parts w' w'.heap.size A ps := (h.below hb (Nat.le_refl _)).more hb.size
theorem Parts.part (h : Parts w B A ps) {k : Nat} (hk : k < ps.length) :
    ∃ (p : Part) (ad : Addr) (A' : Option Addr) (c : Nat), ps[k] = p ∧ A = some ad ∧ (ad.add (k * 2)).block < B ∧ w.cell? (ad.add (k * 2)) = some (.int .i64 p.s) ∧
      w.cell? ⟨(ad.add (k * 2)).block, (ad.add (k * 2)).off + 1, none⟩ = some (.slice A' p.us.length c) ∧ p.us.length ≤ c ∧ Row w B A' (upsV p.us) := by
  rcases h with rfl | ⟨ad, e, ha, hh⟩
  · simp at hk
  · obtain ⟨A', c, h0, h1, h2, h3⟩ := hh k hk
    exact ⟨_, ad, A', c, rfl, e, by rw [add_block]; exact ha, h0, h1, h2, h3⟩
theorem TxAt.below {ad : Addr} {t : Tx} (h : TxAt w B ad t) (ha : ad.block < B) (hb : Below C w w') (hC : B ≤ C) : TxAt w' B ad t := by
  obtain ⟨A, c, A2, c2, h0, h1, h2, h3, h4, h5, h6⟩ := h
  have f : ∀ p : Addr, p.block < B → w'.cell? p = w.cell? p := fun p hp => hb.cell (by omega)
  exact ⟨A, c, A2, c2, by rw [f _ ha]; exact h0, by rw [f _ (by rw [add_block]; exact ha)]; exact h1, by rw [f _ (by rw [add_block]; exact ha)]; exact h2, h3, h4, h5.below hb hC, h6.below hb hC⟩
theorem Txs.below (h : Txs w B A ts) (hb : Below C w w') (hC : B ≤ C) : Txs w' B A ts := by
  rcases h with rfl | ⟨ad, e, ha, hh⟩
  · exact .inl rfl
  · exact .inr ⟨ad, e, ha, fun i hi => (hh i hi).below (by rw [add_block]; exact ha) hb hC⟩
theorem Txs.more {B' : Nat} (h : Txs w B A ts) (hB : B ≤ B') : Txs w B' A ts := by
  rcases h with rfl | ⟨ad, e, ha, hh⟩
  · exact .inl rfl
  · refine .inr ⟨ad, e, by omega, fun i hi => ?_⟩
    obtain ⟨A, c, A2, c2, h0, h1, h2, h3, h4, h5, h6⟩ := hh i hi
    exact ⟨A, c, A2, c2, h0, h1, h2, h3, h4, h5.more hB, h6.more hB⟩
theorem Txs.on (h : Txs w w.heap.size A ts) (hb : Below w.heap.size w w') : Txs w' w'.heap.size A ts := (h.below hb (Nat.le_refl _)).more hb.size
theorem Txs.tx (h : Txs w B A ts) {k : Nat} (hk : k < ts.length) :
    ∃ (t : Tx) (ad : Addr) (A' : Option Addr) (c : Nat) (A2 : Option Addr) (c2 : Nat), ts[k] = t ∧ A = some ad ∧ (ad.add (k * 3)).block < B ∧ w.cell? (ad.add (k * 3)) = some (.slice A' t.ps.length c) ∧
      w.cell? ⟨(ad.add (k * 3)).block, (ad.add (k * 3)).off + 1, none⟩ = some (.slice A2 t.vs.length c2) ∧ w.cell? ⟨(ad.add (k * 3)).block, (ad.add (k * 3)).off + 2, none⟩ = some (.int .i64 t.d) ∧
      t.ps.length ≤ c ∧ t.vs.length ≤ c2 ∧ Parts w B A' t.ps ∧ Row w B A2 (ints t.vs) := by
  rcases h with rfl | ⟨ad, e, ha, hh⟩
  · simp at hk
  · obtain ⟨A', c, A2, c2, h0, h1, h2, h3, h4, h5, h6⟩ := hh k hk
    exact ⟨_, ad, A', c, A2, c2, rfl, e, by rw [add_block]; exact ha, h0, h1, h2, h3, h4, h5, h6⟩
theorem Txs.take_ (h : Txs w B A ts) (k : Nat) : Txs w B A (ts.take k) := by
  rcases h with rfl | ⟨ad, e, ha, hh⟩
  · exact .inl (by simp)
  · exact .inr ⟨ad, e, ha, fun i hi => by rw [List.getElem_take]; exact hh i (by rw [List.length_take] at hi; omega)⟩
end
/-- A coordinator's value, and the coordinator c, read. -/
def crV (A : Option Addr) (n c : Nat) (A2 : Option Addr) (n2 c2 : Nat) : Value := .agg #[.slice A n c, .slice A2 n2 c2]
def Crdd (w : World) (B : Nat) (v : Value) (k : Crd) : Prop := ∃ A c A2 c2, v = crV A k.ts.length c A2 k.os.length c2 ∧ Txs w B A k.ts ∧ k.ts.length ≤ c ∧ Row w B A2 (ints k.os) ∧ k.os.length ≤ c2
theorem Crdd.below {w w' : World} {B C : Nat} {v : Value} {k : Crd} (h : Crdd w B v k) (hb : Below C w w') (hC : B ≤ C) : Crdd w' B v k := by
  obtain ⟨A, c, A2, c2, e, h1, h2, h3, h4⟩ := h
  exact ⟨A, c, A2, c2, e, h1.below hb hC, h2, h3.below hb hC, h4⟩
theorem Crdd.more {w : World} {B B' : Nat} {v : Value} {k : Crd} (h : Crdd w B v k) (hB : B ≤ B') : Crdd w B' v k := by
  obtain ⟨A, c, A2, c2, e, h1, h2, h3, h4⟩ := h
  exact ⟨A, c, A2, c2, e, h1.more hB, h2, h3.more hB, h4⟩
theorem Crdd.on {w w' : World} {B : Nat} {v : Value} {k : Crd} (h : Crdd w B v k) (hb : Below B w w') (hB : B ≤ w'.heap.size) : Crdd w' w'.heap.size v k := (h.below hb (Nat.le_refl _)).more hB
/-- Sizes that the walks bear. -/
structure FitC (k : Crd) : Prop where
  ts : k.ts.length ≤ 1048576
  os : k.os.length ≤ 1048576
  ps : ∀ t ∈ k.ts, t.ps.length ≤ 1048576 ∧ t.vs.length ≤ 1048576
  us : ∀ t ∈ k.ts, ∀ p ∈ t.ps, p.us.length ≤ 1048576
end Go.Proofs.YteaibflloeipaaaGreatDoor
namespace Go.Proofs.YteaibflloeipaaaGreatDoor
open Go.RowKit Wo Pu Rf

/-- An append as one operation of a region. -/
theorem op_append_row2 {P : Program} (w : World) {o : Oper} {a : Act} {K : Act → World → Prop} {Q : Exit → Act → World → Prop} (hgd : o.guard = none) (s x : Operand) (t : TypeId)
    (ho : o.op = .call { callee := .builtin .append, args := #[s, x], argTypes := #[t, t] })
    (base : Nat) (e : TypeId) (i : TypeInfo) (z : Value) (size bytes : Nat) (ht : P.underlying t = some (.slice e)) (hi : P.info? e = some i) (hz : i.zero = some z)
    (hsize : i.size = size) (hby : i.bytes = bytes) (hzs : z.cells.size = size) (hsz : 0 < size)
    (v : Value) (n : Nat) (xs : List Value) (hs : a.eval s = v) (hown : w.ownsRow base e size v n xs)
    (B : Nat) (A : Option Addr) (m c : Nat) (news : List Value) (hx : a.eval x = .slice A m c) (hr : Row w B A news) (hl : news.length = m * size) (h1 : ∀ u ∈ news, u.oneCell' = true)
    (h63 : n + m ≤ maxLen) (hbytes : (n + m) * bytes ≤ 140737488355328) (hbase : base ≤ w.heap.size)
    (h : ∀ v' w', w'.ownsRow base e size v' (n + m) (xs ++ news) → w.grownBy w' v.ownBlock → K (a.put o.dst v') w') : Oper.wp P o a w K Q := by
  have hw : Region.wanted o (yielded #[] a.tmps) = true := by simp [Region.wanted, hgd]
  have := step_append_row (ops := #[]) (E := False) (Q := Q) w hgd s x t ho base e i z size bytes ht hi hz hsize hby hzs hsz v n xs hs hown B A m c news hx hr hl h1 h63 hbytes hbase h
  rwa [if_pos hw] at this
/-- A slice made as one operation of a region. -/
theorem op_make_full {P : Program} (w : World) {o : Oper} {a : Act} {K : Act → World → Prop} {Q : Exit → Act → World → Prop} (l c : Operand) (t : TypeId) (hop : o.op = Op.makeSlice t l c)
    (base : Nat) (e : TypeId) (i : TypeInfo) (z : Value) (size : Nat) (h1 : P.underlying t = some (.slice e)) (h2 : P.info? e = some i) (h3 : i.zero = some z) (h4 : i.size = size)
    (kl kc : IntKind) (n : Nat) (hl : a.eval l = .int kl (n : Int)) (hc : a.eval c = .int kc (n : Int)) (b2 : i.bytes * n ≤ 281474976710656) (b3 : n ≤ maxLen) (b4 : base ≤ w.heap.size)
    (hK : ∀ w', w'.ownsRow base e size (.slice (some ⟨w.heap.size, 0, none⟩) n n) n (madeCells z.cells (n * size)).toList → w.grownBy w' none → K (a.put o.dst (.slice (some ⟨w.heap.size, 0, none⟩) n n)) w') : Oper.wp P o a w K Q := by
  obtain ⟨w', hrun, r1, r2⟩ := run_make_full (P := P) w base t e i z size h1 h2 h3 h4 kl kc n b2 b3 b4
  unfold Oper.wp
  simp [execOp, hop, hl, hc, hrun, Result.andThen]
  exact hK w' r1 r2
theorem made_ints (n : Nat) : (madeCells (Value.int .i64 0).cells (n * 1)).toList = ints (List.replicate n 0) := by
  unfold madeCells ints
  simp only [Value.cells, Array.toList_map, Array.toList_range, Nat.mul_one, List.map_replicate]
  refine List.ext_getElem (by simp) fun i h1 h2 => ?_
  simp [Nat.mod_one]
/-! ### Blocks of one kind are written. -/
structure Only (S : Nat → Prop) (w w' : World) : Prop where
  os : w'.os = w.os
  tape : w'.tape = w.tape
  output : w'.output = w.output
  size : w.heap.size ≤ w'.heap.size
  block : ∀ k, k < w.heap.size → ¬ S k → w'.heap[k]? = w.heap[k]?
/-- The blocks of a colour. -/
def Hue (col : Nat → Nat) (c : Nat) : Nat → Prop := fun k => col k = c
section
variable {S T : Nat → Prop} {w w1 w2 : World}
theorem Only.refl (S : Nat → Prop) (w : World) : Only S w w := ⟨rfl, rfl, rfl, Nat.le_refl _, fun _ _ _ => rfl⟩
theorem Only.trans (h : Only S w w1) (k : Only S w1 w2) : Only S w w2 :=
  ⟨k.os.trans h.os, k.tape.trans h.tape, k.output.trans h.output, Nat.le_trans h.size k.size, fun i hi hc => (k.block i (Nat.lt_of_lt_of_le hi h.size) hc).trans (h.block i hi hc)⟩
theorem Only.mono (h : Only S w w1) (hs : ∀ k, S k → T k) : Only T w w1 := ⟨h.os, h.tape, h.output, h.size, fun i hi hc => h.block i hi fun e => hc (hs i e)⟩
theorem Only.later (h : Only S w w1) (k : Below w1.heap.size w1 w2) : Only S w w2 := h.trans ⟨k.os, k.tape, k.output, k.size, fun i hi _ => k.block i hi⟩
theorem Only.set_ (h : Only S w w1) {g : Nat} (hg : S g) (j : Nat) (u : Value) : Only S w (w1.setCell ⟨g, j, none⟩ u) :=
  h.trans ⟨rfl, rfl, rfl, by simp [World.setCell], fun i _ hc => Below.heap_setCell _ _ _ _ (fun e => hc (by rw [e]; exact hg))⟩
theorem Only.grown {row : Option Nat} (h : Only S w w1) (hg : w1.grownBy w2 row) (hr : ∀ k, row = some k → S k) : Only S w w2 :=
  h.trans ⟨hg.os, hg.tape, hg.output, hg.size, fun i hi hc => hg.block i hi (fun e => hc (hr i e.symm))⟩
theorem Only.below {B : Nat} (h : Only S w w1) (hB : B ≤ w.heap.size) (hc : ∀ k, k < B → ¬ S k) : Below B w w1 := ⟨h.os, h.tape, h.output, h.size, fun k hk => h.block k (by omega) (hc k hk)⟩
theorem Only.of_below (h : Below w.heap.size w w1) : Only S w w1 := ⟨h.os, h.tape, h.output, h.size, fun k hk _ => h.block k hk⟩
end
theorem row_same {w w' : World} {B n sz : Nat} {e : TypeId} {v : Value} {xs : List Value} (h : w.ownsRow B e sz v n xs) (hk : ∀ g, v.ownBlock = some g → w'.heap[g]? = w.heap[g]?) : w'.ownsRow B e sz v n xs := by
  refine ⟨h.1, ?_⟩
  rcases h.2 with ⟨h1, h2⟩ | ⟨g, cap, cur, hv, hB, hh, hr⟩
  · exact .inl ⟨h1, h2⟩
  · refine .inr ⟨g, cap, cur, hv, hB, ?_, hr⟩
    rw [hk g (by rw [hv]; rfl)]
    exact hh
theorem rowB_base {w : World} {B B' n sz : Nat} {e : TypeId} {v : Value} {xs : List Value} (h : w.ownsRow B e sz v n xs) (hB : B' ≤ B) : w.ownsRow B' e sz v n xs := by
  obtain ⟨h1, h2⟩ := h
  refine ⟨h1, ?_⟩
  rcases h2 with h2 | ⟨g', cap, cur, hv, hb, hr⟩
  · exact .inl h2
  · exact .inr ⟨g', cap, cur, hv, by omega, hr⟩

/-! ### Blocks from B up to D are written. -/
structure OnlyBD (B D : Nat) (w w' : World) : Prop where
  os : w'.os = w.os
  tape : w'.tape = w.tape
  output : w'.output = w.output
  size : w.heap.size ≤ w'.heap.size
  block : ∀ k, k < w.heap.size → ¬ (B ≤ k ∧ k < D) → w'.heap[k]? = w.heap[k]?
section
variable {B D : Nat} {w w1 w2 : World}
theorem OnlyBD.refl (B D : Nat) (w : World) : OnlyBD B D w w := ⟨rfl, rfl, rfl, Nat.le_refl _, fun _ _ _ => rfl⟩
theorem OnlyBD.trans (h : OnlyBD B D w w1) (k : OnlyBD B D w1 w2) : OnlyBD B D w w2 :=
  ⟨k.os.trans h.os, k.tape.trans h.tape, k.output.trans h.output, Nat.le_trans h.size k.size, fun i hi hc => (k.block i (Nat.lt_of_lt_of_le hi h.size) hc).trans (h.block i hi hc)⟩
theorem OnlyBD.of_but {R : Nat} (h : But R w w1) (hR : (B ≤ R ∧ R < D) ∨ w.heap.size ≤ R) : OnlyBD B D w w1 :=
  ⟨h.os, h.tape, h.output, h.size, fun k hk hc => h.block k hk (fun e => by injection e with e; omega)⟩
theorem OnlyBD.of_below (h : Below w.heap.size w w1) : OnlyBD B D w w1 := ⟨h.os, h.tape, h.output, h.size, fun k hk _ => h.block k hk⟩
theorem OnlyBD.of_only {S : Nat → Prop} (h : Only S w w1) (hs : ∀ k, S k → k < w.heap.size → B ≤ k ∧ k < D) : OnlyBD B D w w1 := ⟨h.os, h.tape, h.output, h.size, fun k hk hc => h.block k hk fun e => hc (hs k e hk)⟩
theorem OnlyBD.below (h : OnlyBD B D w w1) (hB : B ≤ w.heap.size) : Below B w w1 := ⟨h.os, h.tape, h.output, h.size, fun k hk => h.block k (by omega) (by omega)⟩
theorem OnlyBD.row {C n sz : Nat} {e : TypeId} {v : Value} {xs : List Value} (h : OnlyBD B D w w1) (hr : w.ownsRow C e sz v n xs) (hD : D ≤ C) : w1.ownsRow C e sz v n xs :=
  row_same hr fun g hg => h.block g (World.ownsRow.lt hr g hg).2 (by have := (World.ownsRow.lt hr g hg).1; omega)
/-- Blocks from B on stay. -/
def Keeps (B : Nat) (w w' : World) : Prop := w.heap.size ≤ w'.heap.size ∧ ∀ k, B ≤ k → k < w.heap.size → w'.heap[k]? = w.heap[k]?
theorem Keeps.of_below (h : Below w.heap.size w w1) (B : Nat) : Keeps B w w1 := ⟨h.size, fun k _ hk => h.block k hk⟩
theorem Keeps.of_only {C : Nat} (h : OnlyBD B D w w1) (hD : D ≤ C) : Keeps C w w1 := ⟨h.size, fun k h1 h2 => h.block k h2 (by omega)⟩
theorem Keeps.trans (h : Keeps B w w1) (k : Keeps B w1 w2) : Keeps B w w2 := ⟨Nat.le_trans h.1 k.1, fun i h1 h2 => (k.2 i h1 (Nat.lt_of_lt_of_le h2 h.1)).trans (h.2 i h1 h2)⟩
theorem Keeps.row {n sz : Nat} {e : TypeId} {v : Value} {xs : List Value} (h : Keeps B w w1) (hr : w.ownsRow B e sz v n xs) : w1.ownsRow B e sz v n xs :=
  row_same hr fun g hg => h.2 g (World.ownsRow.lt hr g hg).1 (World.ownsRow.lt hr g hg).2
theorem OwnI.only {C : Nat} {v : Value} {zs : List Int} (h : OwnI w C v zs) (k : OnlyBD B D w w1) (hD : D ≤ C) : OwnI w1 C v zs := k.row h hD
theorem Blk1.only {g : Nat} {t : TypeId} {v : Value} (h : Blk1 w g t v) (k : OnlyBD B D w w1) (hg : ¬ (B ≤ g ∧ g < D)) : Blk1 w1 g t v := (k.block g h.lt hg).trans h
theorem Blk2s.only {g : Nat} {t : TypeId} {v u : Value} (h : Blk2s w g t v u) (k : OnlyBD B D w w1) (hg : ¬ (B ≤ g ∧ g < D)) : Blk2s w1 g t v u := (k.block g h.lt hg).trans h
end
end Go.Proofs.YteaibflloeipaaaGreatDoor
namespace Go.Proofs.YteaibflloeipaaaGreatDoor
open Go.RowKit Wo Pu Rf Co

def ColV (col : Nat → Nat) (c : Nat) (v : Value) : Prop := ∀ g, v.ownBlock = some g → col g = c
def Ap2P (v u : Value) : Prop := ∀ g, v.ownBlock = some g → u.ownBlock ≠ some g
theorem Ap2P.symm {v u : Value} (h : Ap2P v u) : Ap2P u v := fun g h1 h2 => h g h2 h1
/-- Among the cells xs the j-th part is p; its updates are of the call's own. -/
def PtIs (w : World) (B : Nat) (xs : List Value) (j : Nat) (p : Part) : Prop :=
  ∃ (A : Option Addr) (c : Nat), xs[j * 2]? = some (.int .i64 p.s) ∧ xs[j * 2 + 1]? = some (.slice A p.us.length c) ∧ p.us.length ≤ c ∧ OwnUps w B (.slice A p.us.length c) p.us
/-- The updates of the first n parts lie apart. -/
def AptP (xs : List Value) (n : Nat) : Prop := ∀ i j v u, i < n → j < n → i ≠ j → xs[i * 2 + 1]? = some v → xs[j * 2 + 1]? = some u → Ap2P v u
def ColP (col : Nat → Nat) (c : Nat) (xs : List Value) (n : Nat) : Prop := ∀ i v, i < n → xs[i * 2 + 1]? = some v → ColV col c v
/-- Parts of the call's own that lie apart, all of it in blocks of the colour c. -/
def OwnPs (col : Nat → Nat) (c : Nat) (w : World) (B : Nat) (v : Value) (ps : List Part) : Prop :=
  ∃ xs, w.ownsRow B 40 2 v ps.length xs ∧ (∀ j (hj : j < ps.length), PtIs w B xs j ps[j]) ∧ AptP xs ps.length ∧ ColP col c xs ps.length ∧ ColV col c v
/-- The slices a and b are a transaction's parts and votes. -/
def TxOf (col : Nat → Nat) (c : Nat) (w : World) (B : Nat) (a b : Value) (t : Tx) : Prop := OwnPs col c w B a t.ps ∧ OwnI w B b t.vs ∧ ColV col c b
/-- Among the cells xs the j-th transaction is t. -/
def TxIs (col : Nat → Nat) (c : Nat) (w : World) (B : Nat) (xs : List Value) (j : Nat) (t : Tx) : Prop :=
  ∃ a b, xs[j * 3]? = some a ∧ xs[j * 3 + 1]? = some b ∧ xs[j * 3 + 2]? = some (.int .i64 t.d) ∧ TxOf col c w B a b t
/-- Transactions that lie apart: the list in blocks of the colour 1, the j-th in those of the colour j + 2. -/
def OwnTxs (col : Nat → Nat) (w : World) (B : Nat) (v : Value) (ts : List Tx) : Prop :=
  ∃ xs, w.ownsRow B 33 3 v ts.length xs ∧ (∀ j (hj : j < ts.length), TxIs col (j + 2) w B xs j ts[j]) ∧ ColV col 1 v
/-- A coordinator that lies apart: its order in blocks of the colour 0. -/
def OwnCr (col : Nat → Nat) (w : World) (B : Nat) (v : Value) (k : Crd) : Prop := ∃ a b, v = .agg #[a, b] ∧ OwnTxs col w B a k.ts ∧ OwnI w B b k.os ∧ ColV col 0 b

/-! ### What stays. -/
def Ty4 (e : TypeId) : Prop := e = 40 ∨ e = 164 ∨ e = 3
def Ty2 (e : TypeId) : Prop := e = 40 ∨ e = 164
theorem Ty2.four {e : TypeId} (h : Ty2 e) : Ty4 e := by
  rcases h with h | h
  · exact .inl h
  · exact .inr (.inl h)
section
variable {col col' : Nat → Nat} {c c' : Nat} {w w' : World} {B B' : Nat} {v a b : Value} {ps : List Part} {t : Tx} {ts : List Tx} {k : Crd}
theorem OwnPs.map (h : OwnPs col c w B v ps) (k : ∀ e sz n u ys, Ty2 e → w.ownsRow B e sz u n ys → ColV col c u → w'.ownsRow B' e sz u n ys ∧ ColV col' c' u) : OwnPs col' c' w' B' v ps := by
  obtain ⟨xs, h1, h2, h3, h4, h5⟩ := h
  refine ⟨xs, (k _ _ _ _ _ (.inl rfl) h1 h5).1, fun j hj => ?_, h3, fun i u hi hu => ?_, (k _ _ _ _ _ (.inl rfl) h1 h5).2⟩
  · obtain ⟨A, cc, q0, q1, q2, q3⟩ := h2 j hj
    exact ⟨A, cc, q0, q1, q2, (k _ _ _ _ _ (.inr rfl) q3 (h4 j _ hj q1)).1⟩
  · obtain ⟨A, cc, q0, q1, q2, q3⟩ := h2 i hi
    have e : u = .slice A ps[i].us.length cc := by rw [q1] at hu; injection hu with hu; exact hu.symm
    subst e
    exact (k _ _ _ _ _ (.inr rfl) q3 (h4 i _ hi q1)).2
theorem TxOf.map (h : TxOf col c w B a b t) (k : ∀ e sz n u ys, Ty4 e → w.ownsRow B e sz u n ys → ColV col c u → w'.ownsRow B' e sz u n ys ∧ ColV col' c' u) : TxOf col' c' w' B' a b t := by
  obtain ⟨h1, h2, h3⟩ := h
  exact ⟨h1.map fun e sz n u ys he => k e sz n u ys he.four, (k _ _ _ _ _ (.inr (.inr rfl)) h2 h3).1, (k _ _ _ _ _ (.inr (.inr rfl)) h2 h3).2⟩
theorem OwnTxs.map (h : OwnTxs col w B v ts) (k : ∀ e sz n u ys c, Ty4 e → w.ownsRow B e sz u n ys → ColV col c u → w'.ownsRow B' e sz u n ys ∧ ColV col' c u)
    (k2 : ∀ sz n u ys, w.ownsRow B 33 sz u n ys → ColV col 1 u → w'.ownsRow B' 33 sz u n ys ∧ ColV col' 1 u) : OwnTxs col' w' B' v ts := by
  obtain ⟨xs, h1, h2, h3⟩ := h
  obtain ⟨q1, q2⟩ := k2 _ _ _ _ h1 h3
  refine ⟨xs, q1, fun j hj => ?_, q2⟩
  obtain ⟨a, b, r0, r1, r2, r3⟩ := h2 j hj
  exact ⟨a, b, r0, r1, r2, r3.map fun e sz n u ys he hr hc => k e sz n u ys _ he hr hc⟩
theorem OwnCr.map (h : OwnCr col w B v k) (K : ∀ e sz n u ys c, Ty4 e → w.ownsRow B e sz u n ys → ColV col c u → w'.ownsRow B' e sz u n ys ∧ ColV col' c u)
    (k2 : ∀ sz n u ys, w.ownsRow B 33 sz u n ys → ColV col 1 u → w'.ownsRow B' 33 sz u n ys ∧ ColV col' 1 u) : OwnCr col' w' B' v k := by
  obtain ⟨a, b, e, h1, h2, h3⟩ := h
  exact ⟨a, b, e, h1.map K k2, (K _ _ _ _ _ _ (.inr (.inr rfl)) h2 h3).1, (K _ _ _ _ _ _ (.inr (.inr rfl)) h2 h3).2⟩
theorem OwnPs.below (h : OwnPs col c w B v ps) (hb : Below w.heap.size w w') : OwnPs col c w' B v ps := h.map fun _ _ _ _ _ _ hr hc => ⟨own_below hr hb (Nat.le_refl _), hc⟩
theorem TxOf.below (h : TxOf col c w B a b t) (hb : Below w.heap.size w w') : TxOf col c w' B a b t := h.map fun _ _ _ _ _ _ hr hc => ⟨own_below hr hb (Nat.le_refl _), hc⟩
theorem OwnTxs.below (h : OwnTxs col w B v ts) (hb : Below w.heap.size w w') : OwnTxs col w' B v ts := h.map (fun _ _ _ _ _ _ _ hr hc => ⟨own_below hr hb (Nat.le_refl _), hc⟩) fun _ _ _ _ hr hc => ⟨own_below hr hb (Nat.le_refl _), hc⟩
theorem OwnCr.below (h : OwnCr col w B v k) (hb : Below w.heap.size w w') : OwnCr col w' B v k := h.map (fun _ _ _ _ _ _ _ hr hc => ⟨own_below hr hb (Nat.le_refl _), hc⟩) fun _ _ _ _ hr hc => ⟨own_below hr hb (Nat.le_refl _), hc⟩
theorem OwnPs.base (h : OwnPs col c w B v ps) (hB : B' ≤ B) : OwnPs col c w B' v ps := h.map fun _ _ _ _ _ _ hr hc => ⟨rowB_base hr hB, hc⟩
theorem TxOf.base (h : TxOf col c w B a b t) (hB : B' ≤ B) : TxOf col c w B' a b t := h.map fun _ _ _ _ _ _ hr hc => ⟨rowB_base hr hB, hc⟩
theorem OwnTxs.base (h : OwnTxs col w B v ts) (hB : B' ≤ B) : OwnTxs col w B' v ts := h.map (fun _ _ _ _ _ _ _ hr hc => ⟨rowB_base hr hB, hc⟩) fun _ _ _ _ hr hc => ⟨rowB_base hr hB, hc⟩
theorem OwnCr.base (h : OwnCr col w B v k) (hB : B' ≤ B) : OwnCr col w B' v k := h.map (fun _ _ _ _ _ _ _ hr hc => ⟨rowB_base hr hB, hc⟩) fun _ _ _ _ hr hc => ⟨rowB_base hr hB, hc⟩
theorem OwnCr.keep (h : OwnCr col w B v k) (hk : Keeps B w w') : OwnCr col w' B v k := h.map (fun _ _ _ _ _ _ _ hr hc => ⟨hk.row hr, hc⟩) fun _ _ _ _ hr hc => ⟨hk.row hr, hc⟩
theorem OwnPs.keep (h : OwnPs col c w B v ps) (hk : Keeps B w w') : OwnPs col c w' B v ps := h.map fun _ _ _ _ _ _ hr hc => ⟨hk.row hr, hc⟩
theorem own_but {w w' : World} {R B n sz : Nat} {e : TypeId} {v : Value} {xs : List Value} (h : w.ownsRow B e sz v n xs) (hb : But R w w') (hR : R < B) : w'.ownsRow B e sz v n xs := by
  refine World.ownsRow.kept h hb ?_
  rcases hv : v.ownBlock with _ | k
  · exact .inl rfl
  · refine .inr (fun e => ?_)
    have := (World.ownsRow.lt h k hv).1
    injection e with e
    omega
theorem OwnPs.but {R : Nat} (h : OwnPs col c w B v ps) (hb : But R w w') (hR : R < B) : OwnPs col c w' B v ps := h.map fun _ _ _ _ _ _ hr hc => ⟨own_but hr hb hR, hc⟩
theorem OwnTxs.but {R : Nat} (h : OwnTxs col w B v ts) (hb : But R w w') (hR : R < B) : OwnTxs col w' B v ts := h.map (fun _ _ _ _ _ _ _ hr hc => ⟨own_but hr hb hR, hc⟩) fun _ _ _ _ hr hc => ⟨own_but hr hb hR, hc⟩
theorem OwnCr.but {R : Nat} (h : OwnCr col w B v k) (hb : But R w w') (hR : R < B) : OwnCr col w' B v k := h.map (fun _ _ _ _ _ _ _ hr hc => ⟨own_but hr hb hR, hc⟩) fun _ _ _ _ hr hc => ⟨own_but hr hb hR, hc⟩
theorem ty4_ne {e T : TypeId} (h : Ty4 e) (t1 : 40 ≠ T) (t2 : 164 ≠ T) (t3 : 3 ≠ T) : e ≠ T := by
  rcases h with rfl | rfl | rfl
  · exact t1
  · exact t2
  · exact t3
theorem OwnPs.keptT {T : TypeId} {row : Option Nat} (h : OwnPs col c w B v ps) (t1 : 40 ≠ T) (t2 : 164 ≠ T) (t3 : 3 ≠ T) (hg : w.grownBy w' row) (hr : ∀ g, row = some g → ∃ cur fr, w.heap[g]? = some (.cells cur T fr)) : OwnPs col c w' B v ps :=
  h.map fun _ _ _ _ _ he hw hc => ⟨row_far_type hw (ty4_ne he.four t1 t2 t3) hg hr, hc⟩
/-- A row of numbers grows. -/
theorem OwnPs.keptI {row : Option Nat} (h : OwnPs col c w B v ps) (hg : w.grownBy w' row) (hr : ∀ g, row = some g → ∃ cur fr, w.heap[g]? = some (.cells cur 3 fr)) : OwnPs col c w' B v ps :=
  h.map fun e _ _ _ _ he hw hc => ⟨row_far_type hw (by rcases he with rfl | rfl <;> decide) hg hr, hc⟩
theorem TxOf.keptT {T : TypeId} {row : Option Nat} (h : TxOf col c w B a b t) (t1 : 40 ≠ T) (t2 : 164 ≠ T) (t3 : 3 ≠ T) (hg : w.grownBy w' row) (hr : ∀ g, row = some g → ∃ cur fr, w.heap[g]? = some (.cells cur T fr)) : TxOf col c w' B a b t :=
  h.map fun _ _ _ _ _ he hw hc => ⟨row_far_type hw (ty4_ne he t1 t2 t3) hg hr, hc⟩
theorem OwnTxs.keptT {T : TypeId} {row : Option Nat} (h : OwnTxs col w B v ts) (t0 : 33 ≠ T) (t1 : 40 ≠ T) (t2 : 164 ≠ T) (t3 : 3 ≠ T) (hg : w.grownBy w' row) (hr : ∀ g, row = some g → ∃ cur fr, w.heap[g]? = some (.cells cur T fr)) : OwnTxs col w' B v ts :=
  h.map (fun _ _ _ _ _ _ he hw hc => ⟨row_far_type hw (ty4_ne he t1 t2 t3) hg hr, hc⟩) fun _ _ _ _ hw hc => ⟨row_far_type hw t0 hg hr, hc⟩
theorem OwnCr.keptT {T : TypeId} {row : Option Nat} (h : OwnCr col w B v k) (t0 : 33 ≠ T) (t1 : 40 ≠ T) (t2 : 164 ≠ T) (t3 : 3 ≠ T) (hg : w.grownBy w' row) (hr : ∀ g, row = some g → ∃ cur fr, w.heap[g]? = some (.cells cur T fr)) : OwnCr col w' B v k :=
  h.map (fun _ _ _ _ _ _ he hw hc => ⟨row_far_type hw (ty4_ne he t1 t2 t3) hg hr, hc⟩) fun _ _ _ _ hw hc => ⟨row_far_type hw t0 hg hr, hc⟩
/-- Other colours are written. -/
theorem TxOf.other {S : Nat → Prop} (h : TxOf col c w B a b t) (ho : Only S w w') (hn : ∀ k, col k = c → ¬ S k) : TxOf col c w' B a b t :=
  h.map fun _ _ _ _ _ _ hw hc => ⟨row_same hw fun g hg => ho.block g (World.ownsRow.lt hw g hg).2 (hn g (hc g hg)), hc⟩
theorem OwnPs.other {S : Nat → Prop} (h : OwnPs col c w B v ps) (ho : Only S w w') (hn : ∀ k, col k = c → ¬ S k) : OwnPs col c w' B v ps :=
  h.map fun _ _ _ _ _ _ hw hc => ⟨row_same hw fun g hg => ho.block g (World.ownsRow.lt hw g hg).2 (hn g (hc g hg)), hc⟩
theorem OwnTxs.other {S : Nat → Prop} (h : OwnTxs col w B v ts) (ho : Only S w w') (hn : ∀ k, 1 ≤ col k → ¬ S k) : OwnTxs col w' B v ts := by
  obtain ⟨xs, h1, h2, h3⟩ := h
  refine ⟨xs, row_same h1 fun g hg => ho.block g (World.ownsRow.lt h1 g hg).2 (hn g (by rw [h3 g hg]; omega)), fun j hj => ?_, h3⟩
  obtain ⟨a, b, r0, r1, r2, r3⟩ := h2 j hj
  exact ⟨a, b, r0, r1, r2, r3.other ho fun k hk => hn k (by omega)⟩

/-! ### As they are read. -/
theorem OwnPs.form (h : OwnPs col c w B v ps) : ∃ (A : Option Addr) (cc : Nat), v = .slice A ps.length cc ∧ Parts w w.heap.size A ps ∧ ps.length ≤ cc := by
  obtain ⟨xs, h1, h2, -⟩ := h
  have h1' := h1
  obtain ⟨hl, h1⟩ := h1
  rcases h1 with ⟨rfl, h0⟩ | ⟨g, cap, cur, rfl, hB, hh, hn, hm, hcs, htk⟩
  · exact ⟨none, 0, by rw [h0], .inl (List.eq_nil_of_length_eq_zero h0), by omega⟩
  · refine ⟨some ⟨g, 0, none⟩, cap, rfl, .inr ⟨_, rfl, (World.ownsRow.lt h1' g rfl).2, fun i hi => ?_⟩, hn⟩
    obtain ⟨A, c, q0, q1, q2, q3⟩ := h2 i hi
    have hc := World.ownsRow.cells h1' (g := g) rfl
    obtain ⟨A3, c3, e3, h3, _⟩ := q3.form
    injection e3 with e3 _ _
    subst e3
    exact ⟨A, c, hc _ _ q0, by rw [add_add]; exact hc _ _ q1, q2, h3⟩
theorem TxOf.form (h : TxOf col c w B a b t) : ∃ (A : Option Addr) (c1 : Nat) (A2 : Option Addr) (c2 : Nat), a = .slice A t.ps.length c1 ∧ b = .slice A2 t.vs.length c2 ∧ t.ps.length ≤ c1 ∧ t.vs.length ≤ c2 ∧ Parts w w.heap.size A t.ps ∧ Row w w.heap.size A2 (ints t.vs) := by
  obtain ⟨A, c1, e1, h1, h2⟩ := h.1.form
  obtain ⟨A2, c2, e2, h3, h4⟩ := h.2.1.form
  exact ⟨A, c1, A2, c2, e1, e2, h2, h4, h1, h3⟩
theorem OwnTxs.form (h : OwnTxs col w B v ts) : ∃ (A : Option Addr) (cc : Nat), v = .slice A ts.length cc ∧ Txs w w.heap.size A ts ∧ ts.length ≤ cc := by
  obtain ⟨xs, h1, h2, -⟩ := h
  have h1' := h1
  obtain ⟨hl, h1⟩ := h1
  rcases h1 with ⟨rfl, h0⟩ | ⟨g, cap, cur, rfl, hB, hh, hn, hm, hcs, htk⟩
  · exact ⟨none, 0, by rw [h0], .inl (List.eq_nil_of_length_eq_zero h0), by omega⟩
  · refine ⟨some ⟨g, 0, none⟩, cap, rfl, .inr ⟨_, rfl, (World.ownsRow.lt h1' g rfl).2, fun i hi => ?_⟩, hn⟩
    obtain ⟨a, b, q0, q1, q2, q3⟩ := h2 i hi
    have hc := World.ownsRow.cells h1' (g := g) rfl
    obtain ⟨A, c1, A2, c2, rfl, rfl, r3, r4, r5, r6⟩ := q3.form
    exact ⟨A, c1, A2, c2, hc _ _ q0, by rw [add_add]; exact hc _ _ q1, by rw [add_add]; exact hc _ _ q2, r3, r4, r5, r6⟩
theorem OwnCr.form (h : OwnCr col w B v k) : ∃ (A : Option Addr) (c1 : Nat) (A2 : Option Addr) (c2 : Nat), v = crV A k.ts.length c1 A2 k.os.length c2 ∧ Txs w w.heap.size A k.ts ∧ k.ts.length ≤ c1 ∧ Row w w.heap.size A2 (ints k.os) ∧ k.os.length ≤ c2 ∧ OwnTxs col w B (.slice A k.ts.length c1) k.ts ∧ OwnI w B (.slice A2 k.os.length c2) k.os ∧ ColV col 0 (.slice A2 k.os.length c2) := by
  obtain ⟨a, b, rfl, h1, h2, h3⟩ := h
  obtain ⟨A, c1, rfl, q1, q2⟩ := h1.form
  obtain ⟨A2, c2, rfl, q3, q4⟩ := h2.form
  exact ⟨A, c1, A2, c2, rfl, q1, q2, q3, q4, h1, h2, h3⟩
theorem OwnCr.crd (h : OwnCr col w B v k) : Crdd w w.heap.size v k := by
  obtain ⟨A, c1, A2, c2, e, h1, h2, h3, h4, -⟩ := h.form
  exact ⟨A, c1, A2, c2, e, h1, h2, h3, h4⟩
end

/-! ### Lists that grow. -/
theorem OwnPs.nil_new {w : World} {B : Nat} (hB : B ≤ w.heap.size) : OwnPs (fun _ => 0) 0 (w.alloc (.cells #[] 40)) B (.slice (some ⟨w.heap.size, 0, none⟩) 0 0) [] :=
  ⟨[], nil_own hB _ _, (fun j hj => by simp at hj), (fun i _ _ _ hi => absurd hi (by simp)), (fun _ _ _ _ _ _ => rfl), fun _ _ => rfl⟩
theorem OwnTxs.nil_new {w : World} {B : Nat} (hB : B ≤ w.heap.size) : OwnTxs (fun _ => 1) (w.alloc (.cells #[] 33)) B (.slice (some ⟨w.heap.size, 0, none⟩) 0 0) [] :=
  ⟨[], nil_own hB _ _, (fun j hj => by simp at hj), fun _ _ => rfl⟩
theorem OwnTxs.nil_none (w : World) (B : Nat) : OwnTxs (fun _ => 1) w B (.slice none 0 0) [] := ⟨[], ⟨rfl, .inl ⟨rfl, rfl⟩⟩, (fun j hj => by simp at hj), fun _ _ => rfl⟩
theorem OwnCr.none_ (w : World) (B : Nat) : OwnCr (fun _ => 1) w B (.agg #[.slice none 0 0, .slice none 0 0]) none_ := ⟨_, _, rfl, OwnTxs.nil_none w B, ⟨rfl, .inl ⟨rfl, rfl⟩⟩, fun g hg => by cases hg⟩
/-- One part more, whose updates are new. -/
theorem OwnPs.more_ {w3 w4 : World} {B c : Nat} {A : Option Addr} {v : Value} {ps : List Part} {p : Part} (h : OwnPs (fun _ => 0) 0 w3 B v ps) (d : ∀ {e : TypeId} {sz n : Nat} {u : Value} {ys : List Value}, w3.ownsRow B e sz u n ys → w4.ownsRow B e sz u n ys) (hB : B ≤ w3.heap.size) (hu : OwnUps w4 w3.heap.size (.slice A p.us.length c) p.us) (hc : p.us.length ≤ c) :
    ∃ ys, w4.ownsRow B 40 2 v ps.length ys ∧ ∀ v' w1, w1.ownsRow B 40 2 v' (ps.length + 1) (ys ++ [.int .i64 p.s, .slice A p.us.length c]) →
      (w4.alloc (.cells #[.int .i64 p.s, .slice A p.us.length c] 40)).grownBy w1 v.ownBlock → OwnPs (fun _ => 0) 0 w1 B v' (ps ++ [p]) := by
  obtain ⟨ys, h1, h2, h3, h4, h5⟩ := h
  have hrow := d h1
  refine ⟨ys, hrow, fun v' w1 hown hg => ?_⟩
  have hlen : ys.length = ps.length * 2 := hrow.1
  have al := (Below.refl w4.heap.size w4).alloc (Nat.le_refl _) (.cells #[.int .i64 p.s, .slice A p.us.length c] 40)
  have keep : ∀ {u : Value} {us : List Up}, OwnUps w4 B u us → OwnUps w1 B u us := fun {u us} h => row_far_type (h.below al) (by decide) hg fun g e => row_typed (World.ownsRow.alloc hrow _) g e
  have at1 : ∀ j, j < ps.length → (ys ++ [Value.int .i64 p.s, .slice A p.us.length c])[j * 2 + 1]? = ys[j * 2 + 1]? := fun j hj => List.getElem?_append_left (by omega)
  have atn : (ys ++ [Value.int .i64 p.s, .slice A p.us.length c])[ps.length * 2 + 1]? = some (.slice A p.us.length c) := by
    rw [List.getElem?_append_right (by omega), hlen, show ps.length * 2 + 1 - ps.length * 2 = 1 from by omega]; rfl
  refine ⟨_, by simpa using hown, fun j hj => ?_, fun i j a b hi hj hij ha hb => ?_, fun _ _ _ _ _ _ => rfl, fun _ _ => rfl⟩
  · by_cases e : j < ps.length
    · obtain ⟨A', c', q0, q1, q2, q3⟩ := h2 j e
      rw [List.getElem_append_left e]
      exact ⟨A', c', by rw [List.getElem?_append_left (by omega)]; exact q0, by rw [at1 j e]; exact q1, q2, keep (d q3)⟩
    · have ej : j = ps.length := by simp at hj; omega
      subst ej
      have eo : (ps ++ [p])[ps.length]'(by simp) = p := by simp
      rw [eo]
      refine ⟨A, c, ?_, atn, hc, keep (hu.base hB)⟩
      rw [List.getElem?_append_right (by omega), hlen]
      simp
  · simp only [List.length_append, List.length_cons, List.length_nil] at hi hj
    have low : ∀ k x, k < ps.length → ys[k * 2 + 1]? = some x → Ap2P x (.slice A p.us.length c) := fun k x hk hx g g1 g2 => by
      obtain ⟨A', c', q0, q1, q2, q3⟩ := h2 k hk
      rw [q1] at hx
      injection hx with hx
      subst hx
      have := (World.ownsRow.lt q3 g g1).2
      have := hu.lt g g2
      omega
    by_cases i1 : i < ps.length
    · rw [at1 i i1] at ha
      by_cases j1 : j < ps.length
      · rw [at1 j j1] at hb
        exact h3 i j a b i1 j1 hij ha hb
      · have ej : j = ps.length := by omega
        subst ej
        rw [atn] at hb
        injection hb with hb
        subst hb
        exact low i a i1 ha
    · have ei : i = ps.length := by omega
      subst ei
      rw [atn] at ha
      injection ha with ha
      subst ha
      have j1 : j < ps.length := by omega
      rw [at1 j j1] at hb
      exact (low j b j1 hb).symm
theorem OwnPs.more {w3 w4 : World} {B c : Nat} {A : Option Addr} {v : Value} {ps : List Part} {p : Part} (h : OwnPs (fun _ => 0) 0 w3 B v ps) (d : Below w3.heap.size w3 w4) (hB : B ≤ w3.heap.size) (hu : OwnUps w4 w3.heap.size (.slice A p.us.length c) p.us) (hc : p.us.length ≤ c) :
    ∃ ys, w4.ownsRow B 40 2 v ps.length ys ∧ ∀ v' w1, w1.ownsRow B 40 2 v' (ps.length + 1) (ys ++ [.int .i64 p.s, .slice A p.us.length c]) →
      (w4.alloc (.cells #[.int .i64 p.s, .slice A p.us.length c] 40)).grownBy w1 v.ownBlock → OwnPs (fun _ => 0) 0 w1 B v' (ps ++ [p]) := h.more_ (fun hr => own_below hr d (Nat.le_refl _)) hB hu hc
/-- All blocks of transactions are of the colour 1. -/
def paint (w : World) (col : Nat → Nat) : Nat → Nat := fun g =>
  match w.heap[g]? with
  | some (.cells _ t _) => if t = 33 then 1 else col g
  | _ => col g
theorem paint_else {w : World} {col : Nat → Nat} {B sz n : Nat} {e : TypeId} {v : Value} {xs : List Value} (h : w.ownsRow B e sz v n xs) (he : e ≠ 33) : ∀ g, v.ownBlock = some g → paint w col g = col g := fun g hg => by
  rcases h.2 with ⟨rfl, _⟩ | ⟨g', cap, cur, rfl, _, hh, _⟩
  · cases hg
  · have hk : g' = g := by simpa [Value.ownBlock] using hg
    subst hk
    unfold paint
    rw [hh]
    simp [he]
theorem paint_tx {w : World} {col : Nat → Nat} {B sz n : Nat} {v : Value} {xs : List Value} (h : w.ownsRow B 33 sz v n xs) : ColV (paint w col) 1 v := fun g hg => by
  rcases h.2 with ⟨rfl, _⟩ | ⟨g', cap, cur, rfl, _, hh, _⟩
  · cases hg
  · have hk : g' = g := by simpa [Value.ownBlock] using hg
    subst hk
    unfold paint
    rw [hh]
    simp
theorem paint_col {w : World} {col : Nat → Nat} {B sz n c : Nat} {e : TypeId} {v : Value} {xs : List Value} (h : w.ownsRow B e sz v n xs) (he : Ty4 e) (hc : ColV col c v) : ColV (paint w col) c v := fun g hg => by
  rw [paint_else h (ty4_ne he (by decide) (by decide) (by decide)) g hg]
  exact hc g hg
/-- What is new gets the colour n. -/
def tint (w : World) (col : Nat → Nat) (n : Nat) : Nat → Nat := fun g => if g < w.heap.size then col g else n
theorem tint_old {w : World} {col : Nat → Nat} {B sz n c m : Nat} {e : TypeId} {v : Value} {xs : List Value} (h : w.ownsRow B e sz v n xs) (hc : ColV col c v) : ColV (tint w col m) c v := fun g hg => by
  unfold tint
  rw [if_pos (World.ownsRow.lt h g hg).2]
  exact hc g hg
theorem tint_new {w w' : World} {col : Nat → Nat} {sz n m : Nat} {e : TypeId} {v : Value} {xs : List Value} (h : w'.ownsRow w.heap.size e sz v n xs) : ColV (tint w col m) m v := fun g hg => by
  unfold tint
  rw [if_neg (by have := (World.ownsRow.lt h g hg).1; omega)]
/-- What a call has made, in a colour of its own. -/
theorem TxOf.tint {w w2 : World} {col : Nat → Nat} {n : Nat} {a b : Value} {t : Tx} (h : TxOf (fun _ => 0) 0 w2 w.heap.size a b t) : TxOf (tint w col n) n w2 w.heap.size a b t :=
  h.map fun _ _ _ _ _ _ hr _ => ⟨hr, tint_new hr⟩
/-- One transaction more, whose lists are new. -/
theorem OwnTxs.more {col : Nat → Nat} {w3 w4 : World} {B : Nat} {a b v : Value} {ts : List Tx} {t : Tx} (h : OwnTxs col w3 B v ts) (d : Below w3.heap.size w3 w4) (hB : B ≤ w3.heap.size) (hx : TxOf (fun _ => 0) 0 w4 w3.heap.size a b t) :
    ∃ ys, w4.ownsRow B 33 3 v ts.length ys ∧ ∀ v' w1, w1.ownsRow B 33 3 v' (ts.length + 1) (ys ++ [a, b, .int .i64 t.d]) →
      (w4.alloc (.cells #[a, b, .int .i64 t.d] 33)).grownBy w1 v.ownBlock → OwnTxs (paint w1 (tint w3 col (ts.length + 2))) w1 B v' (ts ++ [t]) := by
  obtain ⟨ys, h1, h2, h3⟩ := h
  have hrow := own_below h1 d (Nat.le_refl _)
  refine ⟨ys, hrow, fun v' w1 hown hg => ?_⟩
  have hlen : ys.length = ts.length * 3 := hrow.1
  have al := (Below.refl w4.heap.size w4).alloc (Nat.le_refl _) (.cells #[a, b, .int .i64 t.d] 33)
  have keep : ∀ {e : TypeId} {sz n : Nat} {u : Value} {ys : List Value}, Ty4 e → w4.ownsRow B e sz u n ys → w1.ownsRow B e sz u n ys := fun he h => row_far_type (own_below h al (Nat.le_refl _)) (ty4_ne he (by decide) (by decide) (by decide)) hg fun g e => row_typed (World.ownsRow.alloc hrow _) g e
  refine ⟨_, by simpa using hown, fun j hj => ?_, paint_tx hown⟩
  by_cases e : j < ts.length
  · obtain ⟨a', b', q0, q1, q2, q3⟩ := h2 j e
    rw [List.getElem_append_left e]
    refine ⟨a', b', by rw [List.getElem?_append_left (by omega)]; exact q0, by rw [List.getElem?_append_left (by omega)]; exact q1, by rw [List.getElem?_append_left (by omega)]; exact q2, q3.map fun e sz n u ys he hr hc => ?_⟩
    have hr1 := keep he (own_below hr d (Nat.le_refl _))
    exact ⟨hr1, paint_col hr1 he (tint_old hr hc)⟩
  · have ej : j = ts.length := by simp at hj; omega
    subst ej
    have eo : (ts ++ [t])[ts.length]'(by simp) = t := by simp
    rw [eo]
    refine ⟨a, b, ?_, ?_, ?_, hx.map fun e sz n u ys he hr hc => ?_⟩
    · rw [List.getElem?_append_right (by omega), hlen]; simp
    · rw [List.getElem?_append_right (by omega), hlen, show ts.length * 3 + 1 - ts.length * 3 = 1 from by omega]; rfl
    · rw [List.getElem?_append_right (by omega), hlen, show ts.length * 3 + 2 - ts.length * 3 = 2 from by omega]; rfl
    · have hr1 := keep he (rowB_base hr hB)
      exact ⟨hr1, paint_col hr1 he (tint_new hr)⟩

/-! ### Cells that are stored into. -/
theorem OwnTxs.at {col : Nat → Nat} {w : World} {B n : Nat} {v : Value} {ts : List Tx} (h : OwnTxs col w B v ts) (hn : n < ts.length) : ∃ g c, v = .slice (some ⟨g, 0, none⟩) ts.length c ∧ B ≤ g ∧ g < w.heap.size := by
  obtain ⟨xs, h1, -⟩ := h
  exact World.ownsRow.form h1 (by omega)
/-- The decision of transaction n. -/
theorem OwnTxs.dec {col : Nat → Nat} {w : World} {B g c n : Nat} {ts : List Tx} (h : OwnTxs col w B (.slice (some ⟨g, 0, none⟩) ts.length c) ts) (hn : n < ts.length) (x : Int) :
    w.cell? ⟨g, n * 3 + 2, none⟩ = some (.int .i64 ts[n].d) ∧ w.frozen? ⟨g, n * 3 + 2, none⟩ = false ∧ OwnTxs col (w.setCell ⟨g, n * 3 + 2, none⟩ (.int .i64 x)) B (.slice (some ⟨g, 0, none⟩) ts.length c) (ts.set n ⟨ts[n].ps, ts[n].vs, x⟩) := by
  obtain ⟨xs, h1, h2, h3⟩ := h
  have hl : xs.length = ts.length * 3 := h1.1
  have st := (World.ownsRow.stored h1 (n * 3 + 2) (.int .i64 x)).1
  have hc := World.ownsRow.cellAt h1 (n * 3 + 2) (by omega)
  obtain ⟨_, _, _, _, e2, _⟩ := h2 n hn
  refine ⟨hc.trans e2, World.ownsRow.frozenAt h1 _, xs.set (n * 3 + 2) (.int .i64 x), by rw [List.length_set]; exact st, fun j hj => ?_, h3⟩
  have hj' : j < ts.length := by rw [List.length_set] at hj; exact hj
  obtain ⟨a, b, q0, q1, q2, q3⟩ := h2 j hj'
  have q4 := q3.keptT (by decide) (by decide) (by decide) (but_set w g (n * 3 + 2) (.int .i64 x)) (row_typed h1)
  rw [List.getElem_set]
  by_cases e : n = j
  · subst e
    rw [if_pos rfl]
    exact ⟨a, b, by rw [List.getElem?_set_ne (by omega)]; exact q0, by rw [List.getElem?_set_ne (by omega)]; exact q1, by rw [List.getElem?_set_self (by omega)], q4⟩
  · rw [if_neg e]
    exact ⟨a, b, by rw [List.getElem?_set_ne (by omega)]; exact q0, by rw [List.getElem?_set_ne (by omega)]; exact q1, by rw [List.getElem?_set_ne (by omega)]; exact q2, q4⟩
/-- A vote of transaction n. -/
theorem OwnTxs.vote {col : Nat → Nat} {w : World} {B g c n k : Nat} {ts : List Tx} (h : OwnTxs col w B (.slice (some ⟨g, 0, none⟩) ts.length c) ts) (hn : n < ts.length) (hk : k < ts[n].vs.length) :
    ∃ g2 c2, w.cell? ⟨g, n * 3 + 1, none⟩ = some (.slice (some ⟨g2, 0, none⟩) ts[n].vs.length c2) ∧ w.cell? ⟨g2, k, none⟩ = some (.int .i64 ts[n].vs[k]) ∧ w.frozen? ⟨g2, k, none⟩ = false ∧ B ≤ g2 ∧ g2 < w.heap.size ∧ col g2 = n + 2 ∧ ts[n].vs.length ≤ c2 ∧
      ∀ x : Int, OwnTxs col (w.setCell ⟨g2, k, none⟩ (.int .i64 x)) B (.slice (some ⟨g, 0, none⟩) ts.length c) (ts.set n ⟨ts[n].ps, ts[n].vs.set k x, ts[n].d⟩) := by
  obtain ⟨xs, h1, h2, h3⟩ := h
  have hl : xs.length = ts.length * 3 := h1.1
  obtain ⟨a, b, q0, q1, q2, q3, q4, q5⟩ := h2 n hn
  have q4' := q4
  obtain ⟨g2, c2, rfl, hB, hlt⟩ := World.ownsRow.form q4 (by omega)
  have hc2 : ts[n].vs.length ≤ c2 := by
    obtain ⟨_, _, e, _, e3⟩ := q4'.form
    injection e with _ _ e
    omega
  refine ⟨g2, c2, (World.ownsRow.cellAt h1 (n * 3 + 1) (by omega)).trans q1, ?_, World.ownsRow.frozenAt q4 _, hB, hlt, q5 g2 rfl, hc2, fun x => ?_⟩
  · rw [World.ownsRow.cellAt q4 k (by omega)]
    simp [ints, hk]
  · have st := (World.ownsRow.stored q4 k (.int .i64 x)).1
    have e3 : (ints ts[n].vs).set k (.int .i64 x) = ints (ts[n].vs.set k x) := by unfold ints; rw [List.map_set]
    rw [e3] at st
    have tb := row_typed q4
    have bs := but_set w g2 k (.int .i64 x)
    refine ⟨xs, by rw [List.length_set]; exact row_far_type h1 (by decide) bs tb, fun j hj => ?_, h3⟩
    have hj' : j < ts.length := by rw [List.length_set] at hj; exact hj
    rw [List.getElem_set]
    by_cases e : n = j
    · subst e
      rw [if_pos rfl]
      have hq : OwnPs col (n + 2) (w.setCell ⟨g2, k, none⟩ (.int .i64 x)) B a ts[n].ps := q3.keptI bs tb
      refine ⟨a, _, q0, q1, q2, hq, ?_, q5⟩
      unfold OwnI
      rw [List.length_set]
      exact st
    · rw [if_neg e]
      obtain ⟨a', b', r0, r1, r2, r3⟩ := h2 j hj'
      exact ⟨a', b', r0, r1, r2, r3.other ((Only.refl (Hue col (n + 2)) w).set_ (q5 g2 rfl) _ _) fun i hi e9 => by have : col i = n + 2 := e9; omega⟩
/-- Transaction n is another one, whose lists are new. -/
theorem OwnTxs.put {col : Nat → Nat} {w3 w4 : World} {B g c n : Nat} {a b : Value} {ts : List Tx} {t : Tx} (h : OwnTxs col w3 B (.slice (some ⟨g, 0, none⟩) ts.length c) ts) (hn : n < ts.length) (d : Below w3.heap.size w3 w4) (hB : B ≤ w3.heap.size) (hx : TxOf (fun _ => 0) 0 w4 w3.heap.size a b t) :
    (∃ a0 b0, w4.cell? ⟨g, n * 3, none⟩ = some a0 ∧ w4.cell? ⟨g, n * 3 + 1, none⟩ = some b0 ∧ w4.cell? ⟨g, n * 3 + 2, none⟩ = some (.int .i64 ts[n].d)) ∧ (∀ o, w4.frozen? ⟨g, o, none⟩ = false) ∧
      OwnTxs (tint w3 col (n + 2)) (((w4.setCell ⟨g, n * 3, none⟩ a).setCell ⟨g, n * 3 + 1, none⟩ b).setCell ⟨g, n * 3 + 2, none⟩ (.int .i64 t.d)) B (.slice (some ⟨g, 0, none⟩) ts.length c) (ts.set n t) := by
  obtain ⟨xs, h1, h2, h3⟩ := h
  have hl : xs.length = ts.length * 3 := h1.1
  have hrow := own_below h1 d (Nat.le_refl _)
  have s1 := (World.ownsRow.stored hrow (n * 3) a).1
  have s2 := (World.ownsRow.stored s1 (n * 3 + 1) b).1
  have s3 := (World.ownsRow.stored s2 (n * 3 + 2) (.int .i64 t.d)).1
  obtain ⟨a0, b0, q0, q1, q2, -⟩ := h2 n hn
  refine ⟨⟨a0, b0, (World.ownsRow.cellAt hrow _ (by omega)).trans q0, (World.ownsRow.cellAt hrow _ (by omega)).trans q1, (World.ownsRow.cellAt hrow _ (by omega)).trans q2⟩, fun o => World.ownsRow.frozenAt hrow o, _, by rw [List.length_set]; exact s3, fun j hj => ?_, tint_old h1 h3⟩
  have keep : ∀ {e : TypeId} {sz n' : Nat} {u : Value} {ys : List Value}, Ty4 e → w4.ownsRow B e sz u n' ys → (((w4.setCell ⟨g, n * 3, none⟩ a).setCell ⟨g, n * 3 + 1, none⟩ b).setCell ⟨g, n * 3 + 2, none⟩ (.int .i64 t.d)).ownsRow B e sz u n' ys := fun he h => by
    have hne := ty4_ne he (T := 33) (by decide) (by decide) (by decide)
    exact row_far_type (row_far_type (row_far_type h hne (but_set _ g _ _) (row_typed hrow)) hne (but_set _ g _ _) (row_typed s1)) hne (but_set _ g _ _) (row_typed s2)
  have hj' : j < ts.length := by rw [List.length_set] at hj; exact hj
  rw [List.getElem_set]
  by_cases e : n = j
  · subst e
    rw [if_pos rfl]
    refine ⟨a, b, ?_, ?_, ?_, hx.map fun e sz n' u ys he hr hc => ⟨keep he (rowB_base hr hB), tint_new hr⟩⟩
    · rw [List.getElem?_set_ne (by omega), List.getElem?_set_ne (by omega), List.getElem?_set_self (by omega)]
    · rw [List.getElem?_set_ne (by omega), List.getElem?_set_self (by simp; omega)]
    · rw [List.getElem?_set_self (by simp; omega)]
  · rw [if_neg e]
    obtain ⟨a', b', r0, r1, r2, r3⟩ := h2 j hj'
    refine ⟨a', b', ?_, ?_, ?_, r3.map fun e sz n' u ys he hr hc => ⟨keep he (own_below hr d (Nat.le_refl _)), tint_old hr hc⟩⟩
    · rw [List.getElem?_set_ne (by omega), List.getElem?_set_ne (by omega), List.getElem?_set_ne (by omega)]; exact r0
    · rw [List.getElem?_set_ne (by omega), List.getElem?_set_ne (by omega), List.getElem?_set_ne (by omega)]; exact r1
    · rw [List.getElem?_set_ne (by omega), List.getElem?_set_ne (by omega), List.getElem?_set_ne (by omega)]; exact r2

/-! ### What calls answer. -/
/-- Behind it: parts of the call's own. -/
def NewPs (ps : List Part) (w : World) (e : Ending) (w' : World) : Prop := ∃ v, e = .returned v ∧ OwnPs (fun _ => 0) 0 w' w.heap.size v ps ∧ Below w.heap.size w w'
/-- .. a transaction. -/
def NewTx (t : Tx) (w : World) (e : Ending) (w' : World) : Prop := ∃ a b, e = .returned (.agg #[a, b, .int .i64 t.d]) ∧ TxOf (fun _ => 0) 0 w' w.heap.size a b t ∧ Below w.heap.size w w'
/-- .. a coordinator. -/
def NewCr (k : Crd) (w : World) (e : Ending) (w' : World) : Prop := ∃ v col, e = .returned v ∧ OwnCr col w' w.heap.size v k ∧ Below w.heap.size w w'
/-- .. and a word. -/
def NewCrB (k : Crd) (b : Bool) (w : World) (e : Ending) (w' : World) : Prop := ∃ v col, e = .returned (.tuple #[v, .bool b]) ∧ OwnCr col w' w.heap.size v k ∧ Below w.heap.size w w'
theorem part_cells (s : Int) (A : Option Addr) (n c : Nat) : ∀ u ∈ [Value.int .i64 s, .slice A n c], u.oneCell' = true := by
  intro u hu
  simp only [List.mem_cons, List.not_mem_nil, or_false] at hu
  rcases hu with rfl | rfl <;> rfl
theorem tx_cells (A : Option Addr) (n c : Nat) (A2 : Option Addr) (n2 c2 : Nat) (d : Int) : ∀ u ∈ [Value.slice A n c, .slice A2 n2 c2, .int .i64 d], u.oneCell' = true := by
  intro u hu
  simp only [List.mem_cons, List.not_mem_nil, or_false] at hu
  rcases hu with rfl | rfl | rfl <;> rfl
theorem row_two_ (w : World) (v0 v1 : Value) (t : TypeId) : Row (w.alloc (.cells #[v0, v1] t)) (w.alloc (.cells #[v0, v1] t)).heap.size (some ⟨w.heap.size, 0, none⟩) [v0, v1] :=
  .inr ⟨_, rfl, by simp, World.news_of_block (cs := #[v0, v1]) (heap_alloc_new w _)⟩
theorem row_three_ (w : World) (v0 v1 v2 : Value) (t : TypeId) : Row (w.alloc (.cells #[v0, v1, v2] t)) (w.alloc (.cells #[v0, v1, v2] t)).heap.size (some ⟨w.heap.size, 0, none⟩) [v0, v1, v2] :=
  .inr ⟨_, rfl, by simp, World.news_of_block (cs := #[v0, v1, v2]) (heap_alloc_new w _)⟩
theorem info_part : (Tryz.prog.info? 40).map (fun i => (i.zero, i.size, i.bytes)) = some (some (.agg #[.int .i64 0, .slice none 0 0]), 2, 32) := by kernel_rfl
theorem info_txn : (Tryz.prog.info? 33).map (fun i => (i.zero, i.size, i.bytes)) = some (some (.agg #[.slice none 0 0, .slice none 0 0, .int .i64 0]), 3, 56) := by kernel_rfl
end Go.Proofs.YteaibflloeipaaaGreatDoor
/- Laws on coordinators: a coordinator is boxed. -/
/- On to the world behind D. -/
/- An exact law begins: the argument's box, its size, a copy for the model. -/
/- The program's own copy of the argument is boxed. -/
/- The program's copy is as the argument; the region draws. -/
/- Laws on functions that answer numbers. -/
/- What the boxes hold is read again. -/
/- The coordinator with the slices P4 and P5 is boxed as P6, in block P7, behind it the world P3; ahead of region P1. -/
/- The draw, the program's answer, the model's, and that they are the same: behind it w5, all facts on it by way of dx. -/
/-
  Walks: the laws' own helpers on updates: copies, comparisons, sizes, inverses, marks.
-/
namespace Go.Proofs.YteaibflloeipaaaGreatDoor
open Go.RowKit Wo Pu Rf

/-- An update as a value. -/
def upA (o : Up) : Value := .agg #[.int .i64 o.r, .int .i64 o.o, .int .i64 o.n]
theorem eqUpdate_same (o : Up) (w : World) :
    Calls Tryz.prog 157 #[upA o, upA o] w (Ret (.bool true) w) := by
  unfold upA
  go_enter Tryz.func157, Tryz.ntmps157
  go_wp2
  go_ret
  exact .mk_ (((Below.refl _ _).alloc (Nat.le_refl _) _).alloc (by simp) _)
set_option maxHeartbeats 2000000 in
theorem eqUpdateS_same (A A2 : Option Addr) (c c2 : Nat) (os : List Up) (w : World) (h : Row w w.heap.size A (upsV os)) (h2 : Row w w.heap.size A2 (upsV os)) (hn : os.length ≤ 1048576) :
    Calls Tryz.prog 145 #[.slice A os.length c, .slice A2 os.length c2] w (Ret (.bool true) w) := by
  go_enter Tryz.func145, Tryz.ntmps145
  go_wp2
  go_loopw [5] (fun i wr => ∃ k : Nat, k ≤ os.length ∧ i = .int .i64 k ∧ Below w.heap.size w wr) (fun i _ => os.length - (intOf i).toNat)
  case atStart => exact ⟨0, Nat.zero_le _, rfl, Below.refl _ _⟩
  case round =>
    obtain ⟨k, hk, rfl, hb⟩ := hrel
    by_cases hlt : k < os.length
    · obtain ⟨o, ad, ho, rfl, ha1, g0, g1, g2⟩ := (h.below hb (Nat.le_refl _)).up_ hlt
      obtain ⟨o2, ad2, ho2, rfl, ha2, g20, g21, g22⟩ := (h2.below hb (Nat.le_refl _)).up_ hlt
      obtain rfl : o = o2 := by rw [← ho, ← ho2]
      have k0 : 0 ≤ (k : Int) := by omega
      have k1 : (k : Int) < (os.length : Int) := by omega
      have G0 := Later.cell g0 ha1
      have G1 := Later.cell (p := ⟨(ad.add (k * 3)).block, (ad.add (k * 3)).off + 1, none⟩) g1 ha1
      have G2 := Later.cell (p := ⟨(ad.add (k * 3)).block, (ad.add (k * 3)).off + 2, none⟩) g2 ha1
      have G3 := Later.cell g20 ha2
      have G4 := Later.cell (p := ⟨(ad2.add (k * 3)).block, (ad2.add (k * 3)).off + 1, none⟩) g21 ha2
      have G5 := Later.cell (p := ⟨(ad2.add (k * 3)).block, (ad2.add (k * 3)).off + 2, none⟩) g22 ha2
      have hz := hb.size
      clear ho ho2 g0 g1 g2 g20 g21 g22
      go_wp2_with fail
      refine wp_region_later w.heap.size (by kernel_rfl) (by kernel_rfl) ?_
      repeat (go_big_quiet_step ((go_at_call 157; exact Later.call hz _ (eqUpdate_same o _))))
      refine wpQuiet_nil ?_
      intro _ hw'
      obtain ⟨xx, hxx⟩ := hw'
      have hbx := xx.b
      subst hxx
      go_wp2
      go_roundw
      case rel => exact ⟨k + 1, by omega, by go_num, hb.trans hbx⟩
      case measure => simp [intOf]; omega
    · have hk' : k = os.length := by omega
      subst hk'
      go_wp2
      go_ret
      exact .mk_ hb

/-- Behind it: an update as a value. -/
theorem toUpdate_any (o : Up) (w : World) : Calls Tryz.prog 156 #[upA o] w (Ret (upA o) w) := by
  unfold upA
  go_enter Tryz.func156, Tryz.ntmps156
  go_wp2_with fail
  refine bodyPost_ret (v := .agg #[.int .i64 o.r, .int .i64 o.o, .int .i64 o.n]) (by simp [results, Tryz.results156, go_sem]) rfl (.mk_ ?_)
  exact (((Below.refl _ _).alloc (Nat.le_refl _) _).alloc (by simp) _).alloc (by simp; omega) _

/-- Behind it: a new slice with the updates. -/
def MineUps (os : List Up) (w : World) (e : Ending) (w' : World) : Prop :=
  ∃ g, e = .returned (.slice (some ⟨g, 0, none⟩) os.length os.length) ∧ Mine w' w.heap.size 164 3 g os.length (upsV os) ∧ Below w.heap.size w w'

theorem take_up {xs : List Value} {os : List Up} {k : Nat} (h : xs.take (k * 3) = (upsV os).take (k * 3)) (hx : xs.length = os.length * 3) (hk : k < os.length) :
    (((xs.set (k * 3) (.int .i64 os[k].r)).set (k * 3 + 1) (.int .i64 os[k].o)).set (k * 3 + 2) (.int .i64 os[k].n)).take ((k + 1) * 3) = (upsV os).take ((k + 1) * 3) := by
  apply List.ext_getElem?
  intro j
  rw [List.getElem?_take, List.getElem?_take]
  by_cases hj : j < (k + 1) * 3
  · rw [if_pos hj, if_pos hj]
    by_cases h1 : j < k * 3
    · rw [List.getElem?_set_ne (by omega), List.getElem?_set_ne (by omega), List.getElem?_set_ne (by omega)]
      have := congrArg (fun l => l[j]?) h
      simpa [List.getElem?_take, h1] using this
    · have key : j = k * 3 + 0 ∨ j = k * 3 + 1 ∨ j = k * 3 + 2 := by omega
      rcases key with rfl | rfl | rfl
      · rw [upsV_get hk (by omega), List.getElem?_set_ne (by omega), List.getElem?_set_ne (by omega), Nat.add_zero, List.getElem?_set_self (by omega)]; rfl
      · rw [upsV_get hk (by omega), List.getElem?_set_ne (by omega), List.getElem?_set_self (by simp; omega)]; rfl
      · rw [upsV_get hk (by omega), List.getElem?_set_self (by simp; omega)]; rfl
  · rw [if_neg hj, if_neg hj]
theorem Mine.cell_ {w : World} {B g n sz : Nat} {e : TypeId} {xs : List Value} (h : Mine w B e sz g n xs) {j : Nat} (hj : j < n * sz) : ∃ v, w.cell? ⟨g, j, none⟩ = some v := by
  have hl := h.len
  exact ⟨_, (World.ownsRow.cellAt h j (by omega)).trans (List.getElem?_eq_getElem (by omega))⟩

set_option maxHeartbeats 2000000 in
theorem toUpdateS_any (A : Option Addr) (c : Nat) (os : List Up) (w : World) (h : Row w w.heap.size A (upsV os)) (hn : os.length ≤ 1048576) :
    Calls Tryz.prog 143 #[.slice A os.length c] w (MineUps os w) := by
  obtain ⟨i0, hi, hz0, hz1, hz2⟩ := info_of info_up
  go_enter Tryz.func143, Tryz.ntmps143
  go_wp2_with (at_make; go_must (refine wpList_make_full _ rfl (.tmp 6) (.tmp 6) 38 rfl w.heap.size 164 i0 (.agg #[.int .i64 0, .int .i64 0, .int .i64 0]) 3 Tryz.underlying38 hi hz0 hz1 .i64 .i64 os.length os.length os.length rfl rfl rfl rfl (by rw [hz2]; omega) (by unfold maxLen; omega) (Nat.le_refl _) ?_); intro w1 hown hg)
  have hb1 : Below w.heap.size w w1 := (Below.refl _ _).grown hg (Nat.le_refl _) (by simp)
  have f1 : Hid (∃ xs : List Value, Mine w1 w.heap.size 164 3 w.heap.size os.length xs ∧ xs.take (0 * 3) = (upsV os).take (0 * 3)) := ⟨_, hown, by simp⟩
  clear hown hg
  go_loopw [4] (fun i wr => ∃ k : Nat, k ≤ os.length ∧ i = .int .i64 k ∧ Below w.heap.size w wr ∧ Hid (∃ xs : List Value, Mine wr w.heap.size 164 3 w.heap.size os.length xs ∧ xs.take (k * 3) = (upsV os).take (k * 3))) (fun i _ => os.length - (intOf i).toNat)
  case atStart => exact ⟨0, Nat.zero_le _, rfl, hb1, f1⟩
  case round =>
    clear f1 hb1
    obtain ⟨k, hk, rfl, hb, HX⟩ := hrel
    by_cases hlt : k < os.length
    · obtain ⟨o, ad, ho, rfl, ha, g0, g1, g2⟩ := (h.below hb (Nat.le_refl _)).up_ hlt
      have HO := hid ho
      clear ho
      go_wp2_with fail
      refine (toUpdate_any o _).mono ?_
      rintro e w2 ⟨rfl, hb2⟩
      unfold upA
      obtain ⟨xs, hx, ht⟩ := HX.out
      clear HX
      have hx2 := hx.below hb2 hx.lt.2
      have hb3 := hb.trans (hb2.mono hb.size)
      have HT := hid (take_up ht hx.len hlt)
      rw [HO.out] at HT
      clear hb2 hx ht g0 g1 g2
      have hlen := hx2.len
      obtain ⟨y0, q0⟩ := hx2.cell_ (j := k * 3) (by omega)
      obtain ⟨y1, q1⟩ := hx2.cell_ (j := k * 3 + 1) (by omega)
      obtain ⟨y2, q2⟩ := hx2.cell_ (j := k * 3 + 2) (by omega)
      have qf0 := hx2.frozen (k * 3)
      have qf1 := hx2.frozen (k * 3 + 1)
      have qf2 := hx2.frozen (k * 3 + 2)
      have hx3 := ((hx2.set_ (k * 3) (.int .i64 o.r)).set_ (k * 3 + 1) (.int .i64 o.o)).set_ (k * 3 + 2) (.int .i64 o.n)
      have HL := hid hlen
      clear hx2 hlen
      go_wp2_with fail
      go_roundw
      case rel => exact ⟨k + 1, by omega, by go_num, ((hb3.setCell (Nat.le_refl _) _).setCell (Nat.le_refl _) _).setCell (Nat.le_refl _) _, _, hx3, HT.out⟩
      case measure => simp [intOf]; omega
    · have hk' : k = os.length := by omega
      subst hk'
      obtain ⟨xs, hx, ht⟩ := HX.out
      clear HX
      have hxs : xs = upsV os := by
        have hl := hx.len
        rw [List.take_of_length_le (by omega), List.take_of_length_le (by rw [upsV_length]; omega)] at ht
        exact ht
      clear ht
      subst hxs
      go_wp2
      go_ret
      exact ⟨_, rfl, hx, hb⟩

theorem szUpdateS_no (A : Option Addr) (n c : Nat) (left : Int) (w : World) (hn : n ≤ maxLen) (h0 : 0 ≤ left) (h1 : left ≤ 1048576) (h : left < n) :
    Calls Tryz.prog 141 #[.slice A n c, .int .i64 left] w (Same (.int .i64 (-1)) w) := by
  unfold maxLen at hn
  go_enter Tryz.func141, Tryz.ntmps141
  go_wp2
  go_ret
  exact ⟨rfl, rfl⟩
theorem szUpdateS_yes (A : Option Addr) (n c : Nat) (left : Int) (w : World) (hn : n ≤ maxLen) (h0 : 0 ≤ left) (h1 : left ≤ 1048576) (h : n ≤ left) :
    Calls Tryz.prog 141 #[.slice A n c, .int .i64 left] w (Same (.int .i64 (left - n)) w) := by
  unfold maxLen at hn
  go_enter Tryz.func141, Tryz.ntmps141
  go_wp2
  go_ret
  exact ⟨rfl, rfl⟩
end Go.Proofs.YteaibflloeipaaaGreatDoor
namespace Go.Proofs.YteaibflloeipaaaGreatDoor
open Go.RowKit Wo Pu Rf

/-! ### Ids. -/
instance (n : Int) : Decidable (Val n) := by unfold Val; exact inferInstance
theorem l11Value_is (b : Bool) (n : Int) (w : World) (hb : b = true ↔ Val n) : Calls Tryz.prog 121 #[.int .i64 n] w (Same (.bool b) w) := by
  have HB := hid hb
  clear hb
  by_cases h : Val n
  · have F := hid (HB.out.2 h)
    obtain ⟨h1, h2⟩ := h
    go_enter Tryz.func121, Tryz.ntmps121
    go_wp2_with (go_at_call 44; refine (l6In_yes n (-1) 990 _ h1 h2).mono ?_; rintro e w' ⟨rfl, rfl⟩)
    go_ret
    rw [F.out]
    exact ⟨rfl, rfl⟩
  · have F : Hid (b = false) := by
      show b = false
      rw [← Bool.not_eq_true]
      exact fun e => h (HB.out.1 e)
    have h' : n < -1 ∨ 990 < n := by unfold Val at h; omega
    clear h
    go_enter Tryz.func121, Tryz.ntmps121
    go_wp2_with (go_at_call 44; refine (l6In_no n (-1) 990 _ h').mono ?_; rintro e w' ⟨rfl, rfl⟩)
    go_ret
    rw [F.out]
    exact ⟨rfl, rfl⟩
/-- The first k are ids. -/
def ValTo (zs : List Int) (k : Nat) : Prop := ∀ z ∈ zs.take k, Val z
theorem ValTo.zero (zs : List Int) : ValTo zs 0 := fun z h => by simp at h
theorem ValTo.next {zs : List Int} {k : Nat} (h : ValTo zs k) (hk : k < zs.length) (hv : Val zs[k]) : ValTo zs (k + 1) := fun z hz => by
  rw [List.take_succ_eq_append_getElem hk] at hz
  rcases List.mem_append.1 hz with hz | hz
  · exact h z hz
  · rw [List.mem_singleton.1 hz]; exact hv
theorem ValTo.all {zs : List Int} (h : ValTo zs zs.length) : ∀ z ∈ zs, Val z := by unfold ValTo at h; rwa [List.take_length] at h
end Go.Proofs.YteaibflloeipaaaGreatDoor
