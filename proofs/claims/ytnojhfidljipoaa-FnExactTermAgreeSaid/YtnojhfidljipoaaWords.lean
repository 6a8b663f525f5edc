/-
  Words for memory: a slice whose cells are known, kept over what a call makes.
-/
import Derived.WalkKit
import Derived.WalkSpells
import Derived.WalkLawsBesides
import Derived.Deep.Draws
import Derived.Deep.AppendLies
import Derived.Test.YtnojhfidljipoaaPure
namespace Go.Proofs.Ytnojhfidljipoaa
open Go.RowKit
namespace Wo

theorem add_block (a : Addr) (n : Nat) : (a.add n).block = a.block := by
  unfold Addr.add
  split
  · rfl
  · rfl

theorem add_zero (a : Addr) : a.add 0 = a := by simp [Addr.add]

/-- The slice with head A holds the cells vs, and lies below block B. -/
def Row (w : World) (B : Nat) (A : Option Addr) (vs : List Value) : Prop :=
  vs = [] ∨ ∃ ad, A = some ad ∧ ad.block < B ∧ ∀ j v, vs[j]? = some v → w.cell? (ad.add j) = some v

theorem Row.none_ (w : World) (B : Nat) (A : Option Addr) : Row w B A [] := .inl rfl
theorem Row.head {w : World} {B : Nat} {A : Option Addr} {vs : List Value} (h : Row w B A vs) (hk : 0 < vs.length) :
    ∃ ad, A = some ad ∧ ad.block < B ∧ ∀ j (hj : j < vs.length), w.cell? (ad.add j) = some vs[j] := by
  rcases h with rfl | ⟨ad, e, hb, hc⟩
  · simp at hk
  · exact ⟨ad, e, hb, fun j hj => hc j _ (List.getElem?_eq_getElem hj)⟩
theorem Row.get {w : World} {B : Nat} {A : Option Addr} {vs : List Value} (h : Row w B A vs) {k : Nat} (hk : k < vs.length) :
    ∃ ad, A = some ad ∧ ad.block < B ∧ w.cell? (ad.add k) = some vs[k] := by
  obtain ⟨ad, e, hb, hc⟩ := h.head (by omega)
  exact ⟨ad, e, hb, hc k hk⟩
theorem Row.keep {w w' : World} {B : Nat} {A : Option Addr} {vs : List Value} (h : Row w B A vs) (hk : ∀ p : Addr, p.block < B → w'.cell? p = w.cell? p) : Row w' B A vs := by
  rcases h with rfl | ⟨ad, e, hb, hc⟩
  · exact .inl rfl
  · exact .inr ⟨ad, e, hb, fun j v hv => by rw [hk _ (by rw [add_block]; exact hb)]; exact hc j v hv⟩
theorem Row.more {w : World} {B B' : Nat} {A : Option Addr} {vs : List Value} (h : Row w B A vs) (hB : B ≤ B') : Row w B' A vs := by
  rcases h with rfl | ⟨ad, e, hb, hc⟩
  · exact .inl rfl
  · exact .inr ⟨ad, e, by omega, hc⟩
theorem Row.below {w w' : World} {B C : Nat} {A : Option Addr} {vs : List Value} (h : Row w B A vs) (hb : Below C w w') (hC : B ≤ C) : Row w' B A vs :=
  h.keep fun p hp => hb.cell (by omega)
theorem Row.alloc {w : World} {B : Nat} {A : Option Addr} {vs : List Value} (h : Row w B A vs) (hB : B ≤ w.heap.size) (o : Obj) : Row (w.alloc o) B A vs :=
  h.below ((Below.refl B w).alloc hB o) (Nat.le_refl _)
theorem Row.drewN {w : World} {B : Nat} {A : Option Addr} {vs : List Value} (h : Row w B A vs) (n : Nat) : Row (w.drewN n) B A vs := h
theorem Row.of_own {w : World} {base : Nat} {e : TypeId} {size n c : Nat} {A : Option Addr} {xs : List Value} (h : w.ownsRow base e size (.slice A n c) n xs) (hn : xs ≠ [] → 0 < n) : Row w w.heap.size A xs := by
  by_cases hx : xs = []
  · exact .inl hx
  · obtain ⟨g, cap, hv, _, hlt⟩ := h.form (hn hx)
    have hA : A = some ⟨g, 0, none⟩ := by injection hv
    subst hA
    exact .inr ⟨_, rfl, hlt, h.cells (g := g) rfl⟩

/-- Integers. -/
def ints (zs : List Int) : List Value := zs.map (Value.int .i64)
theorem ints_length (zs : List Int) : (ints zs).length = zs.length := List.length_map _
theorem ints_get (zs : List Int) (k : Nat) (h : k < zs.length) : (ints zs)[k]'(by rw [ints_length]; exact h) = .int .i64 zs[k] := by simp [ints]
theorem Row.int_ {w : World} {B : Nat} {A : Option Addr} {zs : List Int} (h : Row w B A (ints zs)) {k : Nat} (hk : k < zs.length) :
    ∃ ad, A = some ad ∧ ad.block < B ∧ w.cell? (ad.add k) = some (.int .i64 zs[k]) := by
  obtain ⟨ad, e, hb, hc⟩ := h.get (k := k) (by rw [ints_length]; exact hk)
  exact ⟨ad, e, hb, by rw [hc, ints_get]⟩

theorem hid {p : Prop} (h : p) : Hid p := h
theorem bcell {B : Nat} {W w1 : World} (hb : Below B W w1) : (∀ b o, b < B → w1.cell? ⟨b, o, none⟩ = W.cell? ⟨b, o, none⟩) ∧ (∀ b o, b < B → w1.frozen? ⟨b, o, none⟩ = W.frozen? ⟨b, o, none⟩) :=
  ⟨fun b o h => hb.cell (p := ⟨b, o, none⟩) h, fun b o h => hb.frozen (p := ⟨b, o, none⟩) h⟩
theorem Below.drewN {B : Nat} {a w : World} (h : Below B a w) (n : Nat) : Below B a (w.drewN n) := ⟨h.os, h.tape, h.output, h.size, h.block⟩
end Wo
end Go.Proofs.Ytnojhfidljipoaa
