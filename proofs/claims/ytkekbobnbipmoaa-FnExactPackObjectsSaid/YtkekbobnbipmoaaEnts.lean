/-
  Entries and nodes in memory.
-/
import Derived.Test.YtkekbobnbipmoaaList
import Derived.Test.YtkekbobnbipmoaaPackP
import Derived.Test.YtkekbobnbipmoaaSizes
namespace Go.Proofs.Ytkekbobnbipmoaa
open Go.RowKit Wo Pu

/-- Two slices do not lie in one block. -/
def Ap2 (v u : Value) : Prop := ∀ g, v.ownBlock = some g → u.ownBlock ≠ some g
theorem Ap2.symm {v u : Value} (h : Ap2 v u) : Ap2 u v := fun g h1 h2 => h g h2 h1
/-- At ad lies the entry e. -/
def EntAt (w : World) (B : Nat) (ad : Addr) (e : Ent) : Prop :=
  ∃ (A : Option Addr) (c : Nat) (A' : Option Addr) (c' : Nat), w.cell? ad = some (.int .i64 e.kd) ∧ w.cell? (ad.add 1) = some (.slice A e.zs.length c) ∧ w.cell? (ad.add 2) = some (.int .i64 e.b) ∧
    w.cell? (ad.add 3) = some (.slice A' e.ops.length c') ∧ Row w B A (ints e.zs) ∧ Row w B A' (opsV e.ops)
/-- The slice with head A holds the entries es. -/
def Ents (w : World) (B : Nat) (A : Option Addr) (es : List Ent) : Prop :=
  es = [] ∨ ∃ ad, A = some ad ∧ ad.block < B ∧ ∀ i (h : i < es.length), EntAt w B (ad.add (i * 4)) es[i]
theorem EntAt.below {w w' : World} {B C : Nat} {ad : Addr} {e : Ent} (h : EntAt w B ad e) (ha : ad.block < B) (hb : Below C w w') (hC : B ≤ C) : EntAt w' B ad e := by
  obtain ⟨A, c, A', c', h0, h1, h2, h3, h4, h5⟩ := h
  have f : ∀ p : Addr, p.block < B → w'.cell? p = w.cell? p := fun p hp => hb.cell (by omega)
  exact ⟨A, c, A', c', by rw [f _ ha]; exact h0, by rw [f _ (by rw [add_block]; exact ha)]; exact h1, by rw [f _ (by rw [add_block]; exact ha)]; exact h2, by rw [f _ (by rw [add_block]; exact ha)]; exact h3, h4.below hb hC, h5.below hb hC⟩
theorem Ents.below {w w' : World} {B C : Nat} {A : Option Addr} {es : List Ent} (h : Ents w B A es) (hb : Below C w w') (hC : B ≤ C) : Ents w' B A es := by
  rcases h with rfl | ⟨ad, e, ha, hh⟩
  · exact .inl rfl
  · exact .inr ⟨ad, e, ha, fun i hi => (hh i hi).below (by rw [add_block]; exact ha) hb hC⟩
theorem Ents.more {w : World} {B B' : Nat} {A : Option Addr} {es : List Ent} (h : Ents w B A es) (hB : B ≤ B') : Ents w B' A es := by
  rcases h with rfl | ⟨ad, e, ha, hh⟩
  · exact .inl rfl
  · refine .inr ⟨ad, e, by omega, fun i hi => ?_⟩
    obtain ⟨A, c, A', c', h0, h1, h2, h3, h4, h5⟩ := hh i hi
    exact ⟨A, c, A', c', h0, h1, h2, h3, h4.more hB, h5.more hB⟩
theorem Ents.ent {w : World} {B : Nat} {A : Option Addr} {es : List Ent} (h : Ents w B A es) {k : Nat} (hk : k < es.length) :
    ∃ (e : Ent) (ad : Addr) (A1 : Option Addr) (c1 : Nat) (A2 : Option Addr) (c2 : Nat), es[k] = e ∧ A = some ad ∧ (ad.add (k * 4)).block < B ∧ w.cell? (ad.add (k * 4)) = some (.int .i64 e.kd) ∧
      w.cell? ⟨(ad.add (k * 4)).block, (ad.add (k * 4)).off + 1, none⟩ = some (.slice A1 e.zs.length c1) ∧ w.cell? ⟨(ad.add (k * 4)).block, (ad.add (k * 4)).off + 2, none⟩ = some (.int .i64 e.b) ∧
      w.cell? ⟨(ad.add (k * 4)).block, (ad.add (k * 4)).off + 3, none⟩ = some (.slice A2 e.ops.length c2) ∧ Row w B A1 (ints e.zs) ∧ Row w B A2 (opsV e.ops) := by
  rcases h with rfl | ⟨ad, e, ha, hh⟩
  · simp at hk
  · obtain ⟨A1, c1, A2, c2, h0, h1, h2, h3, h4, h5⟩ := hh k hk
    exact ⟨_, ad, A1, c1, A2, c2, rfl, e, by rw [add_block]; exact ha, h0, h1, h2, h3, h4, h5⟩

/-- The parts of entries are small. -/
def FitE (es : List Ent) : Prop := ∀ e ∈ es, e.zs.length ≤ 1048576 ∧ e.ops.length ≤ 1048576 ∧ Fit2 e.ops ∧ tsz e.ops e.ops.length ≤ 1048576 ∧ -9223372036854775808 ≤ e.b ∧ e.b ≤ 9223372036854775807
theorem FitE.take_ {es : List Ent} (h : FitE es) (k : Nat) : FitE (es.take k) := fun e he => h e (List.mem_of_mem_take he)

/-- A node: its block, its entry's cells beside the base, its text. -/
structure Nd where
  g : Nat
  k : Value
  l : Value
  o : Value
  t : ByteArray
def pTo (ns : List Nd) (b : Int) : Value := if 0 ≤ b then .pointer ((ns[b.toNat]?).map fun n => ⟨n.g, 0, none⟩) else .pointer none
theorem pTo_none {ns : List Nd} {b : Int} (h : b < 0) : pTo ns b = .pointer none := if_neg (by omega)
theorem pTo_some {ns : List Nd} {b : Nat} (h : b < ns.length) : pTo ns (b : Int) = .pointer (some ⟨ns[b].g, 0, none⟩) := by
  unfold pTo
  rw [if_pos (by omega), show ((b : Int)).toNat = b from by omega, List.getElem?_eq_getElem h]
  rfl
theorem pTo_at {ns : List Nd} {b : Int} (h0 : 0 ≤ b) (h : b.toNat < ns.length) : pTo ns b = .pointer (some ⟨ns[b.toNat].g, 0, none⟩) := by
  unfold pTo
  rw [if_pos h0, List.getElem?_eq_getElem h]
  rfl
theorem pTo_app {ns ms : List Nd} {b : Int} (h : b < (ns.length : Int)) : pTo (ns ++ ms) b = pTo ns b := by
  unfold pTo
  by_cases h0 : 0 ≤ b
  · rw [if_pos h0, if_pos h0, List.getElem?_append_left (by omega)]
  · rw [if_neg h0, if_neg h0]
def ptrs (ns : List Nd) : List Value := ns.map fun n => .pointer (some ⟨n.g, 0, none⟩)
theorem ptrs_length (ns : List Nd) : (ptrs ns).length = ns.length := List.length_map _
theorem ptrs_get (ns : List Nd) (k : Nat) (h : k < ns.length) : (ptrs ns)[k]'(by rw [ptrs_length]; exact h) = .pointer (some ⟨ns[k].g, 0, none⟩) := by simp [ptrs]
def ndC (ns : List Nd) (b : Int) (n : Nd) : Array Value := #[n.k, n.l, .int .i64 b, n.o, pTo ns b, .string n.t]
/-- The slice v, from B on, holds the nodes ns of the entries es. -/
def Chain (w : World) (B : Nat) (v : Value) (es : List Ent) (ns : List Nd) : Prop :=
  ns.length = es.length ∧ Bas es ∧ w.ownsRow B 58 1 v ns.length (ptrs ns) ∧
    (∀ i (h : i < es.length) (h2 : i < ns.length), B ≤ ns[i].g ∧ w.heap[ns[i].g]? = some (.cells (ndC ns es[i].b ns[i]) 61 (0, 0))) ∧ ∀ i j (h : i < ns.length) (h2 : j < ns.length), i < j → ns[i].g ≠ ns[j].g
section
variable {w w' : World} {B C : Nat} {v : Value} {es : List Ent} {ns : List Nd}
theorem Chain.lt (h : Chain w B v es ns) {i : Nat} (h2 : i < ns.length) : ns[i].g < w.heap.size := heap_lt (h.2.2.2.1 i (by rw [← h.1]; exact h2) h2).2
theorem Chain.below (h : Chain w B v es ns) (hb : Below C w w') (hC : w.heap.size ≤ C) : Chain w' B v es ns := by
  have hl := fun i h2 => h.lt (i := i) h2
  obtain ⟨h1, h2, h3, h4, h5⟩ := h
  refine ⟨h1, h2, own_below h3 hb hC, fun i hi hi2 => ?_, h5⟩
  obtain ⟨a, b⟩ := h4 i hi hi2
  exact ⟨a, by rw [hb.block _ (Nat.lt_of_lt_of_le (hl i hi2) hC)]; exact b⟩
theorem cells6 {g : Nat} {t : TypeId} {v0 v1 v2 v3 v4 v5 : Value} (h : w.heap[g]? = some (.cells #[v0, v1, v2, v3, v4, v5] t (0, 0))) :
    w.cell? ⟨g, 0, none⟩ = some v0 ∧ w.cell? ⟨g, 1, none⟩ = some v1 ∧ w.cell? ⟨g, 2, none⟩ = some v2 ∧ w.cell? ⟨g, 3, none⟩ = some v3 ∧ w.cell? ⟨g, 4, none⟩ = some v4 ∧ w.cell? ⟨g, 5, none⟩ = some v5 ∧ ∀ o, w.frozen? ⟨g, o, none⟩ = false := by
  refine ⟨?_, ?_, ?_, ?_, ?_, ?_, fun o => ?_⟩ <;> simp [World.cell?, World.frozen?, h]
theorem Chain.cells (h : Chain w B v es ns) {i : Nat} (hi : i < es.length) (h2 : i < ns.length) :
    w.cell? ⟨ns[i].g, 0, none⟩ = some ns[i].k ∧ w.cell? ⟨ns[i].g, 1, none⟩ = some ns[i].l ∧ w.cell? ⟨ns[i].g, 2, none⟩ = some (.int .i64 es[i].b) ∧ w.cell? ⟨ns[i].g, 3, none⟩ = some ns[i].o ∧ w.cell? ⟨ns[i].g, 4, none⟩ = some (pTo ns es[i].b) ∧ w.cell? ⟨ns[i].g, 5, none⟩ = some (.string ns[i].t) ∧ ∀ o, w.frozen? ⟨ns[i].g, o, none⟩ = false :=
  cells6 (h.2.2.2.1 i hi h2).2
theorem Chain.row (h : Chain w B v es ns) : ∃ (A : Option Addr) (c : Nat), v = .slice A ns.length c ∧ Row w w.heap.size A (ptrs ns) ∧ ns.length ≤ c := by
  have h3 := h.2.2.1
  rcases h3.2 with ⟨rfl, h0⟩ | ⟨g, cap, cur, rfl, _, _, hn, _⟩
  · have : ns = [] := List.eq_nil_of_length_eq_zero h0
    subst this
    exact ⟨none, 0, rfl, .inl rfl, Nat.le_refl _⟩
  · refine ⟨_, cap, rfl, Row.of_own h3 (fun hx => ?_), hn⟩
    rcases Nat.eq_zero_or_pos ns.length with h0 | h0
    · have : ns = [] := List.eq_nil_of_length_eq_zero h0
      subst this
      exact absurd rfl hx
    · exact h0
theorem Wo.Row.ptr_ {A : Option Addr} (h : Row w C A (ptrs ns)) {k : Nat} (hk : k < ns.length) :
    ∃ ad, A = some ad ∧ ad.block < C ∧ w.cell? (ad.add k) = some (.pointer (some ⟨ns[k].g, 0, none⟩)) := by
  obtain ⟨ad, e, hb, hc⟩ := h.get (k := k) (by rw [ptrs_length]; exact hk)
  exact ⟨ad, e, hb, by rw [hc, ptrs_get]⟩
end
end Go.Proofs.Ytkekbobnbipmoaa
