/-
  What a list of entries that reads as data gives the walks.
-/
import Derived.Test.YtkekbobnbipmoaaOpen
import Derived.Test.YtkekbobnbipmoaaEnts
namespace Go.Proofs.Ytkekbobnbipmoaa
set_option maxRecDepth 100000
open Go.RowKit Go.ChangeShapes Go.WideShapes Go.Joins Wo Pu

/-- The lengths and numbers are what Go's are. -/
def Wide2 (os : List Op2) : Prop := ∀ o ∈ os, o.t.size ≤ maxLen ∧ -9223372036854775808 ≤ o.a ∧ o.a ≤ 9223372036854775807 ∧ -9223372036854775808 ≤ o.n ∧ o.n ≤ 9223372036854775807
def WideE (es : List Ent) : Prop := ∀ e ∈ es, e.zs.length ≤ maxLen ∧ e.ops.length ≤ maxLen ∧ Wide2 e.ops ∧ -9223372036854775808 ≤ e.b ∧ e.b ≤ 9223372036854775807
section
variable {H : Type} {enc : TypeId × Value → H} {w : World} {held : Bool}

theorem read_ops {fuel : Nat} {cs : List Value} {x : DataW H × List MemPlace} (hf : DataW.trod enc Try.prog w 0 (fun _ => true) held fuel 77 cs = some x) :
    ∃ (A : Option Addr) (c : Nat) (os : List Op2), cs = [.slice A os.length c] ∧ Row w w.heap.size A (opsV os) ∧ os.length ≤ maxLen ∧ Wide2 os := by
  rcases Deep.open_slice Try.underlying77 hf with ⟨hcs, _⟩ | ⟨a, len, cap, m, n, D, Pl, hcs, _, hl, hm, hmm, _, hel⟩
  · exact ⟨none, 0, [], hcs, .inl rfl, Nat.zero_le _, (fun o ho => by cases ho)⟩
  · simp only [if_true] at hmm
    have one : ∀ i, i < len → ∃ o : Op2, (∀ d u, (opV o)[d]? = some u → w.cell? (a.add (i * 3 + d)) = some u) ∧ o.t.size ≤ maxLen ∧ -9223372036854775808 ≤ o.a ∧ o.a ≤ 9223372036854775807 ∧ -9223372036854775808 ≤ o.n ∧ o.n ≤ 9223372036854775807 := fun i hi => by
      obtain ⟨cs', hc, ht⟩ := hel i (by omega)
      have hC : Try.prog.cellsOf 120 = 3 := by kernel_rfl
      rw [hC] at hc
      obtain ⟨_, hlen, hat⟩ := World.cells?_some hc
      match cs', hlen with
      | [c0, c1, c2], _ =>
        obtain ⟨y0, y1, y2, n', _, _, h0, h1, h2⟩ := Deep.trod_struct3 Try.underlying120 ht
        have k0 : Try.prog.cellsOf 3 = 1 := by kernel_rfl
        have k2 : Try.prog.cellsOf 9 = 1 := by kernel_rfl
        obtain ⟨x0, e0, _, w0⟩ := DataW.trod_int Try.underlying3 (show DataW.trod enc Try.prog w 0 (fun _ => true) held n' 3 [c0] = some y0 by simpa [k0] using h0)
        obtain ⟨x1, e1, _, w1⟩ := DataW.trod_int Try.underlying3 (show DataW.trod enc Try.prog w 0 (fun _ => true) held n' 3 [c1] = some y1 by simpa [k0] using h1)
        obtain ⟨s, e2, _, hs⟩ := DataW.trod_string Try.underlying9 (show DataW.trod enc Try.prog w 0 (fun _ => true) held n' 9 [c2] = some y2 by simpa [k2] using h2)
        have q0 := hat 0 (by omega)
        have q1 := hat 1 (by omega)
        have q2 := hat 2 (by omega)
        have f0 : c0 = .int .i64 x0 := by simpa using e0
        have f1 : c1 = .int .i64 x1 := by simpa using e1
        have f2 : c2 = .string s := by simpa using e2
        subst f0 f1 f2
        have b0 := bounds_i64 w0
        have b1 := bounds_i64 w1
        refine ⟨⟨x0, x1, s⟩, fun d u hu => ?_, hs, by show _ ≤ x0; omega, by show x0 ≤ _; omega, by show _ ≤ x1; omega, by show x1 ≤ _; omega⟩
        rw [← add_add]
        match d with
        | 0 => simp [opV] at hu; subst hu; exact q0
        | 1 => simp [opV] at hu; subst hu; exact q1
        | 2 => simp [opV] at hu; subst hu; exact q2
        | d + 3 => simp [opV] at hu
    have all : ∃ os : List Op2, os.length = len ∧ ∀ i (hi : i < os.length), (∀ d u, (opV os[i])[d]? = some u → w.cell? (a.add (i * 3 + d)) = some u) ∧ os[i].t.size ≤ maxLen ∧ -9223372036854775808 ≤ os[i].a ∧ os[i].a ≤ 9223372036854775807 ∧ -9223372036854775808 ≤ os[i].n ∧ os[i].n ≤ 9223372036854775807 := by
      refine ⟨(List.range len).map fun i => if h : i < len then (one i h).choose else ⟨0, 0, ⟨#[]⟩⟩, by simp, fun i hi => ?_⟩
      have hi' : i < len := by simpa using hi
      simp only [List.getElem_map, List.getElem_range, hi', dite_true]
      exact (one i hi').choose_spec
    obtain ⟨os, ho, hos⟩ := all
    refine ⟨some a, cap, os, by rw [ho]; exact hcs, ?_, by omega, fun o hmem => ?_⟩
    · rcases Nat.eq_zero_or_pos os.length with h0 | h0
      · rw [List.eq_nil_of_length_eq_zero h0]; exact .inl rfl
      · refine .inr ⟨a, rfl, ?_, fun j u hu => ?_⟩
        · have q := (hos 0 h0).1 0 _ rfl
          have := World.block_lt_of_cell? _ _ q
          rwa [add_block] at this
        · have hj : j < os.length * 3 := by
            rcases Nat.lt_or_ge j (os.length * 3) with h1 | h1
            · exact h1
            · rw [List.getElem?_eq_none (by rw [opsV_length]; exact h1)] at hu; cases hu
          have hd : j / 3 * 3 + j % 3 = j := by omega
          rw [← hd, opsV_get (by omega) (by omega)] at hu
          have := (hos (j / 3) (by omega)).1 _ u hu
          rwa [hd] at this
    · obtain ⟨i, hi, rfl⟩ := List.mem_iff_getElem.1 hmem
      exact (hos i hi).2

theorem trod_struct4 {P : Program} {base : Nat} {spare : Nat → Bool} {t : TypeId} {f0 f1 f2 f3 : Field} {fuel : Nat} {cs : List Value} {x : DataW H × List MemPlace} (ht : P.underlying t = some (.struct #[f0, f1, f2, f3])) (h : DataW.trod enc P w base spare held fuel t cs = some x) :
    ∃ y0 y1 y2 y3 n, cs.length = P.cellsOf t ∧ DataW.trod enc P w base spare held n f0.type ((cs.drop f0.offset).take (P.cellsOf f0.type)) = some y0 ∧
      DataW.trod enc P w base spare held n f1.type ((cs.drop f1.offset).take (P.cellsOf f1.type)) = some y1 ∧ DataW.trod enc P w base spare held n f2.type ((cs.drop f2.offset).take (P.cellsOf f2.type)) = some y2 ∧
      DataW.trod enc P w base spare held n f3.type ((cs.drop f3.offset).take (P.cellsOf f3.type)) = some y3 := by
  obtain ⟨xs, n, _, rfl, hl, hlen, hf⟩ := DataW.trod_struct ht h
  match xs, hlen with
  | [y0, y1, y2, y3], _ => exact ⟨y0, y1, y2, y3, n, hl, by simpa using hf 0 f0 rfl, by simpa using hf 1 f1 rfl, by simpa using hf 2 f2 rfl, by simpa using hf 3 f3 rfl⟩

/-- A list of entries. -/
theorem open_ents {base : Nat} {v : Value} {d : DataW H} {p : List MemPlace} (_hv : Value.okWide Try.prog w .any base 43 v) (h : DataW.Trod enc Try.prog w 0 (fun _ => true) held 43 v d p) :
    ∃ (A : Option Addr) (c : Nat) (es : List Ent), v = .slice A es.length c ∧ Ents w w.heap.size A es ∧ WideE es ∧ es.length ≤ maxLen := by
  obtain ⟨A0, n0, c0, rfl⟩ := okWide_slice Try.underlying43 _hv
  obtain ⟨fuel, hf⟩ := h
  rcases Deep.open_slice Try.underlying43 hf with ⟨hcs, _⟩ | ⟨a, len, cap, m, n, D, Pl, hcs, _, hl, hm, hmm, _, hel⟩
  · simp [Value.cells] at hcs
    obtain ⟨rfl, rfl, rfl⟩ := hcs
    exact ⟨none, 0, [], rfl, .inl rfl, (fun o ho => by cases ho), Nat.zero_le _⟩
  · simp only [Value.cells, List.cons.injEq, and_true] at hcs
    simp only [if_true] at hmm
    have one : ∀ i, i < len → ∃ e : Ent, EntAt w w.heap.size (a.add (i * 4)) e ∧ e.zs.length ≤ maxLen ∧ e.ops.length ≤ maxLen ∧ Wide2 e.ops ∧ -9223372036854775808 ≤ e.b ∧ e.b ≤ 9223372036854775807 := fun i hi => by
      obtain ⟨cs', hc, ht⟩ := hel i (by omega)
      have hC : Try.prog.cellsOf 79 = 4 := by kernel_rfl
      rw [hC] at hc
      obtain ⟨_, hlen, hat⟩ := World.cells?_some hc
      match cs', hlen with
      | [c0, c1, c2, c3], _ =>
        obtain ⟨y0, y1, y2, y3, n', _, h0, h1, h2, h3⟩ := trod_struct4 Try.underlying79 ht
        have k0 : Try.prog.cellsOf 3 = 1 := by kernel_rfl
        have k1 : Try.prog.cellsOf 30 = 1 := by kernel_rfl
        have k3 : Try.prog.cellsOf 77 = 1 := by kernel_rfl
        obtain ⟨kd, e0, _, _⟩ := DataW.trod_int Try.underlying3 (show DataW.trod enc Try.prog w 0 (fun _ => true) held n' 3 [c0] = some y0 by simpa [k0] using h0)
        obtain ⟨A, c, zs, e1, hr, hz, _⟩ := read_ints (show DataW.trod enc Try.prog w 0 (fun _ => true) held n' 30 [c1] = some y1 by simpa [k1] using h1)
        obtain ⟨b, e2, _, wb⟩ := DataW.trod_int Try.underlying3 (show DataW.trod enc Try.prog w 0 (fun _ => true) held n' 3 [c2] = some y2 by simpa [k0] using h2)
        obtain ⟨A', c', ops, e3, hr', hz', hw'⟩ := read_ops (show DataW.trod enc Try.prog w 0 (fun _ => true) held n' 77 [c3] = some y3 by simpa [k3] using h3)
        have q0 := hat 0 (by omega)
        have q1 := hat 1 (by omega)
        have q2 := hat 2 (by omega)
        have q3 := hat 3 (by omega)
        have f0 : c0 = .int .i64 kd := by simpa using e0
        have f1 : c1 = .slice A zs.length c := by simpa using e1
        have f2 : c2 = .int .i64 b := by simpa using e2
        have f3 : c3 = .slice A' ops.length c' := by simpa using e3
        subst f0 f1 f2 f3
        have bb := bounds_i64 wb
        exact ⟨⟨kd, zs, b, ops⟩, ⟨A, c, A', c', by rw [add_zero] at q0; exact q0, q1, q2, q3, hr, hr'⟩, hz, hz', hw', by show _ ≤ b; omega, by show b ≤ _; omega⟩
    have all : ∃ es : List Ent, es.length = len ∧ ∀ i (hi : i < es.length), EntAt w w.heap.size (a.add (i * 4)) es[i] ∧ es[i].zs.length ≤ maxLen ∧ es[i].ops.length ≤ maxLen ∧ Wide2 es[i].ops ∧ -9223372036854775808 ≤ es[i].b ∧ es[i].b ≤ 9223372036854775807 := by
      refine ⟨(List.range len).map fun i => if h : i < len then (one i h).choose else ⟨0, [], 0, []⟩, by simp, fun i hi => ?_⟩
      have hi' : i < len := by simpa using hi
      simp only [List.getElem_map, List.getElem_range, hi', dite_true]
      exact (one i hi').choose_spec
    obtain ⟨es, ho, hos⟩ := all
    refine ⟨some a, cap, es, by rw [ho]; exact hcs, ?_, fun o hmem => ?_, by omega⟩
    · rcases Nat.eq_zero_or_pos es.length with h0 | h0
      · exact .inl (List.eq_nil_of_length_eq_zero h0)
      · refine .inr ⟨a, rfl, ?_, fun i hi => (hos i hi).1⟩
        obtain ⟨_, _, _, _, q, _⟩ := (hos 0 h0).1
        have := World.block_lt_of_cell? _ _ q
        rwa [add_block] at this
    · obtain ⟨i, hi, rfl⟩ := List.mem_iff_getElem.1 hmem
      exact (hos i hi).2
end
end Go.Proofs.Ytkekbobnbipmoaa
