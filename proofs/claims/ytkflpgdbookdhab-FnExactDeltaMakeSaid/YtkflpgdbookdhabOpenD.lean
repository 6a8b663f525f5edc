/-
  What an argument that reads as data gives the walks: codes, texts, lists of operations.
-/
import Derived.Test.YtkflpgdbookdhabOps
import Derived.ProofKit
import Derived.Lib.SmallJoins
import Derived.Deep.Slices
import Derived.Deep.Strs
import Derived.OpenShut
import Derived.ChangeMaps5
namespace Go.Proofs.Ytkflpgdbookdhab
open Go.RowKit Go.ChangeShapes Go.WideShapes Go.Joins Wo Pu

section
variable {H : Type} {enc : TypeId × Value → H} {w : World} {held : Bool}

theorem row_of_cells {w : World} {a : Addr} {n : Nat} {f : Nat → Value} (h : ∀ i, i < n → w.cell? (a.add i) = some (f i)) : Row w w.heap.size (some a) ((List.range n).map f) := by
  rcases Nat.eq_zero_or_pos n with h0 | h0
  · subst h0
    exact .inl rfl
  · refine .inr ⟨a, rfl, ?_, fun j v hv => ?_⟩
    · have := World.block_lt_of_cell? _ _ (h 0 h0)
      rwa [add_block] at this
    · rw [List.getElem?_map] at hv
      rcases Nat.lt_or_ge j n with hj | hj
      · rw [List.getElem?_range hj] at hv
        rw [h j hj]
        exact hv
      · rw [List.getElem?_eq_none (by simpa using hj)] at hv
        cases hv

theorem read_bytes {fuel : Nat} {cs : List Value} {x : DataW H × List MemPlace} (h : DataW.trod enc Try.prog w 0 (fun _ => true) held fuel 22 cs = some x) :
    ∃ (A : Option Addr) (c : Nat) (bs : List Int), cs = [.slice A bs.length c] ∧ Row w w.heap.size A (bs.map (Value.int .u8)) ∧ bs.length ≤ c ∧ c ≤ maxLen ∧ ∀ n ∈ bs, 0 ≤ n ∧ n < 256 := by
  rcases open_ints Try.underlying22 Try.underlying5 (by kernel_rfl) h with ⟨hcs, _⟩ | ⟨a, len, cap, zs, hcs, _, hl, hm, hz, _, hcell, hwf⟩
  · exact ⟨none, 0, [], hcs, .inl rfl, Nat.zero_le _, Nat.zero_le _, fun z hz => by cases hz⟩
  · simp only [if_true] at hz
    have hlen : (zs.take len).length = len := by rw [List.length_take]; omega
    refine ⟨some a, cap, zs.take len, by rw [hlen]; exact hcs, ?_, by omega, hm, fun z hz => ?_⟩
    · have hr := row_of_cells (n := len) (f := fun i => .int .u8 (zs.getD i 0)) (fun i hi => hcell i (by omega))
      have e : (zs.take len).map (Value.int .u8) = (List.range len).map (fun i => Value.int .u8 (zs.getD i 0)) := by
        apply List.ext_getElem
        · rw [List.length_map, hlen]; simp
        · intro i h1 h2
          simp at h2
          simp [List.getD, List.getElem?_eq_getElem (show i < zs.length by omega)]
      rw [e]
      exact hr
    · have hw := hwf z (List.mem_of_mem_take hz)
      have hb := bounds_u8 hw
      omega

/-- A slice of bytes. -/
theorem open_bytes {base : Nat} {v : Value} {d : DataW H} {p : List MemPlace} (_hv : Value.okWide Try.prog w .any base 22 v) (h : DataW.Trod enc Try.prog w 0 (fun _ => true) held 22 v d p) :
    ∃ (A : Option Addr) (c : Nat) (bs : List Int), v = .slice A bs.length c ∧ Row w w.heap.size A (bs.map (Value.int .u8)) ∧ bs.length ≤ c ∧ c ≤ maxLen ∧ ∀ n ∈ bs, 0 ≤ n ∧ n < 256 := by
  obtain ⟨A0, n0, c0, rfl⟩ := okWide_slice Try.underlying22 _hv
  obtain ⟨fuel, hf⟩ := h
  obtain ⟨A, c, bs, e, h1⟩ := read_bytes hf
  refine ⟨A, c, bs, ?_, h1⟩
  simpa [Value.cells] using e

/-- A text. -/
theorem open_str {base : Nat} {v : Value} {d : DataW H} {p : List MemPlace} (hv : Value.okWide Try.prog w .any base 9 v) (h : DataW.Trod enc Try.prog w 0 (fun _ => true) held 9 v d p) :
    ∃ s : ByteArray, v = .string s ∧ s.size ≤ maxLen := by
  obtain ⟨s, h1, _, _, h2⟩ := Go.ChangeMaps.open_string Try.underlying9 hv h
  exact ⟨s, h1, h2⟩

/-- The lengths and numbers are what Go's are. -/
def Wide2 (os : List Op2) : Prop := ∀ o ∈ os, o.t.size ≤ maxLen ∧ -9223372036854775808 ≤ o.a ∧ o.a ≤ 9223372036854775807 ∧ -9223372036854775808 ≤ o.n ∧ o.n ≤ 9223372036854775807
/-- A list of operations. -/
theorem open_ops {base : Nat} {v : Value} {d : DataW H} {p : List MemPlace} (_hv : Value.okWide Try.prog w .any base 38 v) (h : DataW.Trod enc Try.prog w 0 (fun _ => true) held 38 v d p) :
    ∃ (A : Option Addr) (c : Nat) (os : List Op2), v = .slice A os.length c ∧ Row w w.heap.size A (opsV os) ∧ Wide2 os ∧ os.length ≤ maxLen := by
  obtain ⟨A0, n0, c0, rfl⟩ := okWide_slice Try.underlying38 _hv
  obtain ⟨fuel, hf⟩ := h
  rcases Deep.open_slice Try.underlying38 hf with ⟨hcs, _⟩ | ⟨a, len, cap, m, n, D, Pl, hcs, _, hl, hm, hmm, _, hel⟩
  · simp [Value.cells] at hcs
    obtain ⟨rfl, rfl, rfl⟩ := hcs
    exact ⟨none, 0, [], rfl, .inl rfl, (fun o ho => by cases ho), Nat.zero_le _⟩
  · simp only [Value.cells, List.cons.injEq, and_true] at hcs
    simp only [if_true] at hmm
    have one : ∀ i, i < len → ∃ o : Op2, (∀ d u, (opV o)[d]? = some u → w.cell? (a.add (i * 3 + d)) = some u) ∧ o.t.size ≤ maxLen ∧ -9223372036854775808 ≤ o.a ∧ o.a ≤ 9223372036854775807 ∧ -9223372036854775808 ≤ o.n ∧ o.n ≤ 9223372036854775807 := fun i hi => by
      obtain ⟨cs', hc, ht⟩ := hel i (by omega)
      have hC : Try.prog.cellsOf 62 = 3 := by kernel_rfl
      rw [hC] at hc
      obtain ⟨_, hlen, hat⟩ := World.cells?_some hc
      match cs', hlen with
      | [c0, c1, c2], _ =>
        obtain ⟨y0, y1, y2, n', _, _, h0, h1, h2⟩ := Deep.trod_struct3 Try.underlying62 ht
        have k0 : Try.prog.cellsOf 3 = 1 := by kernel_rfl
        have k2 : Try.prog.cellsOf 9 = 1 := by kernel_rfl
        obtain ⟨x0, e0, _, w0⟩ := DataW.trod_int Try.underlying3 (show DataW.trod enc Try.prog w 0 (fun _ => true) held n' 3 [c0] = some y0 by simpa [k0] using h0)
        obtain ⟨x1, e1, _, w1⟩ := DataW.trod_int Try.underlying3 (show DataW.trod enc Try.prog w 0 (fun _ => true) held n' 3 [c1] = some y1 by simpa [k0] using h1)
        obtain ⟨s, e2, _, hs⟩ := DataW.trod_string Try.underlying9 (show DataW.trod enc Try.prog w 0 (fun _ => true) held n' 9 [c2] = some y2 by simpa [k2] using h2)
        have q0 := hat 0 (by omega)
        have q1 := hat 1 (by omega)
        have q2 := hat 2 (by omega)
        have f0 : c0 = .int .i64 x0 := by simpa using e0
        have f1 : c1 = .int .i64 x1 := by simpa using e1
        have f2 : c2 = .string s := by simpa using e2
        subst f0 f1 f2
        have b0 := bounds_i64 w0
        have b1 := bounds_i64 w1
        refine ⟨⟨x0, x1, s⟩, fun d u hu => ?_, hs, by show _ ≤ x0; omega, by show x0 ≤ _; omega, by show _ ≤ x1; omega, by show x1 ≤ _; omega⟩
        rw [← add_add]
        match d with
        | 0 => simp [opV] at hu; subst hu; exact q0
        | 1 => simp [opV] at hu; subst hu; exact q1
        | 2 => simp [opV] at hu; subst hu; exact q2
        | d + 3 => simp [opV] at hu
    have all : ∃ os : List Op2, os.length = len ∧ ∀ i (hi : i < os.length), (∀ d u, (opV os[i])[d]? = some u → w.cell? (a.add (i * 3 + d)) = some u) ∧ os[i].t.size ≤ maxLen ∧ -9223372036854775808 ≤ os[i].a ∧ os[i].a ≤ 9223372036854775807 ∧ -9223372036854775808 ≤ os[i].n ∧ os[i].n ≤ 9223372036854775807 := by
      refine ⟨(List.range len).map fun i => if h : i < len then (one i h).choose else ⟨0, 0, ⟨#[]⟩⟩, by simp, fun i hi => ?_⟩
      have hi' : i < len := by simpa using hi
      simp only [List.getElem_map, List.getElem_range, hi', dite_true]
      exact (one i hi').choose_spec
    obtain ⟨os, ho, hos⟩ := all
    refine ⟨some a, cap, os, by rw [ho]; exact hcs, ?_, fun o hmem => ?_, by omega⟩
    · rcases Nat.eq_zero_or_pos os.length with h0 | h0
      · rw [List.eq_nil_of_length_eq_zero h0]; exact .inl rfl
      · refine .inr ⟨a, rfl, ?_, fun j u hu => ?_⟩
        · have q := (hos 0 h0).1 0 _ rfl
          have := World.block_lt_of_cell? _ _ q
          rwa [add_block] at this
        · have hj : j < os.length * 3 := by
            rcases Nat.lt_or_ge j (os.length * 3) with h1 | h1
            · exact h1
            · rw [List.getElem?_eq_none (by rw [opsV_length]; exact h1)] at hu; cases hu
          have hd : j / 3 * 3 + j % 3 = j := by omega
          rw [← hd, opsV_get (by omega) (by omega)] at hu
          have := (hos (j / 3) (by omega)).1 _ u hu
          rwa [hd] at this
    · obtain ⟨i, hi, rfl⟩ := List.mem_iff_getElem.1 hmem
      exact (hos i hi).2
end
end Go.Proofs.Ytkflpgdbookdhab
