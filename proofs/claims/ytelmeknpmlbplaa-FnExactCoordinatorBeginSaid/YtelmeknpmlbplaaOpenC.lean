/-
  What a coordinator and parts that read as data give the walks.
-/
import Derived.Test.YtelmeknpmlbplaaG0C
import Derived.Test.YtelmeknpmlbplaaG2C
import Derived.Test.YtelmeknpmlbplaaG3C
import Derived.Test.YtelmeknpmlbplaaG5C
import Derived.Test.YtelmeknpmlbplaaG3D
import Derived.Test.YtelmeknpmlbplaaSizC
namespace Go.Proofs.Ytelmeknpmlbplaa
set_option maxRecDepth 100000
set_option linter.unusedVariables false
set_option linter.unusedSimpArgs false
open Go.RowKit Go.ChangeShapes Go.WideShapes Go.Joins Wo Pu Rf Co

section
variable {H : Type} {enc : TypeId × Value → H} {w : World} {held : Bool}

theorem read_ups {fuel : Nat} {cs : List Value} {x : DataW H × List MemPlace} (hf : DataW.trod enc Try.prog w 0 (fun _ => true) held fuel 102 cs = some x) :
    ∃ (A : Option Addr) (c : Nat) (us : List Up), cs = [.slice A us.length c] ∧ Row w w.heap.size A (upsV us) ∧ us.length ≤ maxLen ∧ us.length ≤ c := by
  rcases Deep.open_slice Try.underlying102 hf with ⟨hcs, _⟩ | ⟨a, len, cap, m, n, D, Pl, hcs, _, hl, hm, hmm, _, hel⟩
  · exact ⟨none, 0, [], hcs, .inl rfl, Nat.zero_le _, Nat.zero_le _⟩
  · simp only [if_true] at hmm
    have one : ∀ i, i < len → ∃ o : Up, ∀ d u, (upV o)[d]? = some u → w.cell? (a.add (i * 3 + d)) = some u := fun i hi => by
      obtain ⟨cs', hc, ht⟩ := hel i (by omega)
      have hC : Try.prog.cellsOf 146 = 3 := by kernel_rfl
      rw [hC] at hc
      obtain ⟨_, hlen, hat⟩ := World.cells?_some hc
      match cs', hlen with
      | [c0, c1, c2], _ =>
        obtain ⟨y0, y1, y2, n', _, _, h0, h1, h2⟩ := Deep.trod_struct3 Try.underlying146 ht
        have k0 : Try.prog.cellsOf 3 = 1 := by kernel_rfl
        obtain ⟨x0, e0, _, _⟩ := DataW.trod_int Try.underlying3 (show DataW.trod enc Try.prog w 0 (fun _ => true) held n' 3 [c0] = some y0 by simpa [k0] using h0)
        obtain ⟨x1, e1, _, _⟩ := DataW.trod_int Try.underlying3 (show DataW.trod enc Try.prog w 0 (fun _ => true) held n' 3 [c1] = some y1 by simpa [k0] using h1)
        obtain ⟨x2, e2, _, _⟩ := DataW.trod_int Try.underlying3 (show DataW.trod enc Try.prog w 0 (fun _ => true) held n' 3 [c2] = some y2 by simpa [k0] using h2)
        have q0 := hat 0 (by omega)
        have q1 := hat 1 (by omega)
        have q2 := hat 2 (by omega)
        have f0 : c0 = .int .i64 x0 := by simpa using e0
        have f1 : c1 = .int .i64 x1 := by simpa using e1
        have f2 : c2 = .int .i64 x2 := by simpa using e2
        subst f0 f1 f2
        refine ⟨⟨x0, x1, x2⟩, fun d u hu => ?_⟩
        rw [← add_add]
        match d with
        | 0 => simp [upV] at hu; subst hu; exact q0
        | 1 => simp [upV] at hu; subst hu; exact q1
        | 2 => simp [upV] at hu; subst hu; exact q2
        | d + 3 => simp [upV] at hu
    have all : ∃ us : List Up, us.length = len ∧ ∀ i (hi : i < us.length), ∀ d u, (upV us[i])[d]? = some u → w.cell? (a.add (i * 3 + d)) = some u := by
      refine ⟨(List.range len).map fun i => if h : i < len then (one i h).choose else ⟨0, 0, 0⟩, by simp, fun i hi => ?_⟩
      have hi' : i < len := by simpa using hi
      simp only [List.getElem_map, List.getElem_range, hi', dite_true]
      exact (one i hi').choose_spec
    obtain ⟨us, ho, hos⟩ := all
    refine ⟨some a, cap, us, by rw [ho]; exact hcs, ?_, by omega, by omega⟩
    rcases Nat.eq_zero_or_pos us.length with h0 | h0
    · rw [List.eq_nil_of_length_eq_zero h0]; exact .inl rfl
    · refine .inr ⟨a, rfl, ?_, fun j u hu => ?_⟩
      · have q := hos 0 h0 0 _ rfl
        have := World.block_lt_of_cell? _ _ q
        rwa [add_block] at this
      · have hj : j < us.length * 3 := by
          rcases Nat.lt_or_ge j (us.length * 3) with h1 | h1
          · exact h1
          · rw [List.getElem?_eq_none (by rw [upsV_length]; exact h1)] at hu; cases hu
        have hd : j / 3 * 3 + j % 3 = j := by omega
        rw [← hd, upsV_get (by omega) (by omega)] at hu
        have := hos (j / 3) (by omega) _ u hu
        rwa [hd] at this
theorem read_intsC {fuel : Nat} {cs : List Value} {x : DataW H × List MemPlace} (h : DataW.trod enc Try.prog w 0 (fun _ => true) held fuel 24 cs = some x) :
    ∃ (A : Option Addr) (c : Nat) (zs : List Int), cs = [.slice A zs.length c] ∧ Row w w.heap.size A (ints zs) ∧ zs.length ≤ maxLen ∧ zs.length ≤ c := by
  rcases open_ints Try.underlying24 Try.underlying3 (by kernel_rfl) h with ⟨hcs, _⟩ | ⟨a, len, cap, zs, hcs, _, hl, hm, hz, _, hcell, hwf⟩
  · exact ⟨none, 0, [], hcs, .inl rfl, Nat.zero_le _, Nat.zero_le _⟩
  · simp only [if_true] at hz
    have hlen : (zs.take len).length = len := by rw [List.length_take]; omega
    refine ⟨some a, cap, zs.take len, by rw [hlen]; exact hcs, ?_, by omega, by omega⟩
    have hr := row_of_cells (n := len) (f := fun i => .int .i64 (zs.getD i 0)) (fun i hi => hcell i (by omega))
    have e : ints (zs.take len) = (List.range len).map (fun i => Value.int .i64 (zs.getD i 0)) := by
      apply List.ext_getElem
      · rw [ints_length, hlen]; simp
      · intro i h1 h2
        simp at h2
        rw [ints_get _ _ (by rw [hlen]; exact h2)]
        simp [List.getD, List.getElem?_eq_getElem (show i < zs.length by omega)]
    rw [e]
    exact hr
theorem read_parts {fuel : Nat} {cs : List Value} {x : DataW H × List MemPlace} (hf : DataW.trod enc Try.prog w 0 (fun _ => true) held fuel 60 cs = some x) :
    ∃ (A : Option Addr) (c : Nat) (ps : List Part), cs = [.slice A ps.length c] ∧ Parts w w.heap.size A ps ∧ WideP ps ∧ ps.length ≤ c := by
  rcases Deep.open_slice Try.underlying60 hf with ⟨hcs, _⟩ | ⟨a, len, cap, m, n, D, Pl, hcs, _, hl, hm, hmm, _, hel⟩
  · exact ⟨none, 0, [], hcs, .inl rfl, ⟨Nat.zero_le _, fun o ho => by cases ho⟩, Nat.zero_le _⟩
  · simp only [if_true] at hmm
    have one : ∀ i, i < len → ∃ p : Part, PartAt w w.heap.size (a.add (i * 2)) p ∧ p.us.length ≤ maxLen := fun i hi => by
      obtain ⟨cs', hc, ht⟩ := hel i (by omega)
      have hC : Try.prog.cellsOf 104 = 2 := by kernel_rfl
      rw [hC] at hc
      obtain ⟨_, hlen, hat⟩ := World.cells?_some hc
      match cs', hlen with
      | [c0, c1], _ =>
        obtain ⟨y0, y1, n', _, _, h0, h1⟩ := trod_struct2 Try.underlying104 ht
        have k0 : Try.prog.cellsOf 3 = 1 := by kernel_rfl
        have k1 : Try.prog.cellsOf 102 = 1 := by kernel_rfl
        obtain ⟨s, e0, _, _⟩ := DataW.trod_int Try.underlying3 (show DataW.trod enc Try.prog w 0 (fun _ => true) held n' 3 [c0] = some y0 by simpa [k0] using h0)
        obtain ⟨A, c, us, e1, hr, hz, hz3⟩ := read_ups (show DataW.trod enc Try.prog w 0 (fun _ => true) held n' 102 [c1] = some y1 by simpa [k1] using h1)
        have q0 := hat 0 (by omega)
        have q1 := hat 1 (by omega)
        have f0 : c0 = .int .i64 s := by simpa using e0
        have f1 : c1 = .slice A us.length c := by simpa using e1
        subst f0 f1
        exact ⟨⟨s, us⟩, ⟨A, c, by rw [add_zero] at q0; exact q0, q1, hz3, hr⟩, hz⟩
    have all : ∃ ps : List Part, ps.length = len ∧ ∀ i (hi : i < ps.length), PartAt w w.heap.size (a.add (i * 2)) ps[i] ∧ ps[i].us.length ≤ maxLen := by
      refine ⟨(List.range len).map fun i => if h : i < len then (one i h).choose else ⟨0, []⟩, by simp, fun i hi => ?_⟩
      have hi' : i < len := by simpa using hi
      simp only [List.getElem_map, List.getElem_range, hi', dite_true]
      exact (one i hi').choose_spec
    obtain ⟨ps, ho, hps⟩ := all
    refine ⟨some a, cap, ps, by rw [ho]; exact hcs, ?_, ⟨by omega, fun o hmem => ?_⟩, by omega⟩
    · rcases Nat.eq_zero_or_pos ps.length with h0 | h0
      · exact .inl (List.eq_nil_of_length_eq_zero h0)
      · refine .inr ⟨a, rfl, ?_, fun i hi => (hps i hi).1⟩
        obtain ⟨_, _, q, _⟩ := (hps 0 h0).1
        have := World.block_lt_of_cell? _ _ q
        rwa [add_block] at this
    · obtain ⟨i, hi, rfl⟩ := List.mem_iff_getElem.1 hmem
      exact (hps i hi).2
theorem read_txs {fuel : Nat} {cs : List Value} {x : DataW H × List MemPlace} (hf : DataW.trod enc Try.prog w 0 (fun _ => true) held fuel 54 cs = some x) :
    ∃ (A : Option Addr) (c : Nat) (ts : List Tx), cs = [.slice A ts.length c] ∧ Txs w w.heap.size A ts ∧ WideT ts ∧ ts.length ≤ c := by
  rcases Deep.open_slice Try.underlying54 hf with ⟨hcs, _⟩ | ⟨a, len, cap, m, n, D, Pl, hcs, _, hl, hm, hmm, _, hel⟩
  · exact ⟨none, 0, [], hcs, .inl rfl, ⟨Nat.zero_le _, fun o ho => by cases ho⟩, Nat.zero_le _⟩
  · simp only [if_true] at hmm
    have one : ∀ i, i < len → ∃ t : Tx, TxAt w w.heap.size (a.add (i * 3)) t ∧ WideP t.ps ∧ t.vs.length ≤ maxLen := fun i hi => by
      obtain ⟨cs', hc, ht⟩ := hel i (by omega)
      have hC : Try.prog.cellsOf 131 = 3 := by kernel_rfl
      rw [hC] at hc
      obtain ⟨_, hlen, hat⟩ := World.cells?_some hc
      match cs', hlen with
      | [c0, c1, c2], _ =>
        obtain ⟨y0, y1, y2, n', _, _, h0, h1, h2⟩ := Deep.trod_struct3 Try.underlying131 ht
        have k0 : Try.prog.cellsOf 60 = 1 := by kernel_rfl
        have k1 : Try.prog.cellsOf 24 = 1 := by kernel_rfl
        have k2 : Try.prog.cellsOf 3 = 1 := by kernel_rfl
        obtain ⟨A, c, ps, e0, hr, hz, hz3⟩ := read_parts (show DataW.trod enc Try.prog w 0 (fun _ => true) held n' 60 [c0] = some y0 by simpa [k0] using h0)
        obtain ⟨A2, c2', vs, e1, hr2, hz2, hz4⟩ := read_intsC (show DataW.trod enc Try.prog w 0 (fun _ => true) held n' 24 [c1] = some y1 by simpa [k1] using h1)
        obtain ⟨d, e2, _, _⟩ := DataW.trod_int Try.underlying3 (show DataW.trod enc Try.prog w 0 (fun _ => true) held n' 3 [c2] = some y2 by simpa [k2] using h2)
        have q0 := hat 0 (by omega)
        have q1 := hat 1 (by omega)
        have q2 := hat 2 (by omega)
        have f0 : c0 = .slice A ps.length c := by simpa using e0
        have f1 : c1 = .slice A2 vs.length c2' := by simpa using e1
        have f2 : c2 = .int .i64 d := by simpa using e2
        subst f0 f1 f2
        exact ⟨⟨ps, vs, d⟩, ⟨A, c, A2, c2', by rw [add_zero] at q0; exact q0, q1, q2, hz3, hz4, hr, hr2⟩, hz, hz2⟩
    have all : ∃ ts : List Tx, ts.length = len ∧ ∀ i (hi : i < ts.length), TxAt w w.heap.size (a.add (i * 3)) ts[i] ∧ WideP ts[i].ps ∧ ts[i].vs.length ≤ maxLen := by
      refine ⟨(List.range len).map fun i => if h : i < len then (one i h).choose else ⟨[], [], 0⟩, by simp, fun i hi => ?_⟩
      have hi' : i < len := by simpa using hi
      simp only [List.getElem_map, List.getElem_range, hi', dite_true]
      exact (one i hi').choose_spec
    obtain ⟨ts, ho, hts⟩ := all
    refine ⟨some a, cap, ts, by rw [ho]; exact hcs, ?_, ⟨by omega, fun o hmem => ?_⟩, by omega⟩
    · rcases Nat.eq_zero_or_pos ts.length with h0 | h0
      · exact .inl (List.eq_nil_of_length_eq_zero h0)
      · refine .inr ⟨a, rfl, ?_, fun i hi => (hts i hi).1⟩
        obtain ⟨_, _, _, _, q, _⟩ := (hts 0 h0).1
        have := World.block_lt_of_cell? _ _ q
        rwa [add_block] at this
    · obtain ⟨i, hi, rfl⟩ := List.mem_iff_getElem.1 hmem
      exact (hts i hi).2
/-- A coordinator. -/
theorem open_coord {base : Nat} {v : Value} {d : DataW H} {p : List MemPlace} (hv : Value.okWide Try.prog w .any base 56 v) (h : DataW.Trod enc Try.prog w 0 (fun _ => true) held 56 v d p) :
    ∃ q : Crd, Crdd w w.heap.size v q ∧ WideC q := by
  obtain ⟨c0, c1, y0, y1, m, rfl, rfl, rfl, h0, h1⟩ := open_agg2 Try.underlying56 (by kernel_rfl) (by kernel_rfl) hv h
  obtain ⟨A, c, ts, e0, hr, hf, hc⟩ := read_txs h0
  obtain ⟨A2, c2, zs, e1, hr2, hf2, hc2⟩ := read_intsC h1
  obtain rfl : c0 = .slice A ts.length c := by injection e0
  obtain rfl : c1 = .slice A2 zs.length c2 := by injection e1
  exact ⟨⟨ts, zs⟩, ⟨A, c, A2, c2, rfl, hr, hc, hr2, hc2⟩, hf, hf2⟩
/-- Parts. -/
theorem open_parts {base : Nat} {v : Value} {d : DataW H} {p : List MemPlace} (_hv : Value.okWide Try.prog w .any base 60 v) (h : DataW.Trod enc Try.prog w 0 (fun _ => true) held 60 v d p) :
    ∃ (A : Option Addr) (c : Nat) (ps : List Part), v = .slice A ps.length c ∧ Parts w w.heap.size A ps ∧ WideP ps := by
  obtain ⟨A0, n0, c0, rfl⟩ := okWide_slice Try.underlying60 _hv
  obtain ⟨fuel, hf⟩ := h
  obtain ⟨A, c, ps, e, hr, hm, _⟩ := read_parts hf
  refine ⟨A, c, ps, ?_, hr, hm⟩
  simpa [Value.cells] using e
end
end Go.Proofs.Ytelmeknpmlbplaa
