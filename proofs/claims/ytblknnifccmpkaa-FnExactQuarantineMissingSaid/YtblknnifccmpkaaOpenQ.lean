/-
  What a quarantine that reads as data gives the walks.
-/
import Derived.Test.YtblknnifccmpkaaG3C
import Derived.Test.YtblknnifccmpkaaLawEQu1
namespace Go.Proofs.Ytblknnifccmpkaa
set_option maxRecDepth 100000
open Go.RowKit Go.ChangeShapes Go.WideShapes Go.Joins Wo Pu Qu

section
variable {H : Type} {enc : TypeId × Value → H} {w : World} {held : Bool}

theorem read_objs {fuel : Nat} {cs : List Value} {x : DataW H × List MemPlace} (hf : DataW.trod enc Try.prog w 0 (fun _ => true) held fuel 55 cs = some x) :
    ∃ (A : Option Addr) (c : Nat) (os : List Ob), cs = [.slice A os.length c] ∧ Objs w w.heap.size A os ∧ Fit os ∧ os.length ≤ maxLen ∧ os.length ≤ c := by
  rcases Deep.open_slice Try.underlying55 hf with ⟨hcs, _⟩ | ⟨a, len, cap, m, n, D, Pl, hcs, _, hl, hm, hmm, _, hel⟩
  · exact ⟨none, 0, [], hcs, .inl rfl, (fun o ho => by cases ho), Nat.zero_le _, Nat.zero_le _⟩
  · simp only [if_true] at hmm
    have one : ∀ i, i < len → ∃ o : Ob, ObAt w w.heap.size (a.add (i * 3)) o ∧ o.zs.length ≤ maxLen ∧ o.s.size ≤ maxLen := fun i hi => by
      obtain ⟨cs', hc, ht⟩ := hel i (by omega)
      have hC : Try.prog.cellsOf 103 = 3 := by kernel_rfl
      rw [hC] at hc
      obtain ⟨_, hlen, hat⟩ := World.cells?_some hc
      match cs', hlen with
      | [c0, c1, c2], _ =>
        obtain ⟨y0, y1, y2, n', _, _, h0, h1, h2⟩ := Deep.trod_struct3 Try.underlying103 ht
        have k0 : Try.prog.cellsOf 3 = 1 := by kernel_rfl
        have k1 : Try.prog.cellsOf 36 = 1 := by kernel_rfl
        have k2 : Try.prog.cellsOf 9 = 1 := by kernel_rfl
        obtain ⟨kd, e0, _, _⟩ := DataW.trod_int Try.underlying3 (show DataW.trod enc Try.prog w 0 (fun _ => true) held n' 3 [c0] = some y0 by simpa [k0] using h0)
        obtain ⟨A, c, zs, e1, hr, hz, _⟩ := read_ints (show DataW.trod enc Try.prog w 0 (fun _ => true) held n' 36 [c1] = some y1 by simpa [k1] using h1)
        obtain ⟨s, e2, _, hs⟩ := DataW.trod_string Try.underlying9 (show DataW.trod enc Try.prog w 0 (fun _ => true) held n' 9 [c2] = some y2 by simpa [k2] using h2)
        have q0 := hat 0 (by omega)
        have q1 := hat 1 (by omega)
        have q2 := hat 2 (by omega)
        have f0 : c0 = .int .i64 kd := by simpa using e0
        have f1 : c1 = .slice A zs.length c := by simpa using e1
        have f2 : c2 = .string s := by simpa using e2
        subst f0 f1 f2
        exact ⟨⟨kd, zs, s⟩, ⟨A, c, by rw [add_zero] at q0; exact q0, q1, q2, hr⟩, hz, hs⟩
    have all : ∃ os : List Ob, os.length = len ∧ ∀ i (hi : i < os.length), ObAt w w.heap.size (a.add (i * 3)) os[i] ∧ os[i].zs.length ≤ maxLen ∧ os[i].s.size ≤ maxLen := by
      refine ⟨(List.range len).map fun i => if h : i < len then (one i h).choose else ⟨0, [], ⟨#[]⟩⟩, by simp, fun i hi => ?_⟩
      have hi' : i < len := by simpa using hi
      simp only [List.getElem_map, List.getElem_range, hi', dite_true]
      exact (one i hi').choose_spec
    obtain ⟨os, ho, hos⟩ := all
    refine ⟨some a, cap, os, by rw [ho]; exact hcs, ?_, fun o hmem => ?_, by omega, by omega⟩
    · rcases Nat.eq_zero_or_pos os.length with h0 | h0
      · exact .inl (List.eq_nil_of_length_eq_zero h0)
      · refine .inr ⟨a, rfl, ?_, fun i hi => (hos i hi).1⟩
        obtain ⟨_, _, q, _⟩ := (hos 0 h0).1
        have := World.block_lt_of_cell? _ _ q
        rwa [add_block] at this
    · obtain ⟨i, hi, rfl⟩ := List.mem_iff_getElem.1 hmem
      exact (hos i hi).2
theorem read_areas {fuel : Nat} {cs : List Value} {x : DataW H × List MemPlace} (hf : DataW.trod enc Try.prog w 0 (fun _ => true) held fuel 56 cs = some x) :
    ∃ (A : Option Addr) (c : Nat) (rs : List Ar), cs = [.slice A rs.length c] ∧ Ars w w.heap.size A rs ∧ FitA rs ∧ rs.length ≤ maxLen ∧ rs.length ≤ c := by
  rcases Deep.open_slice Try.underlying56 hf with ⟨hcs, _⟩ | ⟨a, len, cap, m, n, D, Pl, hcs, _, hl, hm, hmm, _, hel⟩
  · exact ⟨none, 0, [], hcs, .inl rfl, (fun o ho => by cases ho), Nat.zero_le _, Nat.zero_le _⟩
  · simp only [if_true] at hmm
    have one : ∀ i, i < len → ∃ r : Ar, ArAt w w.heap.size (a.add (i * 2)) r ∧ Fit r.os ∧ r.os.length ≤ maxLen := fun i hi => by
      obtain ⟨cs', hc, ht⟩ := hel i (by omega)
      have hC : Try.prog.cellsOf 121 = 2 := by kernel_rfl
      rw [hC] at hc
      obtain ⟨_, hlen, hat⟩ := World.cells?_some hc
      match cs', hlen with
      | [c0, c1], _ =>
        obtain ⟨y0, y1, n', _, _, h0, h1⟩ := trod_struct2 Try.underlying121 ht
        have k0 : Try.prog.cellsOf 3 = 1 := by kernel_rfl
        have k1 : Try.prog.cellsOf 55 = 1 := by kernel_rfl
        obtain ⟨t, e0, _, _⟩ := DataW.trod_int Try.underlying3 (show DataW.trod enc Try.prog w 0 (fun _ => true) held n' 3 [c0] = some y0 by simpa [k0] using h0)
        obtain ⟨A, c, os, e1, hr, hz, hz2, hz3⟩ := read_objs (show DataW.trod enc Try.prog w 0 (fun _ => true) held n' 55 [c1] = some y1 by simpa [k1] using h1)
        have q0 := hat 0 (by omega)
        have q1 := hat 1 (by omega)
        have f0 : c0 = .int .i64 t := by simpa using e0
        have f1 : c1 = .slice A os.length c := by simpa using e1
        subst f0 f1
        exact ⟨⟨t, os⟩, ⟨A, c, by rw [add_zero] at q0; exact q0, q1, hz3, hr⟩, hz, hz2⟩
    have all : ∃ rs : List Ar, rs.length = len ∧ ∀ i (hi : i < rs.length), ArAt w w.heap.size (a.add (i * 2)) rs[i] ∧ Fit rs[i].os ∧ rs[i].os.length ≤ maxLen := by
      refine ⟨(List.range len).map fun i => if h : i < len then (one i h).choose else ⟨0, []⟩, by simp, fun i hi => ?_⟩
      have hi' : i < len := by simpa using hi
      simp only [List.getElem_map, List.getElem_range, hi', dite_true]
      exact (one i hi').choose_spec
    obtain ⟨rs, ho, hrs⟩ := all
    refine ⟨some a, cap, rs, by rw [ho]; exact hcs, ?_, fun o hmem => ?_, by omega, by omega⟩
    · rcases Nat.eq_zero_or_pos rs.length with h0 | h0
      · exact .inl (List.eq_nil_of_length_eq_zero h0)
      · refine .inr ⟨a, rfl, ?_, fun i hi => (hrs i hi).1⟩
        obtain ⟨_, _, q, _⟩ := (hrs 0 h0).1
        have := World.block_lt_of_cell? _ _ q
        rwa [add_block] at this
    · obtain ⟨i, hi, rfl⟩ := List.mem_iff_getElem.1 hmem
      exact (hrs i hi).2
/-- A quarantine. -/
theorem open_quar {base : Nat} {v : Value} {d : DataW H} {p : List MemPlace} (hv : Value.okWide Try.prog w .any base 58 v) (h : DataW.Trod enc Try.prog w 0 (fun _ => true) held 58 v d p) :
    ∃ q : Qr, Quar w w.heap.size v q ∧ WideQ q := by
  obtain ⟨c0, c1, y0, y1, m, rfl, rfl, rfl, h0, h1⟩ := open_agg2 Try.underlying58 (by kernel_rfl) (by kernel_rfl) hv h
  obtain ⟨A, c, os, e0, ho, hf, hn, hc⟩ := read_objs h0
  obtain ⟨A2, c2, rs, e1, hr, hf2, hn2, hc2⟩ := read_areas h1
  obtain rfl : c0 = .slice A os.length c := by injection e0
  obtain rfl : c1 = .slice A2 rs.length c2 := by injection e1
  exact ⟨⟨os, rs⟩, ⟨A, c, A2, c2, rfl, ho, hc, hr, hc2⟩, hf, hn, hf2, hn2⟩
end
end Go.Proofs.Ytblknnifccmpkaa
