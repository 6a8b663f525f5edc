/-
  What a shard that reads as data gives the walks.
-/
import Derived.Test.YteeffchnbkkpfabDoorG1C
namespace Go.Proofs.YteeffchnbkkpfabDoor
set_option maxRecDepth 100000
open Go.RowKit Go.ChangeShapes Go.WideShapes Go.Joins Wo Pu Rf Lk Sh

section
variable {H : Type} {enc : TypeId × Value → H} {w : World} {held : Bool}

theorem read_ups {fuel : Nat} {cs : List Value} {x : DataW H × List MemPlace} (hf : DataW.trod enc Tryd.prog w 0 (fun _ => true) held fuel 60 cs = some x) :
    ∃ (A : Option Addr) (c : Nat) (us : List Up), cs = [.slice A us.length c] ∧ Row w w.heap.size A (upsV us) ∧ us.length ≤ maxLen ∧ us.length ≤ c := by
  rcases Deep.open_slice Tryd.underlying60 hf with ⟨hcs, _⟩ | ⟨a, len, cap, m, n, D, Pl, hcs, _, hl, hm, hmm, _, hel⟩
  · exact ⟨none, 0, [], hcs, .inl rfl, Nat.zero_le _, Nat.zero_le _⟩
  · simp only [if_true] at hmm
    have one : ∀ i, i < len → ∃ o : Up, ∀ d u, (upV o)[d]? = some u → w.cell? (a.add (i * 3 + d)) = some u := fun i hi => by
      obtain ⟨cs', hc, ht⟩ := hel i (by omega)
      have hC : Tryd.prog.cellsOf 102 = 3 := by kernel_rfl
      rw [hC] at hc
      obtain ⟨_, hlen, hat⟩ := World.cells?_some hc
      match cs', hlen with
      | [c0, c1, c2], _ =>
        obtain ⟨y0, y1, y2, n', _, _, h0, h1, h2⟩ := Deep.trod_struct3 Tryd.underlying102 ht
        have k0 : Tryd.prog.cellsOf 3 = 1 := by kernel_rfl
        obtain ⟨x0, e0, _, _⟩ := DataW.trod_int Tryd.underlying3 (show DataW.trod enc Tryd.prog w 0 (fun _ => true) held n' 3 [c0] = some y0 by simpa [k0] using h0)
        obtain ⟨x1, e1, _, _⟩ := DataW.trod_int Tryd.underlying3 (show DataW.trod enc Tryd.prog w 0 (fun _ => true) held n' 3 [c1] = some y1 by simpa [k0] using h1)
        obtain ⟨x2, e2, _, _⟩ := DataW.trod_int Tryd.underlying3 (show DataW.trod enc Tryd.prog w 0 (fun _ => true) held n' 3 [c2] = some y2 by simpa [k0] using h2)
        have q0 := hat 0 (by omega)
        have q1 := hat 1 (by omega)
        have q2 := hat 2 (by omega)
        have f0 : c0 = .int .i64 x0 := by simpa using e0
        have f1 : c1 = .int .i64 x1 := by simpa using e1
        have f2 : c2 = .int .i64 x2 := by simpa using e2
        subst f0 f1 f2
        refine ⟨⟨x0, x1, x2⟩, fun d u hu => ?_⟩
        rw [← add_add]
        match d with
        | 0 => simp [upV] at hu; subst hu; exact q0
        | 1 => simp [upV] at hu; subst hu; exact q1
        | 2 => simp [upV] at hu; subst hu; exact q2
        | d + 3 => simp [upV] at hu
    have all : ∃ us : List Up, us.length = len ∧ ∀ i (hi : i < us.length), ∀ d u, (upV us[i])[d]? = some u → w.cell? (a.add (i * 3 + d)) = some u := by
      refine ⟨(List.range len).map fun i => if h : i < len then (one i h).choose else ⟨0, 0, 0⟩, by simp, fun i hi => ?_⟩
      have hi' : i < len := by simpa using hi
      simp only [List.getElem_map, List.getElem_range, hi', dite_true]
      exact (one i hi').choose_spec
    obtain ⟨us, ho, hos⟩ := all
    refine ⟨some a, cap, us, by rw [ho]; exact hcs, ?_, by omega, by omega⟩
    rcases Nat.eq_zero_or_pos us.length with h0 | h0
    · rw [List.eq_nil_of_length_eq_zero h0]; exact .inl rfl
    · refine .inr ⟨a, rfl, ?_, fun j u hu => ?_⟩
      · have q := hos 0 h0 0 _ rfl
        have := World.block_lt_of_cell? _ _ q
        rwa [add_block] at this
      · have hj : j < us.length * 3 := by
          rcases Nat.lt_or_ge j (us.length * 3) with h1 | h1
          · exact h1
          · rw [List.getElem?_eq_none (by rw [upsV_length]; exact h1)] at hu; cases hu
        have hd : j / 3 * 3 + j % 3 = j := by omega
        rw [← hd, upsV_get (by omega) (by omega)] at hu
        have := hos (j / 3) (by omega) _ u hu
        rwa [hd] at this
/-- Sizes that memory can bear. -/
def WideR (rs : List Rec) : Prop := rs.length ≤ maxLen ∧ ∀ r ∈ rs, r.us.length ≤ maxLen
theorem read_recs {fuel : Nat} {cs : List Value} {x : DataW H × List MemPlace} (hf : DataW.trod enc Tryd.prog w 0 (fun _ => true) held fuel 52 cs = some x) :
    ∃ (A : Option Addr) (c : Nat) (rs : List Rec), cs = [.slice A rs.length c] ∧ Recs w w.heap.size A rs ∧ WideR rs ∧ rs.length ≤ c := by
  rcases Deep.open_slice Tryd.underlying52 hf with ⟨hcs, _⟩ | ⟨a, len, cap, m, n, D, Pl, hcs, _, hl, hm, hmm, _, hel⟩
  · exact ⟨none, 0, [], hcs, .inl rfl, ⟨Nat.zero_le _, fun o ho => by cases ho⟩, Nat.zero_le _⟩
  · simp only [if_true] at hmm
    have one : ∀ i, i < len → ∃ r : Rec, RecAt w w.heap.size (a.add (i * 3)) r ∧ r.us.length ≤ maxLen := fun i hi => by
      obtain ⟨cs', hc, ht⟩ := hel i (by omega)
      have hC : Tryd.prog.cellsOf 119 = 3 := by kernel_rfl
      rw [hC] at hc
      obtain ⟨_, hlen, hat⟩ := World.cells?_some hc
      match cs', hlen with
      | [c0, c1, c2], _ =>
        obtain ⟨y0, y1, y2, n', _, _, h0, h1, h2⟩ := Deep.trod_struct3 Tryd.underlying119 ht
        have k0 : Tryd.prog.cellsOf 3 = 1 := by kernel_rfl
        have k2 : Tryd.prog.cellsOf 60 = 1 := by kernel_rfl
        obtain ⟨x0, e0, _, _⟩ := DataW.trod_int Tryd.underlying3 (show DataW.trod enc Tryd.prog w 0 (fun _ => true) held n' 3 [c0] = some y0 by simpa [k0] using h0)
        obtain ⟨x1, e1, _, _⟩ := DataW.trod_int Tryd.underlying3 (show DataW.trod enc Tryd.prog w 0 (fun _ => true) held n' 3 [c1] = some y1 by simpa [k0] using h1)
        obtain ⟨A, c, us, e2, hr, hz, hz3⟩ := read_ups (show DataW.trod enc Tryd.prog w 0 (fun _ => true) held n' 60 [c2] = some y2 by simpa [k2] using h2)
        have q0 := hat 0 (by omega)
        have q1 := hat 1 (by omega)
        have q2 := hat 2 (by omega)
        have f0 : c0 = .int .i64 x0 := by simpa using e0
        have f1 : c1 = .int .i64 x1 := by simpa using e1
        have f2 : c2 = .slice A us.length c := by simpa using e2
        subst f0 f1 f2
        exact ⟨⟨x0, x1, us⟩, ⟨A, c, by rw [add_zero] at q0; exact q0, q1, q2, hz3, hr⟩, hz⟩
    have all : ∃ rs : List Rec, rs.length = len ∧ ∀ i (hi : i < rs.length), RecAt w w.heap.size (a.add (i * 3)) rs[i] ∧ rs[i].us.length ≤ maxLen := by
      refine ⟨(List.range len).map fun i => if h : i < len then (one i h).choose else ⟨0, 0, []⟩, by simp, fun i hi => ?_⟩
      have hi' : i < len := by simpa using hi
      simp only [List.getElem_map, List.getElem_range, hi', dite_true]
      exact (one i hi').choose_spec
    obtain ⟨rs, ho, hrs⟩ := all
    refine ⟨some a, cap, rs, by rw [ho]; exact hcs, ?_, ⟨by omega, fun o hmem => ?_⟩, by omega⟩
    · rcases Nat.eq_zero_or_pos rs.length with h0 | h0
      · exact .inl (List.eq_nil_of_length_eq_zero h0)
      · refine .inr ⟨a, rfl, ?_, fun i hi => (hrs i hi).1⟩
        obtain ⟨_, _, q, _⟩ := (hrs 0 h0).1
        have := World.block_lt_of_cell? _ _ q
        rwa [add_block] at this
    · obtain ⟨i, hi, rfl⟩ := List.mem_iff_getElem.1 hmem
      exact (hrs i hi).2
/-- A shard. -/
theorem open_shard {base : Nat} {v : Value} {d : DataW H} {p : List MemPlace} (hv : Value.okWide Tryd.prog w .any base 54 v) (h : DataW.Trod enc Tryd.prog w 0 (fun _ => true) held 54 v d p) :
    ∃ rs : List Rec, Shd w w.heap.size v rs ∧ WideR rs := by
  obtain ⟨cs, rfl, hsz⟩ := okWide_struct Tryd.underlying54 hv
  have hC : Tryd.prog.cellsOf 54 = 1 := by kernel_rfl
  obtain ⟨c0, rfl⟩ : ∃ c0, cs = #[c0] := by
    have h1 := hsz.trans hC
    obtain ⟨l⟩ := cs
    match l, h1 with
    | [c0], _ => exact ⟨c0, rfl⟩
  obtain ⟨fuel, hf⟩ := h
  obtain ⟨y0, n', _, _, h0⟩ := trod_struct1 Tryd.underlying54 hf
  have k0 : Tryd.prog.cellsOf 52 = 1 := by kernel_rfl
  obtain ⟨A, c, rs, e0, hr, hw, hc⟩ := read_recs (show DataW.trod enc Tryd.prog w 0 (fun _ => true) held n' 52 [c0] = some y0 by simpa [k0, Value.cells] using h0)
  obtain rfl : c0 = .slice A rs.length c := by injection e0
  exact ⟨rs, ⟨A, c, rfl, hr, hc⟩, hw⟩
end
end Go.Proofs.YteeffchnbkkpfabDoor
