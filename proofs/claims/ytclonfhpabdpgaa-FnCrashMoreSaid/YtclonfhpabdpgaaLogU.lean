/-
  Plain facts on the texts that are read of bytes.
-/
import Derived.Test.YtclonfhpabdpgaaLogK
namespace Go.Proofs.Ytclonfhpabdpgaa
open Go.RowKit Wo Pu Lg

theorem texts_fit {L : List UInt8} : ∀ t ∈ texts L, 1 ≤ t.size ∧ t.size ≤ 12 := by
  intro t ht
  rw [texts_eq] at ht
  obtain ⟨r, hr, rfl⟩ := List.mem_map.1 ht
  have := scan_fits L r hr
  rw [mk_size]
  exact this
/-- The bytes of the frames of texts. -/
def fl (ts : List ByteArray) : ByteArray := mk (flat (ts.map bl))
theorem fl_nil : fl [] = ⟨#[]⟩ := rfl
theorem fl_snoc (ts : List ByteArray) {x : ByteArray} (h : 1 ≤ x.size ∧ x.size ≤ 12) : fl (ts ++ [x]) = fl ts ++ frameB x := by
  apply bl_inj
  rw [bl_append, bl_frameB h]
  unfold fl
  rw [bl_mk, bl_mk, List.map_append, flat_append, List.map_cons, List.map_nil, flat_cons, flat_nil, List.append_nil]
theorem fl_step {ts : List ByteArray} {k : Nat} (hk : k < ts.length) (h : 1 ≤ ts[k].size ∧ ts[k].size ≤ 12) : fl (ts.take (k + 1)) = fl (ts.take k) ++ frameB ts[k] := by
  rw [List.take_succ_eq_append_getElem hk, fl_snoc _ h]
theorem map_bl_texts (L : List UInt8) : (texts L).map bl = scan L := by
  rw [texts_eq, List.map_map]
  conv => rhs; rw [← List.map_id (scan L)]
  exact List.map_congr_left fun r _ => bl_mk r
theorem bl_cut (s : ByteArray) (n : Nat) : bl (s.extract 0 n) = (bl s).take n := by rw [bl_extract, List.drop_zero, Nat.sub_zero]
theorem fl_texts (s : ByteArray) : fl (texts (bl s)) = s.extract 0 (used (bl s)) := by
  apply bl_inj
  unfold fl
  rw [bl_mk, map_bl_texts, bl_cut, flat_scan_take]
theorem fl_texts_size (s : ByteArray) : (fl (texts (bl s))).size = used (bl s) := by
  unfold fl used
  rw [mk_size, map_bl_texts]
theorem fl_size (ts : List ByteArray) (k : Nat) : (fl (ts.take k)).size ≤ (fl ts).size := by
  unfold fl
  rw [mk_size, mk_size]
  exact flat_mono ⟨(ts.drop k).map bl, by rw [← List.map_append, List.take_append_drop]⟩
theorem texts_few (s : ByteArray) : 2 * (texts (bl s)).length ≤ s.size := by
  rw [texts_length, ← bl_size s]
  exact scan_length _
theorem used_few (s : ByteArray) : used (bl s) ≤ s.size := by rw [← bl_size s]; exact used_le _
theorem again_scan (s : ByteArray) : texts (bl (s.extract 0 (used (bl s)))) = texts (bl s) ∧ used (bl (s.extract 0 (used (bl s)))) = used (bl s) := by
  rw [bl_cut, texts_eq, texts_eq, scan_take_used, used_take]
  exact ⟨rfl, rfl⟩
theorem more_scan (s : ByteArray) {r : ByteArray} (h : 1 ≤ r.size ∧ r.size ≤ 12) : texts (bl (s.extract 0 (used (bl s)) ++ frameB r)) = texts (bl s) ++ [r] ∧ used (bl (s.extract 0 (used (bl s)) ++ frameB r)) = used (bl s) + r.size + 2 := by
  have e : bl (s.extract 0 (used (bl s)) ++ frameB r) = flat (scan (bl s) ++ [bl r]) := by rw [bl_append, bl_frameB h, bl_cut, flat_scan_take, flat_snoc]
  have f : ∀ x ∈ scan (bl s) ++ [bl r], Fits x := by
    intro x hx
    rcases List.mem_append.1 hx with hx | hx
    · exact scan_fits _ _ hx
    · rw [List.mem_singleton.1 hx]; exact fits_of h
  have e2 : scan (bl (s.extract 0 (used (bl s)) ++ frameB r)) = scan (bl s) ++ [bl r] := by rw [e, scan_flat_self _ f]
  refine ⟨by rw [texts_eq, texts_eq, e2, List.map_append, List.map_cons, List.map_nil, mk_bl], ?_⟩
  have e3 : used (bl (s.extract 0 (used (bl s)) ++ frameB r)) = (flat (scan (bl s) ++ [bl r])).length := by
    show (flat (scan (bl (s.extract 0 (used (bl s)) ++ frameB r)))).length = _
    rw [e2]
  rw [e3, flat_snoc, List.length_append, fr_length, bl_size]
  show (used (bl s)) + (r.size + 2) = _
  omega
theorem prefix_texts {L M : List UInt8} (h : scan L <+: scan M) : ∃ m, m ≤ (texts M).length ∧ texts L = (texts M).take m ∧ m = (texts L).length := by
  obtain ⟨c, hc⟩ := h
  refine ⟨(scan L).length, ?_, ?_, (texts_length L).symm⟩
  · rw [texts_length, ← hc, List.length_append]; omega
  · rw [texts_eq, texts_eq, ← hc, List.map_append, ← List.length_map (f := mk), List.take_left]
theorem part_scan (s : ByteArray) (K : Nat) : ∃ m, m ≤ (texts (bl s)).length ∧ texts (bl (s.extract 0 K)) = (texts (bl s)).take m ∧ used (bl (s.extract 0 K)) ≤ used (bl s) := by
  rw [bl_cut]
  obtain ⟨m, h1, h2, _⟩ := prefix_texts (scan_part (bl s) K)
  exact ⟨m, h1, h2, used_part _ _⟩
theorem txts_take (ts : List ByteArray) (m : Nat) : txts (ts.take m) = (txts ts).take m := by unfold txts; rw [List.map_take]
theorem row_txts_take {w : World} {B : Nat} {A : Option Addr} {ts : List ByteArray} (h : Row w B A (txts ts)) (m : Nat) : Row w B A (txts (ts.take m)) := by
  rw [txts_take]
  exact h.take_ m
theorem OwnT.form2 {w : World} {B : Nat} {v : Value} {ts : List ByteArray} (h : OwnT w B v ts) : ∃ (A : Option Addr) (c : Nat), v = .slice A ts.length c ∧ Row w w.heap.size A (txts ts) ∧ ts.length ≤ c := by
  obtain ⟨A, c, rfl, hr⟩ := h.form
  refine ⟨A, c, rfl, hr, ?_⟩
  rcases h.2 with ⟨h1, h0⟩ | ⟨g, cap, cur, h1, _, _, hle, _⟩
  · omega
  · injection h1 with _ _ h3
    omega
theorem txts_cells (ts : List ByteArray) : ∀ u ∈ txts ts, u.oneCell' = true := by
  intro u hu
  obtain ⟨t, _, rfl⟩ := List.mem_map.1 hu
  rfl
/-- What LogScan answers, told by its values. -/
def ScanIs (ts : List ByteArray) (n : Nat) (w : World) (e : Ending) (w' : World) : Prop := ∃ A c, e = .returned (.tuple #[.slice A ts.length c, .int .i64 (n : Nat)]) ∧ Row w' w'.heap.size A (txts ts) ∧ ts.length ≤ c ∧ Below w.heap.size w w'
theorem implLogScan_is (s : ByteArray) (ts : List ByteArray) (n : Nat) (w : World) (hs : s.size ≤ 1048576) (h1 : texts (bl s) = ts) (h2 : used (bl s) = n) : Calls Try.prog 18 #[.string s] w (ScanIs ts n w) := by
  subst h1
  subst h2
  refine (implLogScan_any s w hs).mono ?_
  rintro e w' ⟨v, rfl, ho, hb⟩
  obtain ⟨A, c, rfl, hr, hc⟩ := ho.form2
  exact ⟨A, c, rfl, hr, hc, hb⟩
end Go.Proofs.Ytclonfhpabdpgaa
