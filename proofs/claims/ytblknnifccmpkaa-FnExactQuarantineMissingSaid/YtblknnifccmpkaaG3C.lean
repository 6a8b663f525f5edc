/-
  Lists of objects in memory.
  What an argument that reads as data gives the walks.
  Walks: lists of objects copied and compared by the law's own helpers.
  Plain facts on stores.
  A region that draws its order, whose operations read below a mark and whose callees leave what is below the mark: one walk in the order of the text.
  append of a row that may be nil onto a row of the call's own.
-/
import Derived.Test.YtblknnifccmpkaaCopy
import Derived.Test.YtblknnifccmpkaaProg
import Derived.ProofKit
import Derived.Lib.SmallJoins
import Derived.Deep.Slices
import Derived.Deep.Strs
import Derived.OpenShut
import Derived.Deep.RegionHeld3
import Derived.BigQuiet
namespace Go.Proofs.Ytblknnifccmpkaa
open Go.RowKit Wo Pu

structure Ob where
  kd : Int
  zs : List Int
  s : ByteArray

/-- At ad lies the object o. -/
def ObAt (w : World) (B : Nat) (ad : Addr) (o : Ob) : Prop :=
  ∃ (A : Option Addr) (c : Nat), w.cell? ad = some (.int .i64 o.kd) ∧ w.cell? (ad.add 1) = some (.slice A o.zs.length c) ∧ w.cell? (ad.add 2) = some (.string o.s) ∧ Row w B A (ints o.zs)
/-- The slice with head A holds the objects os. -/
def Objs (w : World) (B : Nat) (A : Option Addr) (os : List Ob) : Prop :=
  os = [] ∨ ∃ ad, A = some ad ∧ ad.block < B ∧ ∀ i (h : i < os.length), ObAt w B (ad.add (i * 3)) os[i]
theorem ObAt.below {w w' : World} {B C : Nat} {ad : Addr} {o : Ob} (h : ObAt w B ad o) (ha : ad.block < B) (hb : Below C w w') (hC : B ≤ C) : ObAt w' B ad o := by
  obtain ⟨A, c, h0, h1, h2, h3⟩ := h
  have f : ∀ p : Addr, p.block < B → w'.cell? p = w.cell? p := fun p hp => hb.cell (by omega)
  exact ⟨A, c, by rw [f _ ha]; exact h0, by rw [f _ (by rw [add_block]; exact ha)]; exact h1, by rw [f _ (by rw [add_block]; exact ha)]; exact h2, h3.below hb hC⟩
theorem ObAt.more {w : World} {B B' : Nat} {ad : Addr} {o : Ob} (h : ObAt w B ad o) (hB : B ≤ B') : ObAt w B' ad o := by
  obtain ⟨A, c, h0, h1, h2, h3⟩ := h
  exact ⟨A, c, h0, h1, h2, h3.more hB⟩
theorem Objs.below {w w' : World} {B C : Nat} {A : Option Addr} {os : List Ob} (h : Objs w B A os) (hb : Below C w w') (hC : B ≤ C) : Objs w' B A os := by
  rcases h with rfl | ⟨ad, e, ha, hh⟩
  · exact .inl rfl
  · exact .inr ⟨ad, e, ha, fun i hi => (hh i hi).below (by rw [add_block]; exact ha) hb hC⟩
theorem Objs.more {w : World} {B B' : Nat} {A : Option Addr} {os : List Ob} (h : Objs w B A os) (hB : B ≤ B') : Objs w B' A os := by
  rcases h with rfl | ⟨ad, e, ha, hh⟩
  · exact .inl rfl
  · exact .inr ⟨ad, e, by omega, fun i hi => (hh i hi).more hB⟩
theorem Objs.at_ {w : World} {B : Nat} {A : Option Addr} {os : List Ob} (h : Objs w B A os) {k : Nat} (hk : k < os.length) :
    ∃ (ad : Addr) (A' : Option Addr) (c : Nat), A = some ad ∧ ad.block < B ∧ w.cell? (ad.add (k * 3)) = some (.int .i64 os[k].kd) ∧ w.cell? ⟨(ad.add (k * 3)).block, (ad.add (k * 3)).off + 1, none⟩ = some (.slice A' os[k].zs.length c) ∧
      w.cell? ⟨(ad.add (k * 3)).block, (ad.add (k * 3)).off + 2, none⟩ = some (.string os[k].s) ∧ Row w B A' (ints os[k].zs) := by
  rcases h with rfl | ⟨ad, e, ha, hh⟩
  · simp at hk
  · obtain ⟨A', c, h0, h1, h2, h3⟩ := hh k hk
    exact ⟨ad, A', c, e, ha, h0, h1, h2, h3⟩

theorem Objs.obj {w : World} {B : Nat} {A : Option Addr} {os : List Ob} (h : Objs w B A os) {k : Nat} (hk : k < os.length) :
    ∃ (o : Ob) (ad : Addr) (A' : Option Addr) (c : Nat), os[k] = o ∧ A = some ad ∧ (ad.add (k * 3)).block < B ∧ w.cell? (ad.add (k * 3)) = some (.int .i64 o.kd) ∧ w.cell? ⟨(ad.add (k * 3)).block, (ad.add (k * 3)).off + 1, none⟩ = some (.slice A' o.zs.length c) ∧
      w.cell? ⟨(ad.add (k * 3)).block, (ad.add (k * 3)).off + 2, none⟩ = some (.string o.s) ∧ Row w B A' (ints o.zs) := by
  obtain ⟨ad, A', c, e, ha, h1, h2, h3, h4⟩ := h.at_ hk
  exact ⟨_, ad, A', c, rfl, e, by rw [add_block]; exact ha, h1, h2, h3, h4⟩
theorem three_later {w w' : World} {C : Nat} (hb : Below C w w') {ad : Addr} {v0 v1 v2 : Value} (ha : ad.block < C) (h0 : w.cell? ad = some v0) (h1 : w.cell? ⟨ad.block, ad.off + 1, none⟩ = some v1) (h2 : w.cell? ⟨ad.block, ad.off + 2, none⟩ = some v2) :
    w'.cell? ad = some v0 ∧ w'.cell? ⟨ad.block, ad.off + 1, none⟩ = some v1 ∧ w'.cell? ⟨ad.block, ad.off + 2, none⟩ = some v2 :=
  ⟨(hb.cell ha).trans h0, (hb.cell (p := ⟨ad.block, ad.off + 1, none⟩) ha).trans h1, (hb.cell (p := ⟨ad.block, ad.off + 2, none⟩) ha).trans h2⟩

/-- The lengths of the parts are what Go's are. -/
def Fit (os : List Ob) : Prop := ∀ o ∈ os, o.zs.length ≤ maxLen ∧ o.s.size ≤ maxLen
def oneSz (o : Ob) : Nat := o.zs.length + o.s.size
def partSz (os : List Ob) (k : Nat) : Nat := ((os.take k).map oneSz).sum
def allSz (os : List Ob) : Nat := os.length + partSz os os.length
theorem partSz_succ {os : List Ob} {k : Nat} (hk : k < os.length) : partSz os (k + 1) = partSz os k + oneSz os[k] := by
  unfold partSz
  rw [List.take_succ_eq_append_getElem hk, List.map_append, List.sum_append]
  simp

theorem partSz_ge {os : List Ob} {i : Nat} (hi : i < os.length) : ∀ k, i < k → k ≤ os.length → oneSz os[i] ≤ partSz os k := by
  intro k
  induction k with
  | zero => intro h; omega
  | succ k ih =>
    intro h1 h2
    rw [partSz_succ (by omega)]
    by_cases e : i = k
    · subst e; omega
    · have := ih (by omega) (by omega)
      omega
theorem allSz_fits {os : List Ob} {m : Nat} (h : allSz os ≤ m) : os.length ≤ m ∧ ∀ o ∈ os, o.zs.length ≤ m ∧ o.s.size ≤ m := by
  unfold allSz at h
  refine ⟨by omega, fun o ho => ?_⟩
  obtain ⟨i, hi, rfl⟩ := List.mem_iff_getElem.1 ho
  have := partSz_ge hi os.length hi (Nat.le_refl _)
  unfold oneSz at this
  omega

/-- The sizes: all fit, or not. -/
def Sized (tot : Nat) (left : Int) (w : World) (e : Ending) (w' : World) : Prop := ∃ r : Int, e = .returned (.int .i64 r) ∧ (r = -1 ∨ (0 ≤ r ∧ r = left - tot)) ∧ Below w.heap.size w w'

set_option maxHeartbeats 2000000 in
theorem szObjectS_any (A : Option Addr) (c : Nat) (os : List Ob) (left : Int) (w : World) (h : Objs w w.heap.size A os) (hf : Fit os) (hn : os.length ≤ maxLen) (h0 : 0 ≤ left) (h1 : left ≤ 1048576) :
    Calls Try.prog 46 #[.slice A os.length c, .int .i64 left] w (Sized (allSz os) left w) := by
  unfold maxLen at hn
  by_cases h2 : left < os.length
  · go_enter Try.func46, Try.ntmps46
    go_wp2
    go_ret
    exact ⟨-1, rfl, .inl rfl, Below.refl _ _⟩
  · go_enter Try.func46, Try.ntmps46
    go_wp2_with fail
    go_loopw [1, 5] (fun l i wr => ∃ k : Nat, k ≤ os.length ∧ i = .int .i64 k ∧ l = .int .i64 (left - os.length - partSz os k) ∧ 0 ≤ left - os.length - partSz os k ∧ Below w.heap.size w wr) (fun _ i _ => os.length - (intOf i).toNat)
    case atStart => exact ⟨0, Nat.zero_le _, rfl, by simp [partSz], by simp [partSz]; omega, Below.refl _ _⟩
    case round =>
      obtain ⟨k, hk, rfl, rfl, hp, hb⟩ := hrel
      by_cases hlt : k < os.length
      · obtain ⟨ad, A', c', rfl, _, g0, g1, g2, g3⟩ := (h.below hb (Nat.le_refl _)).at_ hlt
        go_wp2_with fail
        have hfk := hf os[k] (List.getElem_mem hlt)
        have hsucc := hid (partSz_succ hlt)
        by_cases hov : left - os.length - partSz os k < os[k].zs.length + os[k].s.size
        · refine (szObject_no A' _ c' _ _ _ _ hfk.1 hfk.2 hp (by omega) (by omega)).mono ?_
          rintro e w1 ⟨rfl, hb1⟩
          go_wp2
          go_ret
          exact ⟨-1, rfl, .inl rfl, hb.trans (hb1.mono hb.size)⟩
        · refine (szObject_yes A' _ c' _ _ _ _ hfk.1 hfk.2 hp (by omega) (by omega)).mono ?_
          rintro e w1 ⟨rfl, hb1⟩
          go_wp2
          go_roundw
          case rel => exact ⟨k + 1, by omega, by go_num, by rw [hsucc.out]; unfold oneSz; congr 1; omega, by rw [hsucc.out]; unfold oneSz; omega, hb.trans (hb1.mono hb.size)⟩
          case measure => simp [intOf]; omega
      · have hk' : k = os.length := by omega
        subst hk'
        go_wp2
        go_ret
        exact ⟨_, rfl, .inr ⟨hp, by unfold allSz; omega⟩, hb⟩
end Go.Proofs.Ytblknnifccmpkaa
namespace Go.Proofs.Ytblknnifccmpkaa
set_option maxRecDepth 100000
open Go.RowKit Go.ChangeShapes Go.WideShapes Go.Joins Wo

section
variable {H : Type} {enc : TypeId × Value → H} {w : World} {held : Bool}

theorem row_of_cells {w : World} {a : Addr} {n : Nat} {f : Nat → Value} (h : ∀ i, i < n → w.cell? (a.add i) = some (f i)) : Row w w.heap.size (some a) ((List.range n).map f) := by
  rcases Nat.eq_zero_or_pos n with h0 | h0
  · subst h0
    exact .inl rfl
  · refine .inr ⟨a, rfl, ?_, fun j v hv => ?_⟩
    · have := World.block_lt_of_cell? _ _ (h 0 h0)
      rwa [add_block] at this
    · rw [List.getElem?_map] at hv
      rcases Nat.lt_or_ge j n with hj | hj
      · rw [List.getElem?_range hj] at hv
        rw [h j hj]
        exact hv
      · rw [List.getElem?_eq_none (by simpa using hj)] at hv
        cases hv

/-- A slice of ints. -/
theorem read_ints {fuel : Nat} {cs : List Value} {x : DataW H × List MemPlace} (h : DataW.trod enc Try.prog w 0 (fun _ => true) held fuel 36 cs = some x) :
    ∃ (A : Option Addr) (c : Nat) (zs : List Int), cs = [.slice A zs.length c] ∧ Row w w.heap.size A (ints zs) ∧ zs.length ≤ maxLen ∧ ∀ z ∈ zs, (Lit.int .i64 z).wf = true := by
  rcases open_ints Try.underlying36 Try.underlying3 (by kernel_rfl) h with ⟨hcs, _⟩ | ⟨a, len, cap, zs, hcs, _, hl, hm, hz, _, hcell, hwf⟩
  · exact ⟨none, 0, [], hcs, .inl rfl, Nat.zero_le _, fun z hz => by cases hz⟩
  · simp only [if_true] at hz
    have hlen : (zs.take len).length = len := by rw [List.length_take]; omega
    refine ⟨some a, cap, zs.take len, by rw [hlen]; exact hcs, ?_, by omega, fun z hz => hwf z (List.mem_of_mem_take hz)⟩
    have hr := row_of_cells (n := len) (f := fun i => .int .i64 (zs.getD i 0)) (fun i hi => hcell i (by omega))
    have e : ints (zs.take len) = (List.range len).map (fun i => Value.int .i64 (zs.getD i 0)) := by
      apply List.ext_getElem
      · rw [ints_length, hlen]; simp
      · intro i h1 h2
        simp at h2
        rw [ints_get _ _ (by rw [hlen]; exact h2)]
        simp [List.getD, List.getElem?_eq_getElem (show i < zs.length by omega)]
    rw [e]
    exact hr

/-- An object by value. -/
theorem open_obj {base : Nat} {v : Value} {d : DataW H} {p : List MemPlace} (hv : Value.okWide Try.prog w .any base 103 v) (h : DataW.Trod enc Try.prog w 0 (fun _ => true) held 103 v d p) :
    ∃ (kd : Int) (A : Option Addr) (c : Nat) (zs : List Int) (s : ByteArray), v = .agg #[.int .i64 kd, .slice A zs.length c, .string s] ∧ Row w w.heap.size A (ints zs) ∧ zs.length ≤ maxLen ∧ s.size ≤ maxLen := by
  obtain ⟨c0, c1, c2, y0, y1, y2, m, rfl, rfl, rfl, h0, h1, h2⟩ := open_agg3 Try.underlying103 (by kernel_rfl) (by kernel_rfl) hv h
  obtain ⟨kd, e0, _, _⟩ := DataW.trod_int Try.underlying3 h0
  obtain ⟨A, c, zs, e1, hr, hm, _⟩ := read_ints h1
  obtain ⟨s, e2, _, hs⟩ := DataW.trod_string Try.underlying9 h2
  obtain rfl : c0 = .int .i64 kd := by injection e0
  obtain rfl : c1 = .slice A zs.length c := by injection e1
  obtain rfl : c2 = .string s := by injection e2
  exact ⟨kd, A, c, zs, s, rfl, hr, hm, hs⟩

theorem read_bytes {fuel : Nat} {cs : List Value} {x : DataW H × List MemPlace} (h : DataW.trod enc Try.prog w 0 (fun _ => true) held fuel 22 cs = some x) :
    ∃ (A : Option Addr) (c : Nat) (bs : List Int), cs = [.slice A bs.length c] ∧ Row w w.heap.size A (bs.map (Value.int .u8)) ∧ bs.length ≤ c ∧ c ≤ maxLen ∧ ∀ n ∈ bs, 0 ≤ n ∧ n < 256 := by
  rcases open_ints Try.underlying22 Try.underlying5 (by kernel_rfl) h with ⟨hcs, _⟩ | ⟨a, len, cap, zs, hcs, _, hl, hm, hz, _, hcell, hwf⟩
  · exact ⟨none, 0, [], hcs, .inl rfl, Nat.zero_le _, Nat.zero_le _, fun z hz => by cases hz⟩
  · simp only [if_true] at hz
    have hlen : (zs.take len).length = len := by rw [List.length_take]; omega
    refine ⟨some a, cap, zs.take len, by rw [hlen]; exact hcs, ?_, by omega, hm, fun z hz => ?_⟩
    · have hr := row_of_cells (n := len) (f := fun i => .int .u8 (zs.getD i 0)) (fun i hi => hcell i (by omega))
      have e : (zs.take len).map (Value.int .u8) = (List.range len).map (fun i => Value.int .u8 (zs.getD i 0)) := by
        apply List.ext_getElem
        · rw [List.length_map, hlen]; simp
        · intro i h1 h2
          simp at h2
          simp [List.getD, List.getElem?_eq_getElem (show i < zs.length by omega)]
      rw [e]
      exact hr
    · have hw := hwf z (List.mem_of_mem_take hz)
      have hb := bounds_u8 hw
      omega

/-- A slice of bytes. -/
theorem open_bytes {base : Nat} {v : Value} {d : DataW H} {p : List MemPlace} (_hv : Value.okWide Try.prog w .any base 22 v) (h : DataW.Trod enc Try.prog w 0 (fun _ => true) held 22 v d p) :
    ∃ (A : Option Addr) (c : Nat) (bs : List Int), v = .slice A bs.length c ∧ Row w w.heap.size A (bs.map (Value.int .u8)) ∧ bs.length ≤ c ∧ c ≤ maxLen ∧ ∀ n ∈ bs, 0 ≤ n ∧ n < 256 := by
  obtain ⟨A0, n0, c0, rfl⟩ := okWide_slice Try.underlying22 _hv
  obtain ⟨fuel, hf⟩ := h
  obtain ⟨A, c, bs, e, h1⟩ := read_bytes hf
  refine ⟨A, c, bs, ?_, h1⟩
  simpa [Value.cells] using e

theorem open_zs {base : Nat} {v : Value} {d : DataW H} {p : List MemPlace} (_hv : Value.okWide Try.prog w .any base 36 v) (h : DataW.Trod enc Try.prog w 0 (fun _ => true) held 36 v d p) :
    ∃ (A : Option Addr) (c : Nat) (zs : List Int), v = .slice A zs.length c ∧ Row w w.heap.size A (ints zs) ∧ zs.length ≤ maxLen := by
  obtain ⟨A0, n0, c0, rfl⟩ := okWide_slice Try.underlying36 _hv
  obtain ⟨fuel, hf⟩ := h
  obtain ⟨A, c, zs, e, hr, hm, _⟩ := read_ints hf
  refine ⟨A, c, zs, ?_, hr, hm⟩
  simpa [Value.cells] using e

/-- A list of objects. -/
theorem open_objs {base : Nat} {v : Value} {d : DataW H} {p : List MemPlace} (_hv : Value.okWide Try.prog w .any base 55 v) (h : DataW.Trod enc Try.prog w 0 (fun _ => true) held 55 v d p) :
    ∃ (A : Option Addr) (c : Nat) (os : List Ob), v = .slice A os.length c ∧ Objs w w.heap.size A os ∧ Fit os ∧ os.length ≤ maxLen := by
  obtain ⟨A0, n0, c0, rfl⟩ := okWide_slice Try.underlying55 _hv
  obtain ⟨fuel, hf⟩ := h
  rcases Deep.open_slice Try.underlying55 hf with ⟨hcs, _⟩ | ⟨a, len, cap, m, n, D, Pl, hcs, _, hl, hm, hmm, _, hel⟩
  · simp [Value.cells] at hcs
    obtain ⟨rfl, rfl, rfl⟩ := hcs
    exact ⟨none, 0, [], rfl, .inl rfl, (fun o ho => by cases ho), Nat.zero_le _⟩
  · simp only [Value.cells, List.cons.injEq, and_true] at hcs
    simp only [if_true] at hmm
    have one : ∀ i, i < len → ∃ o : Ob, ObAt w w.heap.size (a.add (i * 3)) o ∧ o.zs.length ≤ maxLen ∧ o.s.size ≤ maxLen := fun i hi => by
      obtain ⟨cs', hc, ht⟩ := hel i (by omega)
      have hC : Try.prog.cellsOf 103 = 3 := by kernel_rfl
      rw [hC] at hc
      obtain ⟨_, hlen, hat⟩ := World.cells?_some hc
      match cs', hlen with
      | [c0, c1, c2], _ =>
        obtain ⟨y0, y1, y2, n', _, _, h0, h1, h2⟩ := Deep.trod_struct3 Try.underlying103 ht
        have k0 : Try.prog.cellsOf 3 = 1 := by kernel_rfl
        have k1 : Try.prog.cellsOf 36 = 1 := by kernel_rfl
        have k2 : Try.prog.cellsOf 9 = 1 := by kernel_rfl
        obtain ⟨kd, e0, _, _⟩ := DataW.trod_int Try.underlying3 (show DataW.trod enc Try.prog w 0 (fun _ => true) held n' 3 [c0] = some y0 by simpa [k0] using h0)
        obtain ⟨A, c, zs, e1, hr, hz, _⟩ := read_ints (show DataW.trod enc Try.prog w 0 (fun _ => true) held n' 36 [c1] = some y1 by simpa [k1] using h1)
        obtain ⟨s, e2, _, hs⟩ := DataW.trod_string Try.underlying9 (show DataW.trod enc Try.prog w 0 (fun _ => true) held n' 9 [c2] = some y2 by simpa [k2] using h2)
        have q0 := hat 0 (by omega)
        have q1 := hat 1 (by omega)
        have q2 := hat 2 (by omega)
        have f0 : c0 = .int .i64 kd := by simpa using e0
        have f1 : c1 = .slice A zs.length c := by simpa using e1
        have f2 : c2 = .string s := by simpa using e2
        subst f0 f1 f2
        exact ⟨⟨kd, zs, s⟩, ⟨A, c, by rw [add_zero] at q0; exact q0, q1, q2, hr⟩, hz, hs⟩
    have all : ∃ os : List Ob, os.length = len ∧ ∀ i (hi : i < os.length), ObAt w w.heap.size (a.add (i * 3)) os[i] ∧ os[i].zs.length ≤ maxLen ∧ os[i].s.size ≤ maxLen := by
      refine ⟨(List.range len).map fun i => if h : i < len then (one i h).choose else ⟨0, [], ⟨#[]⟩⟩, by simp, fun i hi => ?_⟩
      have hi' : i < len := by simpa using hi
      simp only [List.getElem_map, List.getElem_range, hi', dite_true]
      exact (one i hi').choose_spec
    obtain ⟨os, ho, hos⟩ := all
    refine ⟨some a, cap, os, by rw [ho]; exact hcs, ?_, fun o hmem => ?_, by omega⟩
    · rcases Nat.eq_zero_or_pos os.length with h0 | h0
      · exact .inl (List.eq_nil_of_length_eq_zero h0)
      · refine .inr ⟨a, rfl, ?_, fun i hi => (hos i hi).1⟩
        obtain ⟨_, _, q, _⟩ := (hos 0 h0).1
        have := World.block_lt_of_cell? _ _ q
        rwa [add_block] at this
    · obtain ⟨i, hi, rfl⟩ := List.mem_iff_getElem.1 hmem
      exact (hos i hi).2
end
end Go.Proofs.Ytblknnifccmpkaa
namespace Go.Proofs.Ytblknnifccmpkaa
open Go.RowKit Wo Pu

theorem info_ob : (Try.prog.info? 38).map (fun i => (i.zero, i.size, i.bytes)) = some (some (.agg #[.int .i64 0, .slice none 0 0, .string ⟨#[]⟩]), 3, 48) := by kernel_rfl

/-- Among the cells xs the j-th object is o; its links are a slice of the call's own. -/
def ObIn (w : World) (B : Nat) (xs : List Value) (j : Nat) (o : Ob) : Prop :=
  ∃ g, xs[j * 3]? = some (.int .i64 o.kd) ∧ xs[j * 3 + 1]? = some (.slice (some ⟨g, 0, none⟩) o.zs.length o.zs.length) ∧ xs[j * 3 + 2]? = some (.string o.s) ∧ Mine w B 3 1 g o.zs.length (ints o.zs)

theorem Mine.type_ne {w : World} {B B' g g' n n' : Nat} {e e' : TypeId} {sz sz' : Nat} {xs xs' : List Value} (h : Mine w B e sz g n xs) (h' : Mine w B' e' sz' g' n' xs') (he : e ≠ e') : g ≠ g' := by
  intro hg
  subst hg
  rcases h.2 with ⟨h1, _⟩ | ⟨k, _, cur, hv, _, hh, _⟩
  · cases h1
  · rcases h'.2 with ⟨h1, _⟩ | ⟨k', _, cur', hv', _, hh', _⟩
    · cases h1
    · have e1 : k = g := by injection hv with e1; injection e1 with e1; injection e1 with e1; exact e1.symm
      have e2 : k' = g := by injection hv' with e1; injection e1 with e1; injection e1 with e1; exact e1.symm
      subst e1
      subst e2
      rw [hh] at hh'
      injection hh' with h3
      injection h3 with _ h3
      exact he h3

/-- The new list so far: n places in block g, the first k filled with the first of os. -/
def Filled (w : World) (B g : Nat) (os : List Ob) (k : Nat) : Prop := ∃ xs, Mine w B 38 3 g os.length xs ∧ ∀ j (hj : j < os.length), j < k → ObIn w B xs j os[j]

theorem Filled.below {w w' : World} {B g k : Nat} {os : List Ob} (h : Filled w B g os k) (hb : Below w.heap.size w w') : Filled w' B g os k := by
  obtain ⟨xs, hm, hx⟩ := h
  refine ⟨xs, hm.below hb hm.lt.2, fun j hj hjk => ?_⟩
  obtain ⟨g', h0, h1, h2, h3⟩ := hx j hj hjk
  exact ⟨g', h0, h1, h2, h3.below hb h3.lt.2⟩

theorem Filled.cells3 {w : World} {B g k k' : Nat} {os : List Ob} (h : Filled w B g os k') (hk : k < os.length) :
    (∃ v, w.cell? ⟨g, k * 3, none⟩ = some v) ∧ (∃ v, w.cell? ⟨g, k * 3 + 1, none⟩ = some v) ∧ (∃ v, w.cell? ⟨g, k * 3 + 2, none⟩ = some v) ∧ ∀ o, w.frozen? ⟨g, o, none⟩ = false := by
  obtain ⟨xs, hm, _⟩ := h
  have hlen := hm.len
  have rd : ∀ j, j < os.length * 3 → ∃ v, w.cell? ⟨g, j, none⟩ = some v := fun j hj =>
    ⟨_, (World.ownsRow.cellAt hm j hj).trans (List.getElem?_eq_getElem (by omega))⟩
  exact ⟨rd _ (by omega), rd _ (by omega), rd _ (by omega), fun o => World.ownsRow.frozenAt hm o⟩
theorem Filled.step {w : World} {B g k g' : Nat} {os : List Ob} (h : Filled w B g os k) (hk : k < os.length) (hl : Mine w B 3 1 g' os[k].zs.length (ints os[k].zs)) :
    Filled (((w.setCell ⟨g, k * 3, none⟩ (.int .i64 os[k].kd)).setCell ⟨g, k * 3 + 1, none⟩ (.slice (some ⟨g', 0, none⟩) os[k].zs.length os[k].zs.length)).setCell ⟨g, k * 3 + 2, none⟩ (.string os[k].s)) B g os (k + 1) := by
  obtain ⟨xs, hm, hx⟩ := h
  have hlen := hm.len
  have hlt : k * 3 + 2 < xs.length := by omega
  refine ⟨((xs.set (k * 3) (.int .i64 os[k].kd)).set (k * 3 + 1) (.slice (some ⟨g', 0, none⟩) os[k].zs.length os[k].zs.length)).set (k * 3 + 2) (.string os[k].s), ((hm.set_ _ _).set_ _ _).set_ _ _, fun j hj hjk => ?_⟩
  have far : ∀ {n g2 : Nat} {ys : List Value}, Mine w B 3 1 g2 n ys → Mine (((w.setCell ⟨g, k * 3, none⟩ (.int .i64 os[k].kd)).setCell ⟨g, k * 3 + 1, none⟩ (.slice (some ⟨g', 0, none⟩) os[k].zs.length os[k].zs.length)).setCell ⟨g, k * 3 + 2, none⟩ (.string os[k].s)) B 3 1 g2 n ys := fun {n g2 ys} h2 => by
    have hne := h2.type_ne hm (by decide)
    exact ((h2.far hne _).far hne _).far hne _
  by_cases e : j = k
  · subst e
    refine ⟨g', ?_, ?_, ?_, far hl⟩ <;> simp [List.getElem?_set] <;> omega
  · obtain ⟨g2, h0, h1, h2, h3⟩ := hx j hj (by omega)
    have t : ∀ d, d < 3 → (((xs.set (k * 3) (.int .i64 os[k].kd)).set (k * 3 + 1) (.slice (some ⟨g', 0, none⟩) os[k].zs.length os[k].zs.length)).set (k * 3 + 2) (.string os[k].s))[j * 3 + d]? = xs[j * 3 + d]? := fun d hd => by
      rw [List.getElem?_set_ne (by omega), List.getElem?_set_ne (by omega), List.getElem?_set_ne (by omega)]
    exact ⟨g2, by rw [show j * 3 = j * 3 + 0 from rfl, t 0 (by omega)]; exact h0, by rw [t 1 (by omega)]; exact h1, by rw [t 2 (by omega)]; exact h2, far h3⟩

theorem add_lit (g j : Nat) : (⟨g, 0, none⟩ : Addr).add j = ⟨g, j, none⟩ := by
  unfold Addr.add
  split
  · rename_i h; subst h; rfl
  · simp
theorem Filled.objs {w : World} {B g : Nat} {os : List Ob} (h : Filled w B g os os.length) : Objs w w.heap.size (some ⟨g, 0, none⟩) os := by
  obtain ⟨xs, hm, hx⟩ := h
  have hlen := hm.len
  refine .inr ⟨_, rfl, hm.lt.2, fun i hi => ?_⟩
  obtain ⟨g', h0, h1, h2, h3⟩ := hx i hi hi
  have rd : ∀ d, d < 3 → w.cell? ⟨g, i * 3 + d, none⟩ = xs[i * 3 + d]? := fun d hd => World.ownsRow.cellAt hm _ (by omega)
  have e : ∀ d, (((⟨g, 0, none⟩ : Addr).add (i * 3)).add d) = ⟨g, i * 3 + d, none⟩ := fun d => by
    rw [add_lit]
    unfold Addr.add
    split
    · rename_i h; subst h; rfl
    · rfl
  refine ⟨some ⟨g', 0, none⟩, os[i].zs.length, ?_, ?_, ?_, h3.row⟩
  · rw [add_lit]; exact (rd 0 (by omega)).trans h0
  · rw [e]; exact (rd 1 (by omega)).trans h1
  · rw [e]; exact (rd 2 (by omega)).trans h2

/-- Behind it: a new list of objects. -/
def NewObs (os : List Ob) (w : World) (e : Ending) (w' : World) : Prop := ∃ g, e = .returned (.slice (some ⟨g, 0, none⟩) os.length os.length) ∧ Filled w' w.heap.size g os os.length ∧ Below w.heap.size w w'

set_option maxHeartbeats 2000000 in
theorem toObjectS_any (A : Option Addr) (c : Nat) (os : List Ob) (w : World) (h : Objs w w.heap.size A os) (hn : os.length ≤ 1048576) (hs : ∀ o ∈ os, o.zs.length ≤ 1048576) :
    Calls Try.prog 47 #[.slice A os.length c] w (NewObs os w) := by
  obtain ⟨i0, hi, hz0, hz1, hz2⟩ := info_of info_ob
  go_enter Try.func47, Try.ntmps47
  go_wp2_with (at_make; go_must (refine wpList_make_full _ rfl (.tmp 6) (.tmp 6) 23 rfl w.heap.size 38 i0 (.agg #[.int .i64 0, .slice none 0 0, .string ⟨#[]⟩]) 3 Try.underlying23 hi hz0 hz1 .i64 .i64 os.length os.length os.length rfl rfl rfl rfl (by rw [hz2]; omega) (by unfold maxLen; omega) (Nat.le_refl _) ?_); intro w1 hown hg)
  have hb1 : Below w.heap.size w w1 := (Below.refl _ _).grown hg (Nat.le_refl _) (by simp)
  have f1 : Filled w1 w.heap.size w.heap.size os 0 := ⟨_, hown, fun j _ hj => absurd hj (by omega)⟩
  clear hown hg
  go_loopw [4] (fun i wr => ∃ k : Nat, k ≤ os.length ∧ i = .int .i64 k ∧ Filled wr w.heap.size w.heap.size os k ∧ Below w.heap.size w wr) (fun i _ => os.length - (intOf i).toNat)
  case atStart => exact ⟨0, Nat.zero_le _, rfl, f1, hb1⟩
  case round =>
    clear f1 hb1
    obtain ⟨k, hk, rfl, hf, hb⟩ := hrel
    by_cases hlt : k < os.length
    · obtain ⟨ad, A', c', rfl, _, g0, g1, g2, g3⟩ := (h.below hb (Nat.le_refl _)).at_ hlt
      have hz := hb.size
      go_wp2_with fail
      refine (toObject_any w.heap.size A' c' os[k].kd os[k].zs os[k].s _ g3 hb.size (hs _ (List.getElem_mem hlt))).mono ?_
      rintro e w2 ⟨g', rfl, hl, hb2⟩
      unfold ob
      have hf2 := hf.below hb2
      have hb3 := hb.trans (hb2.mono hb.size)
      have hl2 := hl.base hz
      clear hf hb2 hl g0 g1 g2 g3
      obtain ⟨q0, q1, q2, qf⟩ := hf2.cells3 hlt
      have qf0 := qf (k * 3)
      have qf1 := qf (k * 3 + 1)
      have qf2 := qf (k * 3 + 2)
      clear qf
      obtain ⟨y0, q0⟩ := q0
      obtain ⟨y1, q1⟩ := q1
      obtain ⟨y2, q2⟩ := q2
      go_wp2_with fail
      go_roundw
      case rel => exact ⟨k + 1, by omega, by go_num, hf2.step hlt hl2, ((hb3.setCell (Nat.le_refl _) _).setCell (Nat.le_refl _) _).setCell (Nat.le_refl _) _⟩
      case measure => simp [intOf]; omega
    · have hk' : k = os.length := by omega
      subst hk'
      go_wp2
      go_ret
      exact ⟨_, rfl, hf, hb⟩
/-- The three cells of an object in a list. -/
theorem Objs.drew {w : World} {B : Nat} {A : Option Addr} {os : List Ob} (h : Objs w B A os) : Objs w.drew B A os := h.below (Below.refl B w).drew (Nat.le_refl _)

set_option maxHeartbeats 2000000 in
theorem eqObjectS_same (A A2 : Option Addr) (c c2 : Nat) (os : List Ob) (w : World) (h : Objs w w.heap.size A os) (h2 : Objs w w.heap.size A2 os) (hn : os.length ≤ 1048576) (hs : ∀ o ∈ os, o.zs.length ≤ 1048576) :
    Calls Try.prog 48 #[.slice A os.length c, .slice A2 os.length c2] w (Ret (.bool true) w) := by
  go_enter Try.func48, Try.ntmps48
  go_wp2
  go_loopw [5] (fun i wr => ∃ k : Nat, k ≤ os.length ∧ i = .int .i64 k ∧ Below w.heap.size w wr) (fun i _ => os.length - (intOf i).toNat)
  case atStart => exact ⟨0, Nat.zero_le _, rfl, Below.refl _ _⟩
  case round =>
    obtain ⟨k, hk, rfl, hb⟩ := hrel
    by_cases hlt : k < os.length
    · obtain ⟨ad, A', c', rfl, ha1, g0, g1, g2, g3⟩ := ((h.below hb (Nat.le_refl _)).drew).at_ hlt
      obtain ⟨ad2, A2', c2', rfl, ha2, g20, g21, g22, g23⟩ := ((h2.below hb (Nat.le_refl _)).drew).at_ hlt
      have hmk : os[k].zs.length ≤ maxLen := by have := hs _ (List.getElem_mem hlt); unfold maxLen; omega
      have hbd := hb.drew
      have k0 : 0 ≤ (k : Int) := by omega
      have k1 : (k : Int) < (os.length : Int) := by omega
      simp only [World.cell?_drew] at g0 g1 g2 g20 g21 g22
      go_wp2_with fail
      go_region_held3 (fun w' => w'.cell? (ad.add (k * 3)) = some (.int .i64 os[k].kd) ∧ w'.cell? ⟨(ad.add (k * 3)).block, (ad.add (k * 3)).off + 1, none⟩ = some (.slice A' os[k].zs.length c') ∧ w'.cell? ⟨(ad.add (k * 3)).block, (ad.add (k * 3)).off + 2, none⟩ = some (.string os[k].s) ∧ w'.cell? (ad2.add (k * 3)) = some (.int .i64 os[k].kd) ∧ w'.cell? ⟨(ad2.add (k * 3)).block, (ad2.add (k * 3)).off + 1, none⟩ = some (.slice A2' os[k].zs.length c2') ∧ w'.cell? ⟨(ad2.add (k * 3)).block, (ad2.add (k * 3)).off + 2, none⟩ = some (.string os[k].s))
        (go_keep)
        (first
          | (go_at_call 90; go_must (refine (eqObject_same _ _ A' A2' c' c2' os[k].kd os[k].zs os[k].s _ g3 g23 hbd.size hbd.size hmk).mono ?_); rintro e w7 ⟨rfl, hb7⟩; have hw7 := hbd.trans (hb7.mono hbd.size); obtain ⟨m0, m1, m2⟩ := three_later hb7 (by rw [add_block]; exact Nat.lt_of_lt_of_le ha1 hbd.size) g0 g1 g2; obtain ⟨m3, m4, m5⟩ := three_later hb7 (by rw [add_block]; exact Nat.lt_of_lt_of_le ha2 hbd.size) g20 g21 g22))
      go_wp2
      go_roundw
      case rel => exact ⟨k + 1, by omega, by go_num, hw7⟩
      case measure => simp [intOf]; omega
    · have hk' : k = os.length := by omega
      subst hk'
      go_wp2
      go_ret
      exact .mk_ hb
end Go.Proofs.Ytblknnifccmpkaa
namespace Go.Proofs.Ytblknnifccmpkaa
open Pu

def vOb (o : Ob) : Bool := vldB o.kd o.zs o.s.size
def iOb (o : Ob) : Int := oid o.kd o.zs o.s.data.toList
def stB (last : Int) : List Ob → Bool
  | [] => true
  | o :: os => decide (last < iOb o) && stB (iOb o) os
def storeB (os : List Ob) : Bool := stB (-1) os && decide (os.length ≤ 16)
def prevO (os : List Ob) (k : Nat) : Int := if h : 0 < k ∧ k ≤ os.length then iOb (os[k - 1]'(by omega)) else -1

theorem prevO_zero (os : List Ob) : prevO os 0 = -1 := by simp [prevO]
theorem prevO_succ {os : List Ob} {k : Nat} (hk : k < os.length) : prevO os (k + 1) = iOb os[k] := by
  unfold prevO
  rw [dif_pos ⟨by omega, by omega⟩]
  rfl
theorem prevO_pos {os : List Ob} {k : Nat} (hk : k < os.length) (h0 : 0 < k) : prevO os k = iOb (os[k - 1]'(by omega)) := by
  unfold prevO
  rw [dif_pos ⟨h0, by omega⟩]
theorem stB_drop {last : Int} {os : List Ob} {k : Nat} (hk : k < os.length) : stB last (os.drop k) = (decide (last < iOb os[k]) && stB (iOb os[k]) (os.drop (k + 1))) := by
  rw [List.drop_eq_getElem_cons hk]; rfl
theorem stB_no {os : List Ob} {k : Nat} (hk : k < os.length) (h : iOb os[k] ≤ prevO os k) : stB (prevO os k) (os.drop k) = false := by
  rw [stB_drop hk, decide_eq_false (by omega)]; rfl
theorem stB_yes {os : List Ob} {k : Nat} (hk : k < os.length) (h : prevO os k < iOb os[k]) : stB (prevO os k) (os.drop k) = stB (prevO os (k + 1)) (os.drop (k + 1)) := by
  rw [stB_drop hk, decide_eq_true h, prevO_succ hk]; rfl
theorem storeB_a {os : List Ob} (h : stB (-1) os = false) : storeB os = false := by simp [storeB, h]
theorem storeB_b {os : List Ob} (h : ¬ os.length ≤ 16) : storeB os = false := by simp [storeB, h]
theorem storeB_c {os : List Ob} (h : stB (-1) os = true) : storeB os = decide (os.length ≤ 16) := by simp [storeB, h]
theorem iOb_valid {o : Ob} : (0 ≤ iOb o) ↔ vOb o = true := oid_valid
theorem iOb_range (o : Ob) : -1 ≤ iOb o ∧ iOb o < 991 := oid_range _ _ _
theorem iOb_of {o : Ob} (h : vOb o = true) : iOb o = idOf o.kd o.zs o.s.data.toList := if_pos h
theorem iOb_no {o : Ob} (h : vOb o = false) : iOb o = -1 := if_neg (by show ¬ vldB o.kd o.zs o.s.size = true; have : vldB o.kd o.zs o.s.size = false := h; rw [this]; decide)

theorem stB_sorted {last : Int} {os : List Ob} (h : stB last os = true) : ∀ i (hi : i < os.length), last < iOb os[i] ∧ ∀ j (hj : j < os.length), i < j → iOb os[i] < iOb os[j] := by
  induction os generalizing last with
  | nil => intro i hi; simp at hi
  | cons o os ih =>
    simp only [stB, Bool.and_eq_true, decide_eq_true_eq] at h
    intro i hi
    have r := ih h.2
    cases i with
    | zero =>
      refine ⟨h.1, fun j hj h0 => ?_⟩
      cases j with
      | zero => omega
      | succ j => exact (r j (by simpa using hj)).1
    | succ i =>
      have hi' : i < os.length := by simpa using hi
      refine ⟨by have := (r i hi').1; simp only [List.getElem_cons_succ]; omega, fun j hj h0 => ?_⟩
      cases j with
      | zero => omega
      | succ j => exact (r i hi').2 j (by simpa using hj) (by omega)
theorem storeB_parts {os : List Ob} (h : storeB os = true) : stB (-1) os = true ∧ os.length ≤ 16 := by simpa [storeB] using h
theorem stB_valid {os : List Ob} (h : stB (-1) os = true) : ∀ i (hi : i < os.length), vOb os[i] = true := fun i hi => by
  have := (stB_sorted h i hi).1
  exact iOb_valid.1 (by omega)
theorem storeB_valid {os : List Ob} (h : storeB os = true) : ∀ i (hi : i < os.length), vOb os[i] = true := fun i hi => by
  have := (stB_sorted (storeB_parts h).1 i hi).1
  exact iOb_valid.1 (by omega)
end Go.Proofs.Ytblknnifccmpkaa
namespace Go.Proofs.Ytblknnifccmpkaa
open Go.RowKit Wo Pu

/-- A world that below B is as W was. -/
structure Later (B : Nat) (W : World) where
  v : World
  h : Below B W v
instance later_nonempty {B : Nat} {W : World} : Nonempty (Later B W) := ⟨⟨W, Below.refl _ _⟩⟩
def Later.w {B : Nat} {W : World} (x : Later B W) : World := x.v
theorem Later.b {B : Nat} {W : World} (x : Later B W) : Below B W x.w := x.h
theorem Later.size {B : Nat} {W : World} (hB : B ≤ W.heap.size) (x : Later B W) : B ≤ x.w.heap.size := Nat.le_trans hB x.h.size
def InLater (B : Nat) (W : World) (w' : World) : Prop := ∃ x : Later B W, w' = x.w
theorem Later.cell {B : Nat} {W : World} {p : Addr} {v : Value} (h : W.cell? p = some v) (hp : p.block < B) (x : Later B W) : x.w.cell? p = some v := (x.h.cell hp).trans h
theorem Wo.Row.later {B : Nat} {W : World} {A : Option Addr} {vs : List Value} (h : Row W B A vs) (x : Later B W) : Row x.w B A vs := h.below x.h (Nat.le_refl _)
theorem Later.call {P : Program} {f : FuncId} {args : Array Value} {v : Value} {B : Nat} {W : World} (hB : B ≤ W.heap.size) (x : Later B W) (h : Calls P f args x.w (Ret v x.w)) :
    Calls P f args x.w fun e w'' => e = .returned v ∧ ∃ y : Later B W, w'' = y.w :=
  h.mono fun _ w'' ⟨he, hb⟩ => ⟨he, ⟨w'', x.h.trans (hb.mono (Later.size hB x))⟩, rfl⟩
theorem wp_region_later {P : Program} {id : Nat} {Q : Exit → Act → World → Prop} {a : Act} {w : World} {l : List Oper} (B : Nat) (hm : P.follows .mixedOrders = true) (hB : Region.lexB .any l.toArray = true)
    (h : wpQuiet P l.toArray (fun w' => ∃ x : Later B w, w' = x.w) (fun a' => ∀ w', (∃ x : Later B w, w' = x.w) → Q .normal a' w') l a) : (Code.region id l.toArray true).wp P Q a w :=
  wp_region_quiet (C := fun w' => ∃ x : Later B w, w' = x.w) hm hB ⟨⟨w.drew, (Below.refl B w).drew⟩, rfl⟩ (by simpa using h)
end Go.Proofs.Ytblknnifccmpkaa
namespace Go.Proofs.Ytblknnifccmpkaa
open Go.RowKit Wo Pu

theorem row_news {w : World} {B : Nat} {ad : Addr} {vs : List Value} (h : Row w B (some ad) vs) : ∀ j u, vs[j]? = some u → w.cell? (ad.add j) = some u := by
  rcases h with rfl | ⟨ad', e, _, hc⟩
  · intro j u hu
    simp at hu
  · injection e with e
    subst e
    exact hc

theorem run_append_nothing {P : Program} (w : World) (base : Nat) (t ty e : TypeId) (i : TypeInfo) (size : Nat) (ht : P.underlying t = some (.slice e)) (hi : P.info? e = some i)
    (v : Value) (n : Nat) (xs : List Value) (hown : w.ownsRow base e size v n xs) (c : Nat) : (Builtin.append_ #[t, t] ty #[v, .slice none 0 c]).run P w = .ok v w := by
  rcases hown.2 with ⟨rfl, rfl⟩ | ⟨g, cap, cur, rfl, _, _, hle, _⟩
  · simp [Builtin.append_, run_underlying ht, sizeOf, typeInfo, hi, Builtin.lenOf, Builtin.firstCells]
  · simp [Builtin.append_, run_underlying ht, sizeOf, typeInfo, hi, Builtin.lenOf, Builtin.firstCells, hle, storeCells]

theorem wpList_append_row {P : Program} (w : World) {ops : Array Oper} {rest : List Oper} {o : Oper} {a : Act} {Q : Exit → Act → World → Prop} (hgd : o.guard = none) (s x : Operand) (t : TypeId)
    (ho : o.op = .call { callee := .builtin .append, args := #[s, x], argTypes := #[t, t] })
    (base : Nat) (e : TypeId) (i : TypeInfo) (z : Value) (size bytes : Nat) (ht : P.underlying t = some (.slice e)) (hi : P.info? e = some i) (hz : i.zero = some z)
    (hsize : i.size = size) (hby : i.bytes = bytes) (hzs : z.cells.size = size) (hsz : 0 < size)
    (v : Value) (n : Nat) (xs : List Value) (hs : a.eval s = v) (hown : w.ownsRow base e size v n xs)
    (B : Nat) (A : Option Addr) (m c : Nat) (news : List Value) (hx : a.eval x = .slice A m c) (hr : Row w B A news) (hl : news.length = m * size) (h1 : ∀ u ∈ news, u.oneCell' = true)
    (h63 : n + m ≤ maxLen) (hbytes : (n + m) * bytes ≤ 140737488355328) (hbase : base ≤ w.heap.size)
    (h : ∀ v' w', w'.ownsRow base e size v' (n + m) (xs ++ news) → w.grownBy w' v.ownBlock → wpList P ops Q rest (a.put o.dst v') w') : wpList P ops Q (o :: rest) a w := by
  rcases A with _ | ad
  · have hnil : news = [] := by
      rcases hr with hr | ⟨ad, e, _⟩
      · exact hr
      · cases e
    subst hnil
    have hm : m = 0 := by
      rcases Nat.eq_zero_or_pos m with hm | hm
      · exact hm
      · have := Nat.mul_pos hm hsz
        simp at hl
        omega
    subst hm
    refine wpList_plain hgd fun K hK => ?_
    have hrun := run_append_nothing (P := P) w base t o.type e i size ht hi v n xs hown c
    unfold Oper.wp
    simp [execOp, ho, resolve, invoke, builtin, hs, hx, hrun, Result.andThen]
    exact hK _ _ (h v w (by simpa using hown) (World.grownBy.refl w _))
  · exact wpList_append_own w hgd s x t ho base e i z size bytes ht hi hz hsize hby hzs hsz v n xs hs hown ad m c news hx hl (row_news hr) h1 h63 hbytes hbase fun v' w' h2 h3 _ => h v' w' h2 h3

theorem step_append_row {P : Program} (w : World) {ops : Array Oper} {o : Oper} {a : Act} {K : Act → World → Prop} {Q : Exit → Act → World → Prop} {E : Prop} (hgd : o.guard = none) (s x : Operand) (t : TypeId)
    (ho : o.op = .call { callee := .builtin .append, args := #[s, x], argTypes := #[t, t] })
    (base : Nat) (e : TypeId) (i : TypeInfo) (z : Value) (size bytes : Nat) (ht : P.underlying t = some (.slice e)) (hi : P.info? e = some i) (hz : i.zero = some z)
    (hsize : i.size = size) (hby : i.bytes = bytes) (hzs : z.cells.size = size) (hsz : 0 < size)
    (v : Value) (n : Nat) (xs : List Value) (hs : a.eval s = v) (hown : w.ownsRow base e size v n xs)
    (B : Nat) (A : Option Addr) (m c : Nat) (news : List Value) (hx : a.eval x = .slice A m c) (hr : Row w B A news) (hl : news.length = m * size) (h1 : ∀ u ∈ news, u.oneCell' = true)
    (h63 : n + m ≤ maxLen) (hbytes : (n + m) * bytes ≤ 140737488355328) (hbase : base ≤ w.heap.size)
    (h : ∀ v' w', w'.ownsRow base e size v' (n + m) (xs ++ news) → w.grownBy w' v.ownBlock → K (a.put o.dst v') w') :
    if Region.wanted o (yielded ops a.tmps) = true then Oper.wp P o a w K Q else E := by
  have hw : Region.wanted o (yielded ops a.tmps) = true := by simp [Region.wanted, hgd]
  rw [if_pos hw]
  rcases A with _ | ad
  · have hnil : news = [] := by
      rcases hr with hr | ⟨ad, e, _⟩
      · exact hr
      · cases e
    subst hnil
    have hm : m = 0 := by
      rcases Nat.eq_zero_or_pos m with hm | hm
      · exact hm
      · have := Nat.mul_pos hm hsz
        simp at hl
        omega
    subst hm
    have hrun := run_append_nothing (P := P) w base t o.type e i size ht hi v n xs hown c
    unfold Oper.wp
    simp [execOp, ho, resolve, invoke, builtin, hs, hx, hrun, Result.andThen]
    exact h v w (by simpa using hown) (World.grownBy.refl w _)
  · exact wp_append_own w s x t ho base e i z size bytes ht hi hz hsize hby hzs hsz v n xs hs hown ad m c news hx hl (row_news hr) h1 h63 hbytes hbase fun v' w' h2 h3 _ => h v' w' h2 h3

theorem ints_cells (zs : List Int) : ∀ u ∈ ints zs, u.oneCell' = true := by
  intro u hu
  obtain ⟨z, _, rfl⟩ := List.mem_map.1 hu
  rfl
theorem nil_own {w : World} {B : Nat} (hB : B ≤ w.heap.size) (e : TypeId) (size : Nat) : (w.alloc (.cells #[] e)).ownsRow B e size (.slice (some ⟨w.heap.size, 0, none⟩) 0 0) 0 [] :=
  ⟨by simp, .inr ⟨w.heap.size, 0, #[], rfl, hB, heap_alloc_new w _, Nat.le_refl _, by decide, by simp, by simp⟩⟩
end Go.Proofs.Ytblknnifccmpkaa
