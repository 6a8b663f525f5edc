/-
  Walk: the program's refs without ids, as an array.
  Walks: the program's updates of an array of refs; which refs are updated.
  Walk: whether refs are valid, by the program.
-/
import Derived.Test.YtelmeknpmlbplaaG3C
namespace Go.Proofs.Ytelmeknpmlbplaa
open Go.RowKit Wo Pu Rf

set_option linter.unusedVariables false in
set_option linter.unusedSimpArgs false in
theorem info_ra : (Try.prog.info? 78).map (·.size) = some 4 := by kernel_rfl
set_option linter.unusedVariables false in
/-- The first k refs without an id. -/
def noneTo (k : Nat) : List Int := List.replicate k (-1) ++ List.replicate (4 - k) 0
set_option linter.unusedVariables false in
set_option linter.unusedSimpArgs false in
theorem noneTo_length {k : Nat} (h : k ≤ 4) : (noneTo k).length = 4 := by simp [noneTo]; omega
set_option linter.unusedVariables false in
set_option linter.unusedSimpArgs false in
theorem noneTo_set {k : Nat} (h : k < 4) : (noneTo k).set k (-1) = noneTo (k + 1) := by
  have key : k = 0 ∨ k = 1 ∨ k = 2 ∨ k = 3 := by omega
  rcases key with rfl | rfl | rfl | rfl <;> rfl
set_option linter.unusedVariables false in
/-- Behind it: the array of four refs without ids. -/
def NewRefs (w : World) (e : Ending) (w' : World) : Prop := e = .returned (.agg (ints [-1, -1, -1, -1]).toArray) ∧ Below w.heap.size w w'
set_option linter.unusedVariables false in
set_option linter.unusedSimpArgs false in
set_option maxRecDepth 100000 in
set_option maxHeartbeats 4000000 in
theorem newRefs_is (w : World) : Calls Try.prog 50 #[] w (NewRefs w) := by
  have a0 := Arr4.new_ w 78 (ints [0, 0, 0, 0])
  have a1 := Arr4.new_ (w.alloc (.cells (ints [0, 0, 0, 0]).toArray 78)) 78 (ints [0, 0, 0, 0])
  have al := Below.refl (w.alloc (.cells (ints [0, 0, 0, 0]).toArray 78)).heap.size (w.alloc (.cells (ints [0, 0, 0, 0]).toArray 78))
  have a01 := a0.below (al.alloc (Nat.le_refl _) (.cells (ints [0, 0, 0, 0]).toArray 78)) (by simp)
  have b1 := ((Below.refl w.heap.size w).alloc (Nat.le_refl _) (.cells (ints [0, 0, 0, 0]).toArray 78)).alloc (by simp) (.cells (ints [0, 0, 0, 0]).toArray 78)
  rw [World.size_alloc] at a1
  go_enter Try.func50, Try.ntmps50
  go_wp2_with fail
  go_loopw [2, 3] (fun _ i wr => ∃ k : Nat, k ≤ 4 ∧ i = .int .i64 k ∧ Arr4 wr (w.heap.size + 1) 78 (ints (noneTo k)) ∧ Arr4 wr w.heap.size 78 (ints [0, 0, 0, 0]) ∧ Below w.heap.size w wr) (fun _ i _ => 4 - (intOf i).toNat)
  case atStart => exact ⟨0, Nat.zero_le _, rfl, a1, a01, b1⟩
  case round =>
    clear a0 a1 al a01 b1
    obtain ⟨k, hk, rfl, a, a0, hb⟩ := hrel
    have hl := noneTo_length hk
    by_cases hlt : k < 4
    · have q0 : (0 : Int) ≤ (k : Int) := by omega
      have q1 : (k : Int) < 4 := by omega
      have y0 := a.read (i := k) (by rw [ints_length, hl]; exact hlt)
      have f0 := a.frozen k
      have a5 := a.set k (.int .i64 (-1))
      have e5 : (ints (noneTo k)).set k (.int .i64 (-1)) = ints (noneTo (k + 1)) := by rw [← noneTo_set hlt]; unfold ints; rw [List.map_set]
      rw [e5] at a5
      have a05 := a0.far (p := ⟨w.heap.size + 1, k, none⟩) (by show w.heap.size ≠ w.heap.size + 1; omega) (.int .i64 (-1))
      have b5 := hb.setCell (p := ⟨w.heap.size + 1, k, none⟩) (Nat.le_succ _) (.int .i64 (-1))
      clear a a0 hb e5
      go_wp2
      go_roundw
      case rel => exact ⟨k + 1, by omega, by go_num, a5, a05, b5⟩
      case measure => simp [intOf]; omega
    · have hk' : k = 4 := by omega
      subst hk'
      have h4 : wr.heap[w.heap.size + 1]? = some (.cells (ints (noneTo 4)).toArray 78 (0, 0)) := a
      have h0 : wr.heap[w.heap.size]? = some (.cells (ints [0, 0, 0, 0]).toArray 78 (0, 0)) := a0
      clear hl a a0
      go_wp2_with (first
        | (refine wpList_load_row rfl 78 _ rfl (w.heap.size + 1) rfl 78 (ints (noneTo 4)).toArray (0, 0) _ h4 Try.underlying78 rfl info_ra ?_)
        | (refine wpList_store_rowTo rfl 78 _ _ rfl rfl w.heap.size (ints (noneTo 4)).toArray rfl rfl 78 (ints [0, 0, 0, 0]).toArray h0 info_ra rfl (ints_ones _) ?_))
      have h2 : (wr.setRow w.heap.size (ints (noneTo 4)).toArray).heap[w.heap.size]? = some (.cells (ints (noneTo 4)).toArray 78 (0, 0)) := setRow_heap wr _ _ _ _ _ h0
      have b9 := below_setRow hb (Nat.le_refl _) (ints (noneTo 4)).toArray
      refine bodyPost_ret (v := .agg (ints (noneTo 4)).toArray) (results_cell_row (p := 0) (by kernel_rfl) _ _ w.heap.size 78 _ (0, 0) _ rfl h2 Try.underlying78 rfl info_ra) rfl ⟨rfl, b9⟩
end Go.Proofs.Ytelmeknpmlbplaa
namespace Go.Proofs.Ytelmeknpmlbplaa
open Go.RowKit Wo Pu Rf

/-- What updated answers. -/
def Updt (b : Bool) (zs : List Int) (us : List Up) (w : World) (e : Ending) (w' : World) : Prop := e = .returned (.tuple #[.agg (ints (if b then setR zs us else zs)).toArray, .bool b]) ∧ Below w.heap.size w w'
theorem Arr4.setRow {w : World} {g : Nat} {t : TypeId} {vs : List Value} (h : Arr4 w g t vs) (cs : List Value) : Arr4 (w.setRow g cs.toArray) g t cs := setRow_heap w g _ _ t _ h
theorem Arr4.farRow {w : World} {g g' : Nat} {t : TypeId} {vs : List Value} (h : Arr4 w g t vs) (hg : g ≠ g') (cs : Array Value) : Arr4 (w.setRow g' cs) g t vs := (setRow_other w g' g cs hg).trans h
theorem Arr4.alloc {w : World} {g : Nat} {t : TypeId} {vs : List Value} (h : Arr4 w g t vs) (o : Obj) : Arr4 (w.alloc o) g t vs := (heap_alloc_old w o h.lt).trans h
end Go.Proofs.Ytelmeknpmlbplaa
namespace Go.Proofs.Ytelmeknpmlbplaa
open Go.RowKit Wo Pu Rf

theorem row_hereV {w : World} {B : Nat} {A : Option Addr} {vs : List Value} (h : Row w B A vs) : Row w w.heap.size A vs := by
  rcases h with h | ⟨ad, e, hb, hc⟩
  · exact .inl h
  · cases vs with
    | nil => exact .inl rfl
    | cons v vs =>
      refine .inr ⟨ad, e, ?_, hc⟩
      have := hc 0 v rfl
      rw [add_zero] at this
      exact block_lt_of_cell this
/-- An array of refs, and whether the refs are valid: if they are, they are these. -/
def ArrOf (b : Bool) (zs : List Int) (w : World) (e : Ending) (w' : World) : Prop := ∃ ys : List Int, e = .returned (.tuple #[.agg (ints ys).toArray, .bool b]) ∧ ys.length = 4 ∧ Hid (b = true → ys = zs) ∧ Below w.heap.size w w'
theorem readRefs_arr (b : Bool) (A : Option Addr) (c : Nat) (zs : List Int) (w : World) (B : Nat) (hr : Row w B A (ints zs)) (hb : b = true ↔ RV zs) :
    Calls Try.prog 55 #[.slice A zs.length c] w (ArrOf b zs w) :=
  (readRefs_is b A c zs w _ (row_hereV hr) (Nat.le_refl _) hb).mono fun _ _ h => ⟨_, h.1, by
    cases b with
    | false => rfl
    | true => exact (hb.1 rfl).1, fun e => by rw [e]; rfl, h.2⟩
theorem arr_size {ys : List Int} (h : ys.length = 4) : (ints ys).toArray.size = 4 := by rw [List.size_toArray, ints_length, h]
theorem arr_info {ys : List Int} (h : ys.length = 4) : (Try.prog.info? 78).map (·.size) = some (ints ys).toArray.size := by rw [arr_size h]; exact info_refs
/-- A new block of refs that have been stored into it. -/
theorem arr_new (w : World) (ys : List Int) : Arr4 ((w.alloc (.cells (ints [0, 0, 0, 0]).toArray 78)).setRow w.heap.size (ints ys).toArray) w.heap.size 78 (ints ys) := (Arr4.new_ w 78 (ints [0, 0, 0, 0])).setRow (ints ys)
theorem arr_below {w0 w : World} {B : Nat} (hb : Below B w0 w) (hB : B ≤ w.heap.size) (ys : List Int) : Below B w0 ((w.alloc (.cells (ints [0, 0, 0, 0]).toArray 78)).setRow w.heap.size (ints ys).toArray) := below_setRow (hb.alloc hB _) hB _
theorem arr_old (w : World) : (w.alloc (.cells (ints [0, 0, 0, 0]).toArray 78)).heap[w.heap.size]? = some (.cells (ints [0, 0, 0, 0]).toArray 78 (0, 0)) := heap_alloc_new w _
theorem arr_sz (w : World) (ys : List Int) : ((w.alloc (.cells (ints [0, 0, 0, 0]).toArray 78)).setRow w.heap.size (ints ys).toArray).heap.size = w.heap.size + 1 := by rw [size_setRow, World.size_alloc]
set_option maxHeartbeats 4000000 in
theorem implRefsValid_is (b : Bool) (A : Option Addr) (c : Nat) (zs : List Int) (w : World) (B : Nat) (hr : Row w B A (ints zs)) (_ : zs.length ≤ 1048600) (hb : b = true ↔ RV zs) :
    Calls Try.prog 18 #[.slice A zs.length c] w (Ret (.bool b) w) := by
  have CR := hid (readRefs_arr b A c zs w B hr hb)
  clear hb
  go_enter Try.func18, Try.ntmps18
  go_wp2_with fail
  refine CR.out.mono ?_
  rintro e w1 ⟨ys, rfl, h4, -, hb1⟩
  have H4 := hid h4
  have hs := arr_old w1
  have hb2 := arr_below hb1 hb1.size ys
  clear h4
  go_wp2_with (refine wpList_store_rowTo rfl 78 _ _ rfl rfl w1.heap.size (ints ys).toArray rfl rfl 78 (ints [0, 0, 0, 0]).toArray hs (arr_info H4.out) (arr_size H4.out).symm (ints_ones _) ?_)
  go_ret
  exact .mk_ hb2
end Go.Proofs.Ytelmeknpmlbplaa
