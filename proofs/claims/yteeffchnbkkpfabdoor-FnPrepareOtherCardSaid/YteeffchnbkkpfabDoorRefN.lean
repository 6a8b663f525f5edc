/-
  Walk: the program's refs without ids, as an array.
-/
import Derived.Test.YteeffchnbkkpfabDoorRefH
namespace Go.Proofs.YteeffchnbkkpfabDoor
open Go.RowKit Wo Pu Rf

theorem info_ra : (Tryd.prog.info? 73).map (·.size) = some 4 := by kernel_rfl
/-- The first k refs without an id. -/
def noneTo (k : Nat) : List Int := List.replicate k (-1) ++ List.replicate (4 - k) 0
theorem noneTo_length {k : Nat} (h : k ≤ 4) : (noneTo k).length = 4 := by simp [noneTo]; omega
theorem noneTo_set {k : Nat} (h : k < 4) : (noneTo k).set k (-1) = noneTo (k + 1) := by
  have key : k = 0 ∨ k = 1 ∨ k = 2 ∨ k = 3 := by omega
  rcases key with rfl | rfl | rfl | rfl <;> rfl
/-- Behind it: the array of four refs without ids. -/
def NewRefs (w : World) (e : Ending) (w' : World) : Prop := e = .returned (.agg (ints [-1, -1, -1, -1]).toArray) ∧ Below w.heap.size w w'
set_option maxRecDepth 100000 in
set_option maxHeartbeats 4000000 in
theorem newRefs_is (w : World) : Calls Tryd.prog 100 #[] w (NewRefs w) := by
  have a0 := Arr4.new_ w 73 (ints [0, 0, 0, 0])
  have a1 := Arr4.new_ (w.alloc (.cells (ints [0, 0, 0, 0]).toArray 73)) 73 (ints [0, 0, 0, 0])
  have al := Below.refl (w.alloc (.cells (ints [0, 0, 0, 0]).toArray 73)).heap.size (w.alloc (.cells (ints [0, 0, 0, 0]).toArray 73))
  have a01 := a0.below (al.alloc (Nat.le_refl _) (.cells (ints [0, 0, 0, 0]).toArray 73)) (by simp)
  have b1 := ((Below.refl w.heap.size w).alloc (Nat.le_refl _) (.cells (ints [0, 0, 0, 0]).toArray 73)).alloc (by simp) (.cells (ints [0, 0, 0, 0]).toArray 73)
  rw [World.size_alloc] at a1
  go_enter Tryd.func100, Tryd.ntmps100
  go_wp2_with fail
  go_loopw [2, 3] (fun _ i wr => ∃ k : Nat, k ≤ 4 ∧ i = .int .i64 k ∧ Arr4 wr (w.heap.size + 1) 73 (ints (noneTo k)) ∧ Arr4 wr w.heap.size 73 (ints [0, 0, 0, 0]) ∧ Below w.heap.size w wr) (fun _ i _ => 4 - (intOf i).toNat)
  case atStart => exact ⟨0, Nat.zero_le _, rfl, a1, a01, b1⟩
  case round =>
    clear a0 a1 al a01 b1
    obtain ⟨k, hk, rfl, a, a0, hb⟩ := hrel
    have hl := noneTo_length hk
    by_cases hlt : k < 4
    · have q0 : (0 : Int) ≤ (k : Int) := by omega
      have q1 : (k : Int) < 4 := by omega
      have y0 := a.read (i := k) (by rw [ints_length, hl]; exact hlt)
      have f0 := a.frozen k
      have a5 := a.set k (.int .i64 (-1))
      have e5 : (ints (noneTo k)).set k (.int .i64 (-1)) = ints (noneTo (k + 1)) := by rw [← noneTo_set hlt]; unfold ints; rw [List.map_set]
      rw [e5] at a5
      have a05 := a0.far (p := ⟨w.heap.size + 1, k, none⟩) (by show w.heap.size ≠ w.heap.size + 1; omega) (.int .i64 (-1))
      have b5 := hb.setCell (p := ⟨w.heap.size + 1, k, none⟩) (Nat.le_succ _) (.int .i64 (-1))
      clear a a0 hb e5
      go_wp2
      go_roundw
      case rel => exact ⟨k + 1, by omega, by go_num, a5, a05, b5⟩
      case measure => simp [intOf]; omega
    · have hk' : k = 4 := by omega
      subst hk'
      have h4 : wr.heap[w.heap.size + 1]? = some (.cells (ints (noneTo 4)).toArray 73 (0, 0)) := a
      have h0 : wr.heap[w.heap.size]? = some (.cells (ints [0, 0, 0, 0]).toArray 73 (0, 0)) := a0
      clear hl a a0
      go_wp2_with (first
        | (refine wpList_load_row rfl 73 _ rfl (w.heap.size + 1) rfl 73 (ints (noneTo 4)).toArray (0, 0) _ h4 Tryd.underlying73 rfl info_ra ?_)
        | (refine wpList_store_rowTo rfl 73 _ _ rfl rfl w.heap.size (ints (noneTo 4)).toArray rfl rfl 73 (ints [0, 0, 0, 0]).toArray h0 info_ra rfl (ints_ones _) ?_))
      have h2 : (wr.setRow w.heap.size (ints (noneTo 4)).toArray).heap[w.heap.size]? = some (.cells (ints (noneTo 4)).toArray 73 (0, 0)) := setRow_heap wr _ _ _ _ _ h0
      have b9 := below_setRow hb (Nat.le_refl _) (ints (noneTo 4)).toArray
      refine bodyPost_ret (v := .agg (ints (noneTo 4)).toArray) (results_cell_row (p := 0) (by kernel_rfl) _ _ w.heap.size 73 _ (0, 0) _ rfl h2 Tryd.underlying73 rfl info_ra) rfl ⟨rfl, b9⟩
end Go.Proofs.YteeffchnbkkpfabDoor
