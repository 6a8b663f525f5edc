/-
  Walk: whether refs are valid, by the program.
-/
import Derived.Test.YtjplondblkkpmaaG3C
namespace Go.Proofs.Ytjplondblkkpmaa
open Go.RowKit Wo Pu Rf

theorem row_hereV {w : World} {B : Nat} {A : Option Addr} {vs : List Value} (h : Row w B A vs) : Row w w.heap.size A vs := by
  rcases h with h | ⟨ad, e, hb, hc⟩
  · exact .inl h
  · cases vs with
    | nil => exact .inl rfl
    | cons v vs =>
      refine .inr ⟨ad, e, ?_, hc⟩
      have := hc 0 v rfl
      rw [add_zero] at this
      exact block_lt_of_cell this
/-- An array of refs, and whether the refs are valid: if they are, they are these. -/
def ArrOf (b : Bool) (zs : List Int) (w : World) (e : Ending) (w' : World) : Prop := ∃ ys : List Int, e = .returned (.tuple #[.agg (ints ys).toArray, .bool b]) ∧ ys.length = 4 ∧ Hid (b = true → ys = zs) ∧ Below w.heap.size w w'
theorem readRefs_arr (b : Bool) (A : Option Addr) (c : Nat) (zs : List Int) (w : World) (B : Nat) (hr : Row w B A (ints zs)) (hb : b = true ↔ RV zs) :
    Calls Try.prog 42 #[.slice A zs.length c] w (ArrOf b zs w) :=
  (readRefs_is b A c zs w _ (row_hereV hr) (Nat.le_refl _) hb).mono fun _ _ h => ⟨_, h.1, by
    cases b with
    | false => rfl
    | true => exact (hb.1 rfl).1, fun e => by rw [e]; rfl, h.2⟩
theorem arr_size {ys : List Int} (h : ys.length = 4) : (ints ys).toArray.size = 4 := by rw [List.size_toArray, ints_length, h]
theorem arr_info {ys : List Int} (h : ys.length = 4) : (Try.prog.info? 61).map (·.size) = some (ints ys).toArray.size := by rw [arr_size h]; exact info_refs
/-- A new block of refs that have been stored into it. -/
theorem arr_new (w : World) (ys : List Int) : Arr4 ((w.alloc (.cells (ints [0, 0, 0, 0]).toArray 61)).setRow w.heap.size (ints ys).toArray) w.heap.size 61 (ints ys) := (Arr4.new_ w 61 (ints [0, 0, 0, 0])).setRow (ints ys)
theorem arr_below {w0 w : World} {B : Nat} (hb : Below B w0 w) (hB : B ≤ w.heap.size) (ys : List Int) : Below B w0 ((w.alloc (.cells (ints [0, 0, 0, 0]).toArray 61)).setRow w.heap.size (ints ys).toArray) := below_setRow (hb.alloc hB _) hB _
theorem arr_old (w : World) : (w.alloc (.cells (ints [0, 0, 0, 0]).toArray 61)).heap[w.heap.size]? = some (.cells (ints [0, 0, 0, 0]).toArray 61 (0, 0)) := heap_alloc_new w _
theorem arr_sz (w : World) (ys : List Int) : ((w.alloc (.cells (ints [0, 0, 0, 0]).toArray 61)).setRow w.heap.size (ints ys).toArray).heap.size = w.heap.size + 1 := by rw [size_setRow, World.size_alloc]
set_option maxHeartbeats 4000000 in
theorem implRefsValid_is (b : Bool) (A : Option Addr) (c : Nat) (zs : List Int) (w : World) (B : Nat) (hr : Row w B A (ints zs)) (_ : zs.length ≤ 1048600) (hb : b = true ↔ RV zs) :
    Calls Try.prog 15 #[.slice A zs.length c] w (Ret (.bool b) w) := by
  have CR := hid (readRefs_arr b A c zs w B hr hb)
  clear hb
  go_enter Try.func15, Try.ntmps15
  go_wp2_with fail
  refine CR.out.mono ?_
  rintro e w1 ⟨ys, rfl, h4, -, hb1⟩
  have H4 := hid h4
  have hs := arr_old w1
  have hb2 := arr_below hb1 hb1.size ys
  clear h4
  go_wp2_with (refine wpList_store_rowTo rfl 61 _ _ rfl rfl w1.heap.size (ints ys).toArray rfl rfl 61 (ints [0, 0, 0, 0]).toArray hs (arr_info H4.out) (arr_size H4.out).symm (ints_ones _) ?_)
  go_ret
  exact .mk_ hb2
end Go.Proofs.Ytjplondblkkpmaa
