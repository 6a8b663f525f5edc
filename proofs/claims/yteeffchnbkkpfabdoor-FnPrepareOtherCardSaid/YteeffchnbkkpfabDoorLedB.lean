/- The coordinator with the slices $SA and $SB is stored as the answer, with the word $BB. -/
/-
  Walks: what the program's ledger is after a transaction is decided.
-/
import Derived.Test.YteeffchnbkkpfabDoorG8C
import Derived.Test.YteeffchnbkkpfabDoorLockE
import Derived.Deep.Cut
namespace Go.Proofs.YteeffchnbkkpfabDoor
open Go.RowKit Wo Pu Rf Lk Sh

/-- Behind it: the locks of a transaction are freed, its state is told. -/
def DecO (zs : List Int) (n : Nat) (qs st : List Int) (us : List Value) (w : World) (e : Ending) (w' : World) : Prop :=
  ∃ A' c', e = .returned (.agg (ledC zs (.slice A' n c') st us).toArray) ∧ OwnI w' w.heap.size (.slice A' n c') qs ∧ Below w.heap.size w w'
set_option maxRecDepth 100000 in
set_option maxHeartbeats 4000000 in
theorem decided_is (zs st locks : List Int) (A : Option Addr) (c : Nat) (us : List Value) (m : Nat) (z : Int) (w : World) (h1 : zs.length = 4) (h2 : st.length = 12) (h3 : us.length = 12) (hu : ∀ u ∈ us, u.oneCell' = true) (hr : Row w w.heap.size A (ints locks)) (hl : LV locks) (hm : m < 12) :
    Calls Tryd.prog 105 #[.agg (ledC zs (.slice A locks.length c) st us).toArray, .int .i64 (m : Int), .int .i64 z] w (DecO zs locks.length (freeL m locks) (st.set m z) us w) := by
  obtain ⟨bb, hbb⟩ := bool_of (true = true ∧ (m : Int) ∈ locks)
  have hl4 := hl.1
  have CF : Hid (∀ x, Row x x.heap.size A (ints locks) → Calls Tryd.prog 108 #[.slice A locks.length c, .int .i64 (m : Int)] x (Took (freeL m locks) bb x)) := fun x hx =>
    implLocksFree_is true bb _ A c locks m x hx (by omega) ⟨fun _ => ⟨hl, by unfold TV; omega⟩, fun _ => rfl⟩ hbb rfl
  have hL := hid (Led.mk_ (L := .slice A locks.length c) (us := us) h1 h2 h3 rfl hu)
  have HL : Hid (∀ A' c', Led (ledC zs (.slice A' locks.length c') (st.set m z) us)) := fun A' c' => Led.mk_ h1 (by rw [List.length_set]; exact h2) h3 rfl hu
  have HS : Hid (∀ A' c', ((ledC zs (.slice A locks.length c) st us).set 4 (.slice A' locks.length c')).set (5 + m) (.int .i64 z) = ledC zs (.slice A' locks.length c') (st.set m z) us) := fun A' c' => by rw [ledC_set_locks h1, ledC_set_state h1 h2 hm]
  have HY := hid (ledC_locks (L := .slice A locks.length c) (st := st) (us := us) h1)
  obtain ⟨cs, hcs⟩ : ∃ cs, ledC zs (.slice A locks.length c) st us = cs := ⟨_, rfl⟩
  have hfl := free_length (m : Int) locks
  rw [hcs] at hL HS HY ⊢
  clear hcs hbb hl h1 h2 h3 hu hl4
  have a0 := (Arr4.new_ w 82 cs).alloc (.cells led0.toArray 82)
  have a1 := Arr4.new_ (w.alloc (.cells cs.toArray 82)) 82 led0
  have b1 := ((Below.refl w.heap.size w).alloc (Nat.le_refl _) (.cells cs.toArray 82)).alloc (by simp) (.cells led0.toArray 82)
  rw [World.size_alloc] at a1
  go_enter Tryd.func105, Tryd.ntmps105
  go_upto_region 1 with fail
  obtain ⟨W, hW⟩ : ∃ x, (w.alloc (.cells cs.toArray 82)).alloc (.cells led0.toArray 82) = x := ⟨_, rfl⟩
  change Code.wp _ _ _ _ ((w.alloc (.cells cs.toArray 82)).alloc (.cells led0.toArray 82))
  rw [hW] at a0 a1 b1 ⊢
  clear hW
  have y4 : W.cell? ⟨w.heap.size, 4, none⟩ = some (.slice A locks.length c) := by
    rw [a0.read (i := 4) (by rw [hL.out.1]; omega), ← List.getElem?_eq_getElem, HY.out]
  go_wp2_with fail
  refine (CF.out _ (row_on hr b1)).mono ?_
  rintro e w2 ⟨A2, c2, rfl, o2, d2⟩
  rw [hfl] at o2 ⊢
  have b2 := b1.trans (d2.mono b1.size)
  have q0 := a0.below d2 a0.lt
  have q1 := a1.below d2 a1.lt
  have o2' := o2.base (B' := w.heap.size) b1.size
  clear a0 a1 b1 d2 y4 CF hr o2
  have k0 : (0 : Int) ≤ (m : Int) := by omega
  have k1 : (m : Int) < 12 := by omega
  obtain ⟨v4, y4⟩ : ∃ v, w2.cell? ⟨w.heap.size, 4, none⟩ = some v := ⟨_, q0.read (i := 4) (by rw [hL.out.1]; omega)⟩
  have f4 := q0.frozen 4
  obtain ⟨L2, hL2⟩ : ∃ L2, Value.slice A2 locks.length c2 = L2 := ⟨_, rfl⟩
  have r0 := q0.set 4 L2
  have r1 := q1.far (p := ⟨w.heap.size, 4, none⟩) (by show w.heap.size + 1 ≠ w.heap.size; omega) L2
  have o3 := o2'.keptT (by decide) (but_set w2 w.heap.size 4 L2) (blk_type q0)
  have b3 := b2.setCell (p := ⟨w.heap.size, 4, none⟩) (Nat.le_refl _) L2
  obtain ⟨v5, y5⟩ : ∃ v, (w2.setCell ⟨w.heap.size, 4, none⟩ L2).cell? ⟨w.heap.size, 5 + m, none⟩ = some v := ⟨_, r0.read (i := 5 + m) (by rw [List.length_set, hL.out.1]; omega)⟩
  have f5 := r0.frozen (5 + m)
  have s0 := r0.set (5 + m) (.int .i64 z)
  have s1 := r1.far (p := ⟨w.heap.size, 5 + m, none⟩) (by show w.heap.size + 1 ≠ w.heap.size; omega) (.int .i64 z)
  have o4 := o3.keptT (by decide) (but_set _ w.heap.size (5 + m) (.int .i64 z)) (blk_type r0)
  have b4 := b3.setCell (p := ⟨w.heap.size, 5 + m, none⟩) (Nat.le_refl _) (.int .i64 z)
  subst hL2
  rw [HS.out] at s0
  have hL' := hid (HL.out A2 c2)
  obtain ⟨cs', hcs⟩ : ∃ cs', ledC zs (.slice A2 locks.length c2) (st.set m z) us = cs' := ⟨_, rfl⟩
  have HC := hid hcs
  rw [hcs] at s0 hL'
  have hld : ((w2.setCell ⟨w.heap.size, 4, none⟩ (.slice A2 locks.length c2)).setCell ⟨w.heap.size, 5 + m, none⟩ (.int .i64 z)).heap[w.heap.size]? = some (.cells cs'.toArray 82 (0, 0)) := s0
  have hs : ((w2.setCell ⟨w.heap.size, 4, none⟩ (.slice A2 locks.length c2)).setCell ⟨w.heap.size, 5 + m, none⟩ (.int .i64 z)).heap[w.heap.size + 1]? = some (.cells led0.toArray 82 (0, 0)) := s1
  clear hcs q0 q1 r0 r1 o2' o3 b2 b3
  go_wp2_with (first
    | (refine wpList_load_row rfl 82 _ rfl w.heap.size rfl 82 cs'.toArray (0, 0) _ hld Tryd.underlying82 rfl hL'.out.info ?_)
    | (refine wpList_store_rowTo rfl 82 _ _ rfl rfl (w.heap.size + 1) cs'.toArray rfl rfl 82 led0.toArray hs hL'.out.info (led0_led.size.trans hL'.out.size.symm) hL'.out.2 ?_))
  have h2 := setRow_heap _ _ _ cs'.toArray _ _ hs
  have b9 := below_setRow b4 (Nat.le_succ _) cs'.toArray
  have o9 := o4.keptT (by decide) (but_setRow _ (w.heap.size + 1) cs'.toArray) (blk_type s1)
  refine bodyPost_ret (v := .agg cs'.toArray) (results_cell_row (p := 6) (by kernel_rfl) _ _ (w.heap.size + 1) 82 _ (0, 0) _ rfl h2 Tryd.underlying82 rfl hL'.out.info) rfl ⟨A2, c2, by rw [HC.out], o9, b9⟩
end Go.Proofs.YteeffchnbkkpfabDoor
