/- The coordinator with the slices $SA and $SB is stored as the answer, with the word $BB. -/
/-
  Walks: what the program's ledger is after a vote.
-/
import Derived.Test.YteeffchnbkkpfabDoorLedB
namespace Go.Proofs.YteeffchnbkkpfabDoor
open Go.RowKit Wo Pu Rf Lk Sh

/-- Behind it: a ledger and a word; a false one tells nothing. -/
def LedBad (w : World) (e : Ending) (w' : World) : Prop := ∃ cs', Led cs' ∧ e = .returned (.tuple #[.agg cs'.toArray, .bool false]) ∧ Below w.heap.size w w'
def PrepO (b : Bool) (zs : List Int) (n : Nat) (qs st : List Int) (us : List Value) (w : World) (e : Ending) (w' : World) : Prop :=
  (b = false ∧ LedBad w e w') ∨ (b = true ∧ ∃ A' c', e = .returned (.tuple #[.agg (ledC zs (.slice A' n c') st us).toArray, .bool true]) ∧ OwnI w' w.heap.size (.slice A' n c') qs ∧ Below w.heap.size w w')
set_option maxRecDepth 100000 in
set_option maxHeartbeats 8000000 in
theorem prepared_is (b : Bool) (zs st locks : List Int) (A : Option Addr) (c : Nat) (us : List Value) (m : Nat) (AL : Option Addr) (cL : Nat) (ups : List Up) (x : Int) (w : World) (er0 er1 : Addr) (h1 : zs.length = 4) (h2 : st.length = 12) (h3 : us.length = 12) (hu : ∀ u ∈ us, u.oneCell' = true)
    (hr : Row w w.heap.size A (ints locks)) (hl : LV locks) (hm : m < 12) (hU : Row w w.heap.size AL (upsV ups)) (uv : UV ups) (hlen : ups.length ≤ 1048600) (hE : Errs er0 er1 w) (hx : st[m]? = some x) (hb : b = true ↔ x = 0 ∧ Fits zs ups ∧ Fits locks (lk m ups)) :
    Calls Tryd.prog 101 #[.agg (ledC zs (.slice A locks.length c) st us).toArray, .int .i64 (m : Int), .slice AL ups.length cL] w (PrepO b zs locks.length (setR locks (lk m ups)) (st.set m 1) (us.set m (.slice AL ups.length cL)) w) := by
  obtain ⟨bu, hbu⟩ := bool_of (Fits zs ups)
  obtain ⟨bl, hbl⟩ := bool_of (Fits locks (lk m ups))
  have hl4 := hl.1
  have tv : TV (m : Int) := by unfold TV; omega
  have hI : (Tryd.prog.info? 73).map (·.size) = some (ints zs).length := by rw [ints_length, h1]; exact info_refsJ
  have hJ : ∀ ys : List Int, ys.length = 4 → (Tryd.prog.info? 73).map (·.size) = some (ints ys).toArray.size := fun ys hy => by rw [List.size_toArray, ints_length, hy]; exact info_refsJ
  obtain ⟨ys, hys⟩ : ∃ ys, (if bu then setR zs ups else zs) = ys := ⟨_, rfl⟩
  have hyl : ys.length = 4 := by rw [← hys]; cases bu with
    | false => exact h1
    | true => show (setR zs ups).length = 4; rw [setR_length]; exact h1
  have CU : Hid (∀ y, Row y y.heap.size AL (upsV ups) → Calls Tryd.prog 55 #[.agg (ints zs).toArray, .slice AL ups.length cL] y (Updt bu zs ups y)) := fun y hy => updated_is bu AL cL zs ups y h1 hy (refs4_of uv) hlen hbu
  have CT : Hid (∀ y, Row y y.heap.size A (ints locks) → Row y y.heap.size AL (upsV ups) → Errs er0 er1 y → ∃ q, Calls Tryd.prog 104 #[.slice A locks.length c, .int .i64 (m : Int), .slice AL ups.length cL] y (Took q bl y) ∧ q.length = locks.length ∧ (bl = true → q = setR locks (lk m ups))) := fun y hy hyu he => by
    cases bl with
    | true => exact ⟨_, implLocksTake_is .yes er0 er1 A AL c cL locks m ups y he hy hyu (by omega) hlen ⟨hl, tv, uv, hbl.1 rfl⟩, by show (setR locks (lk m ups)).length = _; rw [setR_length], fun _ => rfl⟩
    | false => exact ⟨_, implLocksTake_is .no er0 er1 A AL c cL locks m ups y he hy hyu (by omega) hlen ⟨hl, tv, uv, fun e => by have := hbl.2 e; cases this⟩, rfl, fun e => by cases e⟩
  have HB : Hid (b = (decide (x = 0) && bu && bl)) := by
    show b = _
    rw [Bool.eq_iff_iff, hb]
    simp only [Bool.and_eq_true, decide_eq_true_eq, hbu, hbl, and_assoc]
  have hL := hid (Led.mk_ (L := .slice A locks.length c) (us := us) h1 h2 h3 rfl hu)
  have HL : Hid (∀ A' c', Led (ledC zs (.slice A' locks.length c') (st.set m 1) (us.set m (.slice AL ups.length cL)))) := fun A' c' => Led.mk_ h1 (by rw [List.length_set]; exact h2) (by rw [List.length_set]; exact h3) rfl (fun u hu' => by
    rcases List.mem_or_eq_of_mem_set hu' with e | rfl
    · exact hu u e
    · rfl)
  have HS : Hid (∀ A' c', (((ledC zs (.slice A locks.length c) st us).set 4 (.slice A' locks.length c')).set (17 + m) (.slice AL ups.length cL)).set (5 + m) (.int .i64 1) = ledC zs (.slice A' locks.length c') (st.set m 1) (us.set m (.slice AL ups.length cL))) := fun A' c' => by rw [ledC_set_locks h1, ledC_set_ups h1 h2, ledC_set_state h1 h2 hm]
  have HY := hid (ledC_locks (L := .slice A locks.length c) (st := st) (us := us) h1)
  have HX : Hid ((ledC zs (.slice A locks.length c) st us)[5 + m]? = some (.int .i64 x)) := by
    show _ = _
    rw [ledC_state h1 h2 hm]
    rw [List.getElem?_eq_getElem (by omega)] at hx
    injection hx with hx
    rw [hx]
  have HR : Hid (∀ j v, (ints zs)[j]? = some v → (ledC zs (.slice A locks.length c) st us)[j]? = some v) := fun j v h => ledC_range h
  obtain ⟨cs, hcs⟩ : ∃ cs, ledC zs (.slice A locks.length c) st us = cs := ⟨_, rfl⟩
  rw [hcs] at hL HS HY HX HR ⊢
  have HJ := hid hJ
  have HYS := hid hys
  have HYL := hid hyl
  have HE := hid hE
  clear hcs hbu hbl hb hl h1 h2 h3 hu hl4 tv hJ hys hyl uv hx hE
  have a0 := (Arr4.new_ w 82 cs).alloc (.cells led0.toArray 82)
  have a1 := Arr4.new_ (w.alloc (.cells cs.toArray 82)) 82 led0
  have b1 := ((Below.refl w.heap.size w).alloc (Nat.le_refl _) (.cells cs.toArray 82)).alloc (by simp) (.cells led0.toArray 82)
  rw [World.size_alloc] at a1
  go_enter Tryd.func101, Tryd.ntmps101
  go_upto_region 1 with fail
  obtain ⟨W, hW⟩ : ∃ x, (w.alloc (.cells cs.toArray 82)).alloc (.cells led0.toArray 82) = x := ⟨_, rfl⟩
  change Code.wp _ _ _ _ ((w.alloc (.cells cs.toArray 82)).alloc (.cells led0.toArray 82))
  rw [hW] at a0 a1 b1 ⊢
  clear hW
  have hrng : W.rangeAt w.heap.size 0 (ints zs) := fun j v hj => by rw [Nat.zero_add]; exact a0.get_ (HR.out j v hj)
  go_wp2_with (refine wpList_load_mid rfl 73 _ rfl w.heap.size 0 rfl (ints zs) _ hrng Tryd.underlying73 rfl hI ?_)
  refine (CU.out _ (row_on hU b1)).mono ?_
  rintro e w2 ⟨rfl, d2⟩
  rw [HYS.out]
  clear hrng
  have b2 := b1.trans (d2.mono b1.size)
  have a02 := a0.below d2 a0.lt
  have a12 := a1.below d2 a1.lt
  clear a0 a1 b1 d2
  have hs := heap_alloc_new w2 (.cells (ints [0, 0, 0, 0]).toArray 73)
  have a03 := (a02.alloc (.cells (ints [0, 0, 0, 0]).toArray 73)).farRow (g' := w2.heap.size) (Nat.ne_of_lt a02.lt) (ints ys).toArray
  have a13 := (a12.alloc (.cells (ints [0, 0, 0, 0]).toArray 73)).farRow (g' := w2.heap.size) (Nat.ne_of_lt a12.lt) (ints ys).toArray
  have b3 := below_setRow (g := w2.heap.size) (b2.alloc b2.size (.cells (ints [0, 0, 0, 0]).toArray 73)) b2.size (ints ys).toArray
  obtain ⟨w3, hw3⟩ : ∃ x, (w2.alloc (.cells (ints [0, 0, 0, 0]).toArray 73)).setRow w2.heap.size (ints ys).toArray = x := ⟨_, rfl⟩
  rw [hw3] at a03 a13 b3
  clear a02 a12 b2
  go_upto_region 2 with (refine wpList_store_rowTo rfl 73 _ _ rfl rfl w2.heap.size (ints ys).toArray rfl rfl 73 (ints [0, 0, 0, 0]).toArray hs (HJ.out _ HYL.out) (by rw [List.size_toArray, List.size_toArray, ints_length, ints_length, HYL.out]; rfl) (ints_ones _) ?_)
  change Code.wp _ _ _ _ ((w2.alloc (.cells (ints [0, 0, 0, 0]).toArray 73)).setRow w2.heap.size (ints ys).toArray)
  rw [hw3]
  have y4 : w3.cell? ⟨w.heap.size, 4, none⟩ = some (.slice A locks.length c) := a03.get_ HY.out
  have HE3 := HE.out.below b3
  obtain ⟨q, CT3, hq, hq2⟩ := CT.out w3 (row_on hr b3) (row_on hU b3) HE3
  have HC3 := hid CT3
  have HQ2 := hid hq2
  clear hw3 hs CT3 hq2 CT CU HE3
  go_wp2_with fail
  refine HC3.out.mono ?_
  rintro e w4 ⟨A4, c4, rfl, o4, d4⟩
  rw [hq] at o4 ⊢
  have b4 := b3.trans (d4.mono b3.size)
  have s0 := a03.below d4 a03.lt
  have s1 := a13.below d4 a13.lt
  have o4' := o4.base (B' := w.heap.size) b3.size
  have y5 := s0.get_ HX.out
  have k0 : (0 : Int) ≤ (m : Int) := by omega
  have k1 : (m : Int) < 12 := by omega
  clear a03 a13 b3 d4 y4 HC3 o4 hr
  by_cases hx0 : x = 0
  · have e0 : (x != 0) = false := by rw [bne_eq_false_iff_eq]; exact hx0
    cases bu with
    | false =>
      have F : Hid (b = false) := by show b = false; rw [HB.out]; simp
      clear hx0
      have hL' := hL
      have hld : (w4).heap[w.heap.size]? = some (.cells (cs).toArray 82 (0, 0)) := s0
      have hs : (w4).heap[w.heap.size + 1]? = some (.cells led0.toArray 82 (0, 0)) := s1
      go_wp2_with (first
        | (refine wpList_load_row rfl 82 _ rfl w.heap.size rfl 82 (cs).toArray (0, 0) _ hld Tryd.underlying82 rfl hL'.out.info ?_)
        | (refine wpList_store_rowTo rfl 82 _ _ rfl rfl (w.heap.size + 1) (cs).toArray rfl rfl 82 led0.toArray hs hL'.out.info (led0_led.size.trans hL'.out.size.symm) hL'.out.2 ?_))
      have h2 := setRow_heap _ _ _ (cs).toArray _ _ hs
      have b9 := below_setRow b4 (Nat.le_succ _) (cs).toArray
      refine bodyPost_ret (v := .tuple #[.agg cs.toArray, .bool false]) (results_row_slot (p := 6) (s := 7) (by kernel_rfl) _ _ (w.heap.size + 1) 82 _ (0, 0) _ _ rfl rfl h2 Tryd.underlying82 hL'.out.info) rfl (.inl ⟨F.out, cs, hL.out, rfl, b9⟩)
    | true =>
      cases bl with
      | false =>
        have F : Hid (b = false) := by show b = false; rw [HB.out]; simp
        clear hx0
        have hL' := hL
        have hld : (w4).heap[w.heap.size]? = some (.cells (cs).toArray 82 (0, 0)) := s0
        have hs : (w4).heap[w.heap.size + 1]? = some (.cells led0.toArray 82 (0, 0)) := s1
        go_wp2_with (first
          | (refine wpList_load_row rfl 82 _ rfl w.heap.size rfl 82 (cs).toArray (0, 0) _ hld Tryd.underlying82 rfl hL'.out.info ?_)
          | (refine wpList_store_rowTo rfl 82 _ _ rfl rfl (w.heap.size + 1) (cs).toArray rfl rfl 82 led0.toArray hs hL'.out.info (led0_led.size.trans hL'.out.size.symm) hL'.out.2 ?_))
        have h2 := setRow_heap _ _ _ (cs).toArray _ _ hs
        have b9 := below_setRow b4 (Nat.le_succ _) (cs).toArray
        refine bodyPost_ret (v := .tuple #[.agg cs.toArray, .bool false]) (results_row_slot (p := 6) (s := 7) (by kernel_rfl) _ _ (w.heap.size + 1) 82 _ (0, 0) _ _ rfl rfl h2 Tryd.underlying82 hL'.out.info) rfl (.inl ⟨F.out, cs, hL.out, rfl, b9⟩)
      | true =>
        have F : Hid (b = true) := by show b = true; rw [HB.out]; simp [hx0]
        have eq : q = setR locks (lk m ups) := HQ2.out rfl
        obtain ⟨v4, y4⟩ := s0.has_ (i := 4) (by rw [hL.out.1]; omega)
        have f4 := s0.frozen 4
        obtain ⟨L2, hL2⟩ : ∃ L2, Value.slice A4 locks.length c4 = L2 := ⟨_, rfl⟩
        have r0 := s0.set 4 L2
        have r1 := s1.far (p := ⟨w.heap.size, 4, none⟩) (by show w.heap.size + 1 ≠ w.heap.size; omega) L2
        have o5 := o4'.keptT (by decide) (but_set w4 w.heap.size 4 L2) (blk_type s0)
        have b5 := b4.setCell (p := ⟨w.heap.size, 4, none⟩) (Nat.le_refl _) L2
        obtain ⟨v6, y6⟩ := r0.has_ (i := 17 + m) (by rw [List.length_set, hL.out.1]; omega)
        have f6 := r0.frozen (17 + m)
        have t0 := r0.set (17 + m) (.slice AL ups.length cL)
        have t1 := r1.far (p := ⟨w.heap.size, 17 + m, none⟩) (by show w.heap.size + 1 ≠ w.heap.size; omega) (.slice AL ups.length cL)
        have o6 := o5.keptT (by decide) (but_set _ w.heap.size (17 + m) (.slice AL ups.length cL)) (blk_type r0)
        have b6 := b5.setCell (p := ⟨w.heap.size, 17 + m, none⟩) (Nat.le_refl _) (.slice AL ups.length cL)
        obtain ⟨v7, y7⟩ := t0.has_ (i := 5 + m) (by rw [List.length_set, List.length_set, hL.out.1]; omega)
        have f7 := t0.frozen (5 + m)
        have u0 := t0.set (5 + m) (.int .i64 1)
        have u1 := t1.far (p := ⟨w.heap.size, 5 + m, none⟩) (by show w.heap.size + 1 ≠ w.heap.size; omega) (.int .i64 1)
        have o7 := o6.keptT (by decide) (but_set _ w.heap.size (5 + m) (.int .i64 1)) (blk_type t0)
        have b7 := b6.setCell (p := ⟨w.heap.size, 5 + m, none⟩) (Nat.le_refl _) (.int .i64 1)
        subst hL2
        rw [HS.out] at u0
        have hL' := hid (HL.out A4 c4)
        obtain ⟨cs', hcs⟩ : ∃ cs', ledC zs (.slice A4 locks.length c4) (st.set m 1) (us.set m (.slice AL ups.length cL)) = cs' := ⟨_, rfl⟩
        have HC := hid hcs
        rw [hcs] at u0 hL'
        clear hcs r0 r1 t0 t1 s0 s1 o4' o5 o6 b4 b5 b6 hx0
        have s0 := u0
        have s1 := u1
        have b4 := b7
        clear u0 u1 b7
        have hld : ((((w4.setCell ⟨w.heap.size, 4, none⟩ (.slice A4 locks.length c4)).setCell ⟨w.heap.size, 17 + m, none⟩ (.slice AL ups.length cL)).setCell ⟨w.heap.size, 5 + m, none⟩ (.int .i64 1))).heap[w.heap.size]? = some (.cells (cs').toArray 82 (0, 0)) := s0
        have hs : ((((w4.setCell ⟨w.heap.size, 4, none⟩ (.slice A4 locks.length c4)).setCell ⟨w.heap.size, 17 + m, none⟩ (.slice AL ups.length cL)).setCell ⟨w.heap.size, 5 + m, none⟩ (.int .i64 1))).heap[w.heap.size + 1]? = some (.cells led0.toArray 82 (0, 0)) := s1
        go_wp2_with (first
          | (refine wpList_load_row rfl 82 _ rfl w.heap.size rfl 82 (cs').toArray (0, 0) _ hld Tryd.underlying82 rfl hL'.out.info ?_)
          | (refine wpList_store_rowTo rfl 82 _ _ rfl rfl (w.heap.size + 1) (cs').toArray rfl rfl 82 led0.toArray hs hL'.out.info (led0_led.size.trans hL'.out.size.symm) hL'.out.2 ?_))
        have h2 := setRow_heap _ _ _ (cs').toArray _ _ hs
        have b9 := below_setRow b4 (Nat.le_succ _) (cs').toArray
        have o9 := o7.keptT (by decide) (but_setRow _ (w.heap.size + 1) cs'.toArray) (blk_type s1)
        rw [eq] at o9
        refine bodyPost_ret (v := .tuple #[.agg cs'.toArray, .bool true]) (results_row_slot (p := 6) (s := 7) (by kernel_rfl) _ _ (w.heap.size + 1) 82 _ (0, 0) _ _ rfl rfl h2 Tryd.underlying82 hL'.out.info) rfl (.inr ⟨F.out, A4, c4, by rw [HC.out], o9, b9⟩)
  · have e0 : (x != 0) = true := by rw [bne_iff_ne]; exact hx0
    have F : Hid (b = false) := by show b = false; rw [HB.out]; simp [hx0]
    clear hx0
    have hL' := hL
    have hld : (w4).heap[w.heap.size]? = some (.cells (cs).toArray 82 (0, 0)) := s0
    have hs : (w4).heap[w.heap.size + 1]? = some (.cells led0.toArray 82 (0, 0)) := s1
    go_wp2_with (first
      | (refine wpList_load_row rfl 82 _ rfl w.heap.size rfl 82 (cs).toArray (0, 0) _ hld Tryd.underlying82 rfl hL'.out.info ?_)
      | (refine wpList_store_rowTo rfl 82 _ _ rfl rfl (w.heap.size + 1) (cs).toArray rfl rfl 82 led0.toArray hs hL'.out.info (led0_led.size.trans hL'.out.size.symm) hL'.out.2 ?_))
    have h2 := setRow_heap _ _ _ (cs).toArray _ _ hs
    have b9 := below_setRow b4 (Nat.le_succ _) (cs).toArray
    refine bodyPost_ret (v := .tuple #[.agg cs.toArray, .bool false]) (results_row_slot (p := 6) (s := 7) (by kernel_rfl) _ _ (w.heap.size + 1) 82 _ (0, 0) _ _ rfl rfl h2 Tryd.underlying82 hL'.out.info) rfl (.inl ⟨F.out, cs, hL.out, rfl, b9⟩)
end Go.Proofs.YteeffchnbkkpfabDoor
