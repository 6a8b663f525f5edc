/- The coordinator with the slices $SA and $SB is stored as the answer, with the word $BB. -/
/-
  Walks: what the program's ledger is after a decision.
-/
import Derived.Test.YteeffchnbkkpfabDoorLedC
namespace Go.Proofs.YteeffchnbkkpfabDoor
open Go.RowKit Wo Pu Rf Lk Sh

theorem but_setCells (g : Nat) : ∀ (vs : List Value) (o : Nat) (w : World), But g w (w.setCells g o vs)
  | [], _, w => World.grownBy.refl w _
  | v :: vs, o, w => (but_set w g o v).trans (but_setCells g vs (o + 1) (w.setCell ⟨g, o, none⟩ v))
theorem Arr4.setRefs {w : World} {g : Nat} {t : TypeId} {zs ys st : List Int} {L : Value} {us : List Value} (h : Arr4 w g t (ledC zs L st us)) (hz : zs.length = 4) (hy : ys.length = 4) : Arr4 (w.setCells g 0 (ints ys).toArray.toList) g t (ledC ys L st us) := by
  obtain ⟨a, b, c, d, rfl⟩ : ∃ a b c d, ys = [a, b, c, d] := by
    match ys, hy with
    | [a, b, c, d], _ => exact ⟨a, b, c, d, rfl⟩
  have := h.set4 (.int .i64 a) (.int .i64 b) (.int .i64 c) (.int .i64 d)
  obtain ⟨p, q, r, s, rfl⟩ : ∃ p q r s, zs = [p, q, r, s] := by
    match zs, hz with
    | [p, q, r, s], _ => exact ⟨p, q, r, s, rfl⟩
  exact this
theorem Arr4.but {w w' : World} {g R : Nat} {t : TypeId} {vs : List Value} (h : Arr4 w g t vs) (hb : But R w w') (hg : g ≠ R) : Arr4 w' g t vs := (hb.block g h.lt (fun e => hg (by injection e))).trans h
theorem below_but {B R : Nat} {w0 w w' : World} (h : Below B w0 w) (hb : But R w w') (hR : B ≤ R) (hB : B ≤ w.heap.size) : Below B w0 w' := h.grown hb hB fun j hj => by injection hj with hj; omega
/- The ledger of w3's block w is loaded, decided with ZZ, stored as the answer: zs there is PZ, its cells are cs3. -/
set_option linter.unusedSimpArgs false in
set_option maxRecDepth 100000 in
set_option maxHeartbeats 8000000 in
theorem aborted_is (b : Bool) (zs st locks : List Int) (A : Option Addr) (c : Nat) (us : List Value) (m : Nat) (x : Int) (w : World) (h1 : zs.length = 4) (h2 : st.length = 12) (h3 : us.length = 12) (hu : ∀ u ∈ us, u.oneCell' = true)
    (hr : Row w w.heap.size A (ints locks)) (hl : LV locks) (hm : m < 12) (hx : st[m]? = some x) (hb : b = true ↔ x = 0 ∨ x = 1) :
    Calls Tryd.prog 103 #[.agg (ledC zs (.slice A locks.length c) st us).toArray, .int .i64 (m : Int)] w (PrepO b zs locks.length (freeL m locks) (st.set m 3) us w) := by
  have HD : Hid (∀ y, Row y y.heap.size A (ints locks) → Calls Tryd.prog 105 #[.agg (ledC zs (.slice A locks.length c) st us).toArray, .int .i64 (m : Int), .int .i64 3] y (DecO zs locks.length (freeL m locks) (st.set m 3) us y)) := fun y hy => decided_is zs st locks A c us m 3 y h1 h2 h3 hu hy hl hm
  have hL := hid (Led.mk_ (L := .slice A locks.length c) (us := us) h1 h2 h3 rfl hu)
  have HL : Hid (∀ A' c', Led (ledC zs (.slice A' locks.length c') (st.set m 3) us)) := fun A' c' => Led.mk_ h1 (by rw [List.length_set]; exact h2) h3 rfl hu
  have HX : Hid ((ledC zs (.slice A locks.length c) st us)[5 + m]? = some (.int .i64 x)) := by
    show _ = _
    rw [ledC_state h1 h2 hm]
    rw [List.getElem?_eq_getElem (by omega)] at hx
    injection hx with hx
    rw [hx]
  have HB := hid hb
  obtain ⟨cs, hcs⟩ : ∃ cs, ledC zs (.slice A locks.length c) st us = cs := ⟨_, rfl⟩
  rw [hcs] at hL HX HD ⊢
  have hL3 := hL
  clear hcs hb hl h1 h2 h3 hu hx
  have a0 := (Arr4.new_ w 82 cs).alloc (.cells led0.toArray 82)
  have a1 := Arr4.new_ (w.alloc (.cells cs.toArray 82)) 82 led0
  have b1 := ((Below.refl w.heap.size w).alloc (Nat.le_refl _) (.cells cs.toArray 82)).alloc (by simp) (.cells led0.toArray 82)
  rw [World.size_alloc] at a1
  go_enter Tryd.func103, Tryd.ntmps103
  go_upto_region 1 with fail
  obtain ⟨W, hW⟩ : ∃ x, (w.alloc (.cells cs.toArray 82)).alloc (.cells led0.toArray 82) = x := ⟨_, rfl⟩
  change Code.wp _ _ _ _ ((w.alloc (.cells cs.toArray 82)).alloc (.cells led0.toArray 82))
  rw [hW] at a0 a1 b1 ⊢
  clear hW
  have y5 := a0.get_ HX.out
  have s0 := a0
  have s1 := a1
  have k0 : (0 : Int) ≤ (m : Int) := by omega
  have k1 : (m : Int) < 12 := by omega
  clear a0 a1
  by_cases hx0 : x = 0
  · have e0 : (x != 0) = false := by rw [bne_eq_false_iff_eq]; exact hx0
    have F : Hid (b = true) := HB.out.2 (.inl hx0)
    have b3 := b1
    clear hx0 b1 HX
    have hld : (W).heap[w.heap.size]? = some (.cells (cs).toArray 82 (0, 0)) := s0
    go_wp2_with (refine wpList_load_row rfl 82 _ rfl w.heap.size rfl 82 (cs).toArray (0, 0) _ hld Tryd.underlying82 rfl hL3.out.info ?_)
    refine (HD.out _ (row_on hr b3)).mono ?_
    rintro e w4 ⟨A5, c5, rfl, o5, d5⟩
    have b5 := b3.trans (d5.mono b3.size)
    have t1 := s1.below d5 s1.lt
    have o6 := o5.base (B' := w.heap.size) b3.size
    have hL' := hid (HL.out A5 c5)
    obtain ⟨cs', hcs'⟩ : ∃ cs', ledC zs (.slice A5 locks.length c5) (st.set m 3) us = cs' := ⟨_, rfl⟩
    have HC := hid hcs'
    rw [hcs'] at hL' ⊢
    clear hcs' o5 d5 b3 hld s0 s1 HD HL
    have hs : w4.heap[w.heap.size + 1]? = some (.cells led0.toArray 82 (0, 0)) := t1
    go_wp2_with (refine wpList_store_rowTo rfl 82 _ _ rfl rfl (w.heap.size + 1) cs'.toArray rfl rfl 82 led0.toArray hs hL'.out.info (led0_led.size.trans hL'.out.size.symm) hL'.out.2 ?_)
    have h2 := setRow_heap _ _ _ cs'.toArray _ _ hs
    have b9 := below_setRow b5 (Nat.le_succ _) cs'.toArray
    have o9 := o6.keptT (by decide) (but_setRow _ (w.heap.size + 1) cs'.toArray) (blk_type t1)
    refine bodyPost_ret (v := .tuple #[.agg cs'.toArray, .bool true]) (results_row_slot (p := 4) (s := 5) (by kernel_rfl) _ _ (w.heap.size + 1) 82 _ (0, 0) _ _ rfl rfl h2 Tryd.underlying82 hL'.out.info) rfl (.inr ⟨F.out, A5, c5, by rw [HC.out], o9, b9⟩)
  · have e0 : (x != 0) = true := by rw [bne_iff_ne]; exact hx0
    by_cases hx1 : x = 1
    · have e1 : (x != 1) = false := by rw [bne_eq_false_iff_eq]; exact hx1
      have F : Hid (b = true) := HB.out.2 (.inr hx1)
      have b3 := b1
      clear hx0 hx1 b1 HX
      have hld : (W).heap[w.heap.size]? = some (.cells (cs).toArray 82 (0, 0)) := s0
      go_wp2_with (refine wpList_load_row rfl 82 _ rfl w.heap.size rfl 82 (cs).toArray (0, 0) _ hld Tryd.underlying82 rfl hL3.out.info ?_)
      refine (HD.out _ (row_on hr b3)).mono ?_
      rintro e w4 ⟨A5, c5, rfl, o5, d5⟩
      have b5 := b3.trans (d5.mono b3.size)
      have t1 := s1.below d5 s1.lt
      have o6 := o5.base (B' := w.heap.size) b3.size
      have hL' := hid (HL.out A5 c5)
      obtain ⟨cs', hcs'⟩ : ∃ cs', ledC zs (.slice A5 locks.length c5) (st.set m 3) us = cs' := ⟨_, rfl⟩
      have HC := hid hcs'
      rw [hcs'] at hL' ⊢
      clear hcs' o5 d5 b3 hld s0 s1 HD HL
      have hs : w4.heap[w.heap.size + 1]? = some (.cells led0.toArray 82 (0, 0)) := t1
      go_wp2_with (refine wpList_store_rowTo rfl 82 _ _ rfl rfl (w.heap.size + 1) cs'.toArray rfl rfl 82 led0.toArray hs hL'.out.info (led0_led.size.trans hL'.out.size.symm) hL'.out.2 ?_)
      have h2 := setRow_heap _ _ _ cs'.toArray _ _ hs
      have b9 := below_setRow b5 (Nat.le_succ _) cs'.toArray
      have o9 := o6.keptT (by decide) (but_setRow _ (w.heap.size + 1) cs'.toArray) (blk_type t1)
      refine bodyPost_ret (v := .tuple #[.agg cs'.toArray, .bool true]) (results_row_slot (p := 4) (s := 5) (by kernel_rfl) _ _ (w.heap.size + 1) 82 _ (0, 0) _ _ rfl rfl h2 Tryd.underlying82 hL'.out.info) rfl (.inr ⟨F.out, A5, c5, by rw [HC.out], o9, b9⟩)
    · have e1 : (x != 1) = true := by rw [bne_iff_ne]; exact hx1
      have F : Hid (b = false) := by
        show b = false
        rw [← Bool.not_eq_true]
        exact fun e => by rcases HB.out.1 e with e | e <;> contradiction
      have b4 := b1
      clear hx0 hx1 b1 HX hL3
      have hL' := hL
      have hld : (W).heap[w.heap.size]? = some (.cells (cs).toArray 82 (0, 0)) := s0
      have hs : (W).heap[w.heap.size + 1]? = some (.cells led0.toArray 82 (0, 0)) := s1
      go_wp2_with (first
        | (refine wpList_load_row rfl 82 _ rfl w.heap.size rfl 82 (cs).toArray (0, 0) _ hld Tryd.underlying82 rfl hL'.out.info ?_)
        | (refine wpList_store_rowTo rfl 82 _ _ rfl rfl (w.heap.size + 1) (cs).toArray rfl rfl 82 led0.toArray hs hL'.out.info (led0_led.size.trans hL'.out.size.symm) hL'.out.2 ?_))
      have h2 := setRow_heap _ _ _ (cs).toArray _ _ hs
      have b9 := below_setRow b4 (Nat.le_succ _) (cs).toArray
      refine bodyPost_ret (v := .tuple #[.agg cs.toArray, .bool false]) (results_row_slot (p := 4) (s := 5) (by kernel_rfl) _ _ (w.heap.size + 1) 82 _ (0, 0) _ _ rfl rfl h2 Tryd.underlying82 hL'.out.info) rfl (.inl ⟨F.out, cs, hL.out, rfl, b9⟩)
set_option linter.unusedSimpArgs false in
set_option maxRecDepth 100000 in
set_option maxHeartbeats 8000000 in
theorem committed_is (b : Bool) (zs st locks : List Int) (A : Option Addr) (c : Nat) (us : List Value) (m : Nat) (AL : Option Addr) (cL : Nat) (ups : List Up) (x : Int) (w : World) (h1 : zs.length = 4) (h2 : st.length = 12) (h3 : us.length = 12) (hu : ∀ u ∈ us, u.oneCell' = true)
    (hr : Row w w.heap.size A (ints locks)) (hl : LV locks) (hm : m < 12) (hx : st[m]? = some x) (hb : b = true ↔ x = 1) (hU : x = 1 → us[m]? = some (.slice AL ups.length cL) ∧ Row w w.heap.size AL (upsV ups) ∧ UV ups ∧ Fits zs ups ∧ ups.length ≤ 1048600) :
    Calls Tryd.prog 102 #[.agg (ledC zs (.slice A locks.length c) st us).toArray, .int .i64 (m : Int)] w (PrepO b (setR zs ups) locks.length (freeL m locks) (st.set m 2) us w) := by
  have hyl : (setR zs ups).length = 4 := by rw [setR_length]; exact h1
  have HD : Hid (∀ y, Row y y.heap.size A (ints locks) → Calls Tryd.prog 105 #[.agg (ledC (setR zs ups) (.slice A locks.length c) st us).toArray, .int .i64 (m : Int), .int .i64 2] y (DecO (setR zs ups) locks.length (freeL m locks) (st.set m 2) us y)) := fun y hy => decided_is (setR zs ups) st locks A c us m 2 y hyl h2 h3 hu hy hl hm
  have hL := hid (Led.mk_ (L := .slice A locks.length c) (us := us) h1 h2 h3 rfl hu)
  have hL3 := hid (Led.mk_ (L := .slice A locks.length c) (us := us) hyl h2 h3 rfl hu)
  have HL : Hid (∀ A' c', Led (ledC (setR zs ups) (.slice A' locks.length c') (st.set m 2) us)) := fun A' c' => Led.mk_ hyl (by rw [List.length_set]; exact h2) h3 rfl hu
  have HX : Hid ((ledC zs (.slice A locks.length c) st us)[5 + m]? = some (.int .i64 x)) := by
    show _ = _
    rw [ledC_state h1 h2 hm]
    rw [List.getElem?_eq_getElem (by omega)] at hx
    injection hx with hx
    rw [hx]
  have HUP : Hid (∀ i, (ledC zs (.slice A locks.length c) st us)[17 + i]? = us[i]?) := fun i => ledC_ups h1 h2 i
  have HUP3 : Hid (∀ i, (ledC (setR zs ups) (.slice A locks.length c) st us)[17 + i]? = us[i]?) := fun i => ledC_ups hyl h2 i
  have HR : Hid (∀ j v, (ints zs)[j]? = some v → (ledC zs (.slice A locks.length c) st us)[j]? = some v) := fun j v h => ledC_range h
  have HB := hid hb
  have hI : (Tryd.prog.info? 73).map (·.size) = some (ints zs).length := by rw [ints_length, h1]; exact info_refsJ
  have H1 := hid h1
  obtain ⟨ys, hys⟩ : ∃ ys, setR zs ups = ys := ⟨_, rfl⟩
  have HYS := hid hys
  have CU : Hid (x = 1 → ∀ y, Row y y.heap.size AL (upsV ups) → Calls Tryd.prog 55 #[.agg (ints zs).toArray, .slice AL ups.length cL] y (Updt true zs ups y)) := fun e y hy => updated_is true AL cL zs ups y h1 hy (refs4_of (hU e).2.2.1) (hU e).2.2.2.2 ⟨fun _ => (hU e).2.2.2.1, fun _ => rfl⟩
  have HUU := hid hU
  rw [hys] at hyl HD hL3 HL HUP3 ⊢
  have hJ : (Tryd.prog.info? 73).map (·.size) = some (ints ys).toArray.size := by rw [List.size_toArray, ints_length, hyl]; exact info_refsJ
  have HYL := hid hyl
  obtain ⟨cs, hcs⟩ : ∃ cs, ledC zs (.slice A locks.length c) st us = cs := ⟨_, rfl⟩
  have HC0 := hid hcs
  rw [hcs] at hL HX HUP HR ⊢
  obtain ⟨cs3, hcs3⟩ : ∃ cs, ledC ys (.slice A locks.length c) st us = cs := ⟨_, rfl⟩
  have HC3 := hid hcs3
  rw [hcs3] at hL3 HD HUP3
  clear hcs hcs3 hb hl h1 h2 h3 hu hx hys hyl hU
  have a0 := (Arr4.new_ w 82 cs).alloc (.cells led0.toArray 82)
  have a1 := Arr4.new_ (w.alloc (.cells cs.toArray 82)) 82 led0
  have b1 := ((Below.refl w.heap.size w).alloc (Nat.le_refl _) (.cells cs.toArray 82)).alloc (by simp) (.cells led0.toArray 82)
  rw [World.size_alloc] at a1
  go_enter Tryd.func102, Tryd.ntmps102
  go_upto_region 1 with fail
  obtain ⟨W, hW⟩ : ∃ x, (w.alloc (.cells cs.toArray 82)).alloc (.cells led0.toArray 82) = x := ⟨_, rfl⟩
  change Code.wp _ _ _ _ ((w.alloc (.cells cs.toArray 82)).alloc (.cells led0.toArray 82))
  rw [hW] at a0 a1 b1 ⊢
  clear hW
  have y5 := a0.get_ HX.out
  have s0 := a0
  have s1 := a1
  have k0 : (0 : Int) ≤ (m : Int) := by omega
  have k1 : (m : Int) < 12 := by omega
  clear a0 a1
  by_cases hx1 : x = 1
  · have e1 : (x != 1) = false := by rw [bne_eq_false_iff_eq]; exact hx1
    have F : Hid (b = true) := HB.out.2 hx1
    obtain ⟨u1, u2, -, -, -⟩ := HUU.out hx1
    have CV := hid (CU.out hx1)
    have hy17 : cs[17 + m]? = some (.slice AL ups.length cL) := by rw [HUP.out]; exact u1
    have hrng : W.rangeAt w.heap.size 0 (ints zs) := fun j v hj => by rw [Nat.zero_add]; exact s0.get_ (HR.out j v hj)
    have hS : W.cell? ⟨w.heap.size, 17 + m, none⟩ = some (.slice AL ups.length cL) := s0.get_ hy17
    have H17 := hid hy17
    clear hx1 HX CU u1 HUU hy17
    go_upto_region 3 with fail
    refine wp_region_held_drew (S := fun y => y.cell? ⟨w.heap.size, 17 + m, none⟩ = some (.slice AL ups.length cL)) (by kernel_rfl) hS (fun hHeld => ?_)
    try simp only [Act.put, List.getElem_toArray, List.getElem_cons_succ, List.getElem_cons_zero, List.setIfInBounds_toArray, List.set_cons_zero, List.set_cons_succ]
    refine wpAnyH_take (i := 0) (oi := _) (v := ?_) rfl (by kernel_rfl) (by kernel_rfl) (by kernel_rfl) (fun _ _ _ h => h) (Or.inl ⟨by rfl, ?_⟩) hHeld ?_
    rotate_left
    · (intro w' hSw; (try dsimp only at hSw); go_simp <;> with_reducible rfl)
    try simp only [Act.put, List.getElem_toArray, List.getElem_cons_succ, List.getElem_cons_zero, List.setIfInBounds_toArray, List.set_cons_zero, List.set_cons_succ]
    refine wpAnyH_take (i := 2) (oi := _) (v := ?_) rfl (by kernel_rfl) (by kernel_rfl) (by kernel_rfl) (fun _ _ _ h => h) (Or.inl ⟨by rfl, ?_⟩) hHeld ?_
    rotate_left
    · (intro w' hSw; (try dsimp only at hSw); go_simp <;> with_reducible rfl)
    try simp only [Act.put, List.getElem_toArray, List.getElem_cons_succ, List.getElem_cons_zero, List.setIfInBounds_toArray, List.set_cons_zero, List.set_cons_succ]
    refine wpAnyH_take (i := 3) (oi := _) (v := ?_) rfl (by kernel_rfl) (by kernel_rfl) (by kernel_rfl) (fun _ _ _ h => h) (Or.inl ⟨by rfl, ?_⟩) hHeld ?_
    rotate_left
    · (intro w' hSw; (try dsimp only at hSw); go_simp <;> with_reducible rfl)
    try simp only [Act.put, List.getElem_toArray, List.getElem_cons_succ, List.getElem_cons_zero, List.setIfInBounds_toArray, List.set_cons_zero, List.set_cons_succ]
    refine wpAnyH_take (i := 4) (oi := _) (v := ?_) rfl (by kernel_rfl) (by kernel_rfl) (by kernel_rfl) (fun _ _ _ h => h) (Or.inl ⟨by rfl, ?_⟩) hHeld ?_
    rotate_left
    · (intro w' hSw; (try dsimp only at hSw); go_simp <;> with_reducible rfl)
    try simp only [Act.put, List.getElem_toArray, List.getElem_cons_succ, List.getElem_cons_zero, List.setIfInBounds_toArray, List.set_cons_zero, List.set_cons_succ]
    refine wpAnyH_take (i := 5) (oi := _) (v := ?_) rfl (by kernel_rfl) (by kernel_rfl) (by kernel_rfl) (fun _ _ _ h => h) (Or.inl ⟨by rfl, ?_⟩) hHeld ?_
    rotate_left
    · (intro w' hSw; (try dsimp only at hSw); go_simp <;> with_reducible rfl)
    try simp only [Act.put, List.getElem_toArray, List.getElem_cons_succ, List.getElem_cons_zero, List.setIfInBounds_toArray, List.set_cons_zero, List.set_cons_succ]
    refine wpAnyH_ready (rs := [1]) (by kernel_rfl) (by simp) (AllReadyH.cons (o := _) rfl (fun K hK => ?_) AllReadyH.nil)
    try simp only [Act.put, List.getElem_toArray, List.getElem_cons_succ, List.getElem_cons_zero, List.setIfInBounds_toArray, List.set_cons_zero, List.set_cons_succ]
    refine wp_load_mid 73 _ rfl w.heap.size 0 rfl (ints zs) _ hrng Tryd.underlying73 rfl hI ?_
    refine hK.out _ _ hS (fun hHeld => ?_)
    clear hK K
    try simp only [Act.put, List.getElem_toArray, List.getElem_cons_succ, List.getElem_cons_zero, List.setIfInBounds_toArray, List.set_cons_zero, List.set_cons_succ]
    refine wpAnyH_ready (rs := [6]) (by kernel_rfl) (by simp) (AllReadyH.cons (o := _) rfl (fun K hK => ?_) AllReadyH.nil)
    try simp only [Act.put, List.getElem_toArray, List.getElem_cons_succ, List.getElem_cons_zero, List.setIfInBounds_toArray, List.set_cons_zero, List.set_cons_succ]
    go_simp
    go_at_call 55
    refine (CV.out _ (row_on u2 (Wo.Below.drewN b1 1))).mono ?_
    rintro e w2 ⟨rfl, d2⟩
    simp only [if_true]
    rw [HYS.out]
    have b1d := Wo.Below.drewN b1 1
    have b2 := b1d.trans (d2.mono b1d.size)
    have s0d : Arr4 (W.drewN 1) w.heap.size 82 cs := s0
    have s1d : Arr4 (W.drewN 1) (w.heap.size + 1) 82 led0 := s1
    have q0 : Arr4 w2 w.heap.size 82 cs := s0d.below d2 s0d.lt
    have q1 : Arr4 w2 (w.heap.size + 1) 82 led0 := s1d.below d2 s1d.lt
    have hS2 : w2.cell? ⟨w.heap.size, 17 + m, none⟩ = some (.slice AL ups.length cL) := q0.get_ H17.out
    refine hK.out _ _ hS2 (fun hHeld => ?_)
    clear hK K
    try simp only [Act.put, List.getElem_toArray, List.getElem_cons_succ, List.getElem_cons_zero, List.setIfInBounds_toArray, List.set_cons_zero, List.set_cons_succ]
    refine wpAnyH_take (i := 7) (oi := _) (v := ?_) rfl (by kernel_rfl) (by kernel_rfl) (by kernel_rfl) (fun _ _ _ h => h) (Or.inl ⟨by rfl, ?_⟩) hHeld ?_
    rotate_left
    · (intro w' hSw; (try dsimp only at hSw); go_simp <;> with_reducible rfl)
    try simp only [Act.put, List.getElem_toArray, List.getElem_cons_succ, List.getElem_cons_zero, List.setIfInBounds_toArray, List.set_cons_zero, List.set_cons_succ]
    refine wpAnyH_take (i := 8) (oi := _) (v := ?_) rfl (by kernel_rfl) (by kernel_rfl) (by kernel_rfl) (fun _ _ _ h => h) (Or.inl ⟨by rfl, ?_⟩) hHeld ?_
    rotate_left
    · (intro w' hSw; (try dsimp only at hSw); go_simp <;> with_reducible rfl)
    try simp only [Act.put, List.getElem_toArray, List.getElem_cons_succ, List.getElem_cons_zero, List.setIfInBounds_toArray, List.set_cons_zero, List.set_cons_succ]
    refine wpAnyH_take (i := 9) (oi := _) (v := ?_) rfl (by kernel_rfl) (by kernel_rfl) (by kernel_rfl) (fun _ _ _ h => h) (Or.inl ⟨by rfl, ?_⟩) hHeld ?_
    rotate_left
    · (intro w' hSw; (try dsimp only at hSw); go_simp <;> with_reducible rfl)
    try simp only [Act.put, List.getElem_toArray, List.getElem_cons_succ, List.getElem_cons_zero, List.setIfInBounds_toArray, List.set_cons_zero, List.set_cons_succ]
    refine wpAnyH_take (i := 10) (oi := _) (v := ?_) rfl (by kernel_rfl) (by kernel_rfl) (by kernel_rfl) (fun _ _ _ h => h) (Or.inl ⟨by rfl, ?_⟩) hHeld ?_
    rotate_left
    · (intro w' hSw; (try dsimp only at hSw); go_simp <;> with_reducible rfl)
    try simp only [Act.put, List.getElem_toArray, List.getElem_cons_succ, List.getElem_cons_zero, List.setIfInBounds_toArray, List.set_cons_zero, List.set_cons_succ]
    refine wpAnyH_ready (rs := [11]) (by kernel_rfl) (by simp) (AllReadyH.cons (o := _) rfl (fun K hK => ?_) AllReadyH.nil)
    try simp only [Act.put, List.getElem_toArray, List.getElem_cons_succ, List.getElem_cons_zero, List.setIfInBounds_toArray, List.set_cons_zero, List.set_cons_succ]
    have hth : w2.there w.heap.size 0 (ints ys).toArray.size := fun j hj => by
      rw [List.size_toArray, ints_length, HYL.out] at hj
      rw [Nat.zero_add]
      obtain ⟨v, hv⟩ := q0.has_ (i := j) (by rw [hL.out.1]; omega)
      exact ⟨by rw [hv]; rfl, q0.frozen j⟩
    refine wp_store_mid 73 _ _ rfl w.heap.size 0 (ints ys).toArray rfl rfl hth hJ (ints_ones _) ?_
    have hbut := but_setCells w.heap.size (ints ys).toArray.toList 0 w2
    have s0 : Arr4 (w2.setCells w.heap.size 0 (ints ys).toArray.toList) w.heap.size 82 cs3 := by
      rw [← HC3.out]
      rw [← HC0.out] at q0
      exact q0.setRefs H1.out HYL.out
    have s1 := q1.but hbut (by omega)
    have b3 := below_but b2 hbut (Nat.le_refl _) b2.size
    have hS3 : (w2.setCells w.heap.size 0 (ints ys).toArray.toList).cell? ⟨w.heap.size, 17 + m, none⟩ = some (.slice AL ups.length cL) := s0.get_ (by rw [HUP3.out, ← HUP.out]; exact H17.out)
    refine hK.out _ _ hS3 (fun hHeld => ?_)
    clear hK K
    try simp only [Act.put, List.getElem_toArray, List.getElem_cons_succ, List.getElem_cons_zero, List.setIfInBounds_toArray, List.set_cons_zero, List.set_cons_succ]
    refine wpAnyH_done (by kernel_rfl) ?_ _
    clear hHeld s0d s1d q0 q1 hbut b2 b1d b1 d2 hth hrng hS hS2 hS3 y5
    have hld : ((w2.setCells w.heap.size 0 (ints ys).toArray.toList)).heap[w.heap.size]? = some (.cells (cs3).toArray 82 (0, 0)) := s0
    go_wp2_with (refine wpList_load_row rfl 82 _ rfl w.heap.size rfl 82 (cs3).toArray (0, 0) _ hld Tryd.underlying82 rfl hL3.out.info ?_)
    refine (HD.out _ (row_on hr b3)).mono ?_
    rintro e w4 ⟨A5, c5, rfl, o5, d5⟩
    have b5 := b3.trans (d5.mono b3.size)
    have t1 := s1.below d5 s1.lt
    have o6 := o5.base (B' := w.heap.size) b3.size
    have hL' := hid (HL.out A5 c5)
    obtain ⟨cs', hcs'⟩ : ∃ cs', ledC ys (.slice A5 locks.length c5) (st.set m 2) us = cs' := ⟨_, rfl⟩
    have HC := hid hcs'
    rw [hcs'] at hL' ⊢
    clear hcs' o5 d5 b3 hld s0 s1 HD HL
    have hs : w4.heap[w.heap.size + 1]? = some (.cells led0.toArray 82 (0, 0)) := t1
    go_wp2_with (refine wpList_store_rowTo rfl 82 _ _ rfl rfl (w.heap.size + 1) cs'.toArray rfl rfl 82 led0.toArray hs hL'.out.info (led0_led.size.trans hL'.out.size.symm) hL'.out.2 ?_)
    have h2 := setRow_heap _ _ _ cs'.toArray _ _ hs
    have b9 := below_setRow b5 (Nat.le_succ _) cs'.toArray
    have o9 := o6.keptT (by decide) (but_setRow _ (w.heap.size + 1) cs'.toArray) (blk_type t1)
    refine bodyPost_ret (v := .tuple #[.agg cs'.toArray, .bool true]) (results_row_slot (p := 4) (s := 5) (by kernel_rfl) _ _ (w.heap.size + 1) 82 _ (0, 0) _ _ rfl rfl h2 Tryd.underlying82 hL'.out.info) rfl (.inr ⟨F.out, A5, c5, by rw [HC.out], o9, b9⟩)
  · have e1 : (x != 1) = true := by rw [bne_iff_ne]; exact hx1
    have F : Hid (b = false) := by
      show b = false
      rw [← Bool.not_eq_true]
      exact fun e => hx1 (HB.out.1 e)
    have b4 := b1
    clear hx1 b1 HX hL3
    have hL' := hL
    have hld : (W).heap[w.heap.size]? = some (.cells (cs).toArray 82 (0, 0)) := s0
    have hs : (W).heap[w.heap.size + 1]? = some (.cells led0.toArray 82 (0, 0)) := s1
    go_wp2_with (first
      | (refine wpList_load_row rfl 82 _ rfl w.heap.size rfl 82 (cs).toArray (0, 0) _ hld Tryd.underlying82 rfl hL'.out.info ?_)
      | (refine wpList_store_rowTo rfl 82 _ _ rfl rfl (w.heap.size + 1) (cs).toArray rfl rfl 82 led0.toArray hs hL'.out.info (led0_led.size.trans hL'.out.size.symm) hL'.out.2 ?_))
    have h2 := setRow_heap _ _ _ (cs).toArray _ _ hs
    have b9 := below_setRow b4 (Nat.le_succ _) (cs).toArray
    refine bodyPost_ret (v := .tuple #[.agg cs.toArray, .bool false]) (results_row_slot (p := 4) (s := 5) (by kernel_rfl) _ _ (w.heap.size + 1) 82 _ (0, 0) _ _ rfl rfl h2 Tryd.underlying82 hL'.out.info) rfl (.inl ⟨F.out, cs, hL.out, rfl, b9⟩)
end Go.Proofs.YteeffchnbkkpfabDoor
