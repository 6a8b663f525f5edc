/-
  Walks: the program's updates of an array of refs; which refs are updated.
-/
import Derived.Test.YteeffchnbkkpfabDoorRefH
namespace Go.Proofs.YteeffchnbkkpfabDoor
open Go.RowKit Wo Pu Rf

/-- What updated answers. -/
def Updt (b : Bool) (zs : List Int) (us : List Up) (w : World) (e : Ending) (w' : World) : Prop := e = .returned (.tuple #[.agg (ints (if b then setR zs us else zs)).toArray, .bool b]) ∧ Below w.heap.size w w'
theorem Arr4.setRow {w : World} {g : Nat} {t : TypeId} {vs : List Value} (h : Arr4 w g t vs) (cs : List Value) : Arr4 (w.setRow g cs.toArray) g t cs := setRow_heap w g _ _ t _ h
theorem Arr4.farRow {w : World} {g g' : Nat} {t : TypeId} {vs : List Value} (h : Arr4 w g t vs) (hg : g ≠ g') (cs : Array Value) : Arr4 (w.setRow g' cs) g t vs := (setRow_other w g' g cs hg).trans h
theorem Arr4.alloc {w : World} {g : Nat} {t : TypeId} {vs : List Value} (h : Arr4 w g t vs) (o : Obj) : Arr4 (w.alloc o) g t vs := (heap_alloc_old w o h.lt).trans h
theorem info_refsJ : (Tryd.prog.info? 73).map (·.size) = some 4 := by kernel_rfl
set_option maxRecDepth 100000 in
set_option maxHeartbeats 4000000 in
theorem updated_is (b : Bool) (A : Option Addr) (c : Nat) (zs : List Int) (us : List Up) (w : World) (h4 : zs.length = 4) (hu : Row w w.heap.size A (upsV us)) (hr : Refs4 us) (hm : us.length ≤ 1048600) (hb : b = true ↔ Fits zs us) :
    Calls Tryd.prog 55 #[.agg (ints zs).toArray, .slice A us.length c] w (Updt b zs us w) := by
  have HB := hid hb
  have H4 := hid h4
  clear hb h4
  have hsz : (ints zs).toArray.size = 4 := by rw [List.size_toArray, ints_length, H4.out]
  have hsz' : (Tryd.prog.info? 73).map (·.size) = some (ints zs).toArray.size := by rw [hsz]; exact info_refsJ
  have HSZ := hid hsz
  have HSZ' := hid hsz'
  clear hsz hsz'
  go_enter Tryd.func55, Tryd.ntmps55
  have y0 := Arr4.new_ w 73 (ints zs)
  have b0 := (Below.refl w.heap.size w).alloc (Nat.le_refl _) (.cells (ints zs).toArray 73)
  obtain ⟨w1, hw1⟩ : ∃ w1, w.alloc (.cells (ints zs).toArray 73) = w1 := ⟨_, rfl⟩
  have z1 : w1.heap.size = w.heap.size + 1 := by rw [← hw1]; simp
  rw [hw1] at y0 b0
  have y1 := Arr4.new_ w1 73 (ints [0, 0, 0, 0])
  have y01 := y0.alloc (.cells (ints [0, 0, 0, 0]).toArray 73)
  have b1 := b0.alloc b0.size (.cells (ints [0, 0, 0, 0]).toArray 73)
  obtain ⟨w2, hw2⟩ : ∃ w2, w1.alloc (.cells (ints [0, 0, 0, 0]).toArray 73) = w2 := ⟨_, rfl⟩
  have z2 : w2.heap.size = w.heap.size + 1 + 1 := by rw [← hw2]; simp [z1]
  rw [hw2] at y1 y01 b1
  rw [z1] at y1
  have y2 := Arr4.new_ w2 73 (ints [0, 0, 0, 0])
  have y02 := y01.alloc (.cells (ints [0, 0, 0, 0]).toArray 73)
  have y12 := y1.alloc (.cells (ints [0, 0, 0, 0]).toArray 73)
  have b2 := b1.alloc b1.size (.cells (ints [0, 0, 0, 0]).toArray 73)
  obtain ⟨w3, hw3⟩ : ∃ w3, w2.alloc (.cells (ints [0, 0, 0, 0]).toArray 73) = w3 := ⟨_, rfl⟩
  have z3 : w3.heap.size = w.heap.size + 3 := by rw [← hw3]; simp [z2]
  rw [hw3] at y2 y02 y12 b2
  rw [z2] at y2
  have q2 := y2.setRow (ints zs)
  have q1 := y12.farRow (g' := w.heap.size + 1 + 1) (by omega) (ints zs).toArray
  have q0 := y02.farRow (g' := w.heap.size + 1 + 1) (by omega) (ints zs).toArray
  have b3 := below_setRow (g := w.heap.size + 1 + 1) b2 (by omega) (ints zs).toArray
  have hl : w2.heap[w.heap.size]? = some (.cells (ints zs).toArray 73 (0, 0)) := y01
  have hs : w3.heap[w.heap.size + 1 + 1]? = some (.cells (ints [0, 0, 0, 0]).toArray 73 (0, 0)) := y2
  subst hw1 hw2 hw3
  clear y0 y1 y01 y2 y02 y12 b0 b1 b2 z1 z2 z3
  go_wp2_with (first
    | (refine wpList_load_row rfl 73 _ rfl w.heap.size rfl 73 (ints zs).toArray (0, 0) _ hl Tryd.underlying73 rfl HSZ'.out ?_)
    | (refine wpList_store_rowTo rfl 73 _ _ rfl rfl (w.heap.size + 1 + 1) (ints zs).toArray rfl rfl 73 (ints [0, 0, 0, 0]).toArray hs HSZ'.out HSZ.out.symm (ints_ones _) ?_))
  clear hl hs
  go_loopw [12] (fun i wr => ∃ k : Nat, k ≤ us.length ∧ i = .int .i64 k ∧ Hid (FitTo zs us k) ∧ Arr4 wr (w.heap.size + 1 + 1) 73 (ints (setR zs (us.take k))) ∧ Arr4 wr (w.heap.size + 1) 73 (ints [0, 0, 0, 0]) ∧ Arr4 wr w.heap.size 73 (ints zs) ∧ Below w.heap.size w wr) (fun i _ => us.length - (intOf i).toNat)
  case atStart => exact ⟨0, Nat.zero_le _, rfl, .zero _ _, by rw [List.take_zero, setR_nil]; exact q2, q1, q0, b3⟩
  case round =>
    obtain ⟨k, hk, rfl, H, a2, a1, a0, hbr⟩ := hrel
    clear q2 q1 q0 b3
    have hz := hbr.size
    by_cases hlt : k < us.length
    · obtain ⟨o, ad, ho, rfl, ha1, g0, g1, g2⟩ := ((hu.below hbr (Nat.le_refl _)).more hbr.size).up_ hlt
      obtain ⟨r0, r1⟩ := hr _ (List.getElem_mem hlt)
      rw [ho] at r0 r1
      obtain ⟨m, hm0⟩ := Int.eq_ofNat_of_zero_le r0
      have hm4 : m < 4 := by omega
      have hmz : m < zs.length := by rw [H4.out]; exact hm4
      have hfit : fit1 zs us[k] ↔ zs[m] = o.o := by
        unfold fit1
        rw [ho, hm0, Int.toNat_natCast, List.getElem?_eq_getElem hmz]
        exact ⟨fun h => by injection h, fun h => by rw [h]⟩
      have HS : Hid (setR zs (us.take (k + 1)) = (setR zs (us.take k)).set m o.n) := by
        have := setR_take (zs := zs) hlt
        rwa [ho, hm0, Int.toNat_natCast] at this
      rw [hm0] at g0
      have hbW := hbr.alloc hz (.cells #[.int .i64 (m : Int), .int .i64 o.o, .int .i64 o.n] 100)
      have u1 := Blk.new_ wr 100 (.int .i64 (m : Int)) (.int .i64 o.o) (.int .i64 o.n)
      have c2 := a2.alloc (.cells #[.int .i64 (m : Int), .int .i64 o.o, .int .i64 o.n] 100)
      have c1 := a1.alloc (.cells #[.int .i64 (m : Int), .int .i64 o.o, .int .i64 o.n] 100)
      have c0 := a0.alloc (.cells #[.int .i64 (m : Int), .int .i64 o.o, .int .i64 o.n] 100)
      have k0 : (0 : Int) ≤ (k : Int) := by omega
      have k1 : (k : Int) < (us.length : Int) := by omega
      have k2 : (0 : Int) ≤ (m : Int) := by omega
      have k3 : (m : Int) < 4 := by omega
      clear ho hm0 r0 r1 a2 a1 a0
      go_wp2_with fail
      generalize wr.alloc (.cells #[.int .i64 (m : Int), .int .i64 o.o, .int .i64 o.n] 100) = W at *
      obtain ⟨z0, z1, z2, -⟩ := id u1.reads
      have hl4 : (ints (setR zs (us.take k))).length = 4 := by rw [ints_length, setR_length, H4.out]
      have y0 := c0.read (i := m) (by rw [ints_length]; exact hmz)
      rw [ints_get zs m hmz] at y0
      obtain ⟨yv, y2⟩ : ∃ v, W.cell? ⟨w.heap.size + 1 + 1, m, none⟩ = some v := ⟨_, c2.read (i := m) (by rw [hl4]; exact hm4)⟩
      have f2 := c2.frozen m
      have d2 := c2.set m (.int .i64 o.n)
      have d1 := c1.far (p := ⟨w.heap.size + 1 + 1, m, none⟩) (by show w.heap.size + 1 ≠ w.heap.size + 1 + 1; omega) (.int .i64 o.n)
      have d0 := c0.far (p := ⟨w.heap.size + 1 + 1, m, none⟩) (by show w.heap.size ≠ w.heap.size + 1 + 1; omega) (.int .i64 o.n)
      rw [ints_set, ← HS.out] at d2
      have e2 := hbW.setCell (p := ⟨w.heap.size + 1 + 1, m, none⟩) (by show w.heap.size ≤ w.heap.size + 1 + 1; omega) (.int .i64 o.n)
      obtain ⟨x, hx⟩ : ∃ x, zs[m] = x := ⟨_, rfl⟩
      rw [hx] at y0 hfit
      clear hx hl4 HS
      by_cases heq : x = o.o
      · have e0 : (x != o.o) = false := by rw [bne_eq_false_iff_eq]; exact heq
        have HN := hid (H.out.next hlt (hfit.2 heq))
        clear H hfit heq
        go_quiet (fail)
        go_wp2
        go_roundw
        case rel => exact ⟨k + 1, by omega, by go_num, HN, d2, d1, d0, (Wo.Below.drewN hbW _).setCell (p := ⟨w.heap.size + 1 + 1, m, none⟩) (by show w.heap.size ≤ w.heap.size + 1 + 1; omega) (.int .i64 o.n)⟩
        case measure => simp [intOf]; omega
      · have e0 : (x != o.o) = true := by rw [bne_iff_ne]; exact heq
        have F : Hid (b = false) := by
          show b = false
          rw [← Bool.not_eq_true]
          exact fun e => heq (hfit.1 (HB.out.1 e _ (List.getElem_mem hlt)))
        clear H hfit heq
        go_quiet (fail)
        have hl : (W.drewN nq).heap[w.heap.size]? = some (.cells (ints zs).toArray 73 (0, 0)) := c0
        have hs : (W.drewN nq).heap[w.heap.size + 1]? = some (.cells (ints [0, 0, 0, 0]).toArray 73 (0, 0)) := c1
        have hb9 := Wo.Below.drewN hbW nq
        go_wp2_with (first
          | (refine wpList_load_row rfl 73 _ rfl w.heap.size rfl 73 (ints zs).toArray (0, 0) _ hl Tryd.underlying73 rfl HSZ'.out ?_)
          | (refine wpList_store_rowTo rfl 73 _ _ rfl rfl (w.heap.size + 1) (ints zs).toArray rfl rfl 73 (ints [0, 0, 0, 0]).toArray hs HSZ'.out HSZ.out.symm (ints_ones _) ?_))
        have h2 : ((W.drewN nq).setRow (w.heap.size + 1) (ints zs).toArray).heap[w.heap.size + 1]? = some (.cells (ints zs).toArray 73 (0, 0)) := setRow_heap _ _ _ _ _ _ hs
        have hb2 := below_setRow hb9 (Nat.le_succ _) (ints zs).toArray
        rw [F.out]
        refine bodyPost_ret (v := .tuple #[.agg (ints zs).toArray, .bool false]) (results_cell_slot (p := 4) (s := 5) (by kernel_rfl) _ _ (w.heap.size + 1) 73 _ (0, 0) _ _ _ rfl rfl h2 Tryd.underlying73 HSZ'.out) rfl ⟨rfl, hb2⟩
    · have hk' : k = us.length := by omega
      subst hk'
      have F := hid (HB.out.2 H.out.all)
      rw [List.take_length] at a2
      clear H
      obtain ⟨ys, hys⟩ : ∃ ys, setR zs us = ys := ⟨_, rfl⟩
      have hyl : (ints ys).toArray.size = 4 := by rw [List.size_toArray, ints_length, ← hys, setR_length, H4.out]
      have hyl' : (Tryd.prog.info? 73).map (·.size) = some (ints ys).toArray.size := by rw [hyl]; exact info_refsJ
      have HYL := hid hyl
      have HYL' := hid hyl'
      have HY := hid hys
      rw [hys] at a2
      clear hyl hyl' hys
      have hl : wr.heap[w.heap.size + 1 + 1]? = some (.cells (ints ys).toArray 73 (0, 0)) := a2
      have hs : wr.heap[w.heap.size + 1]? = some (.cells (ints [0, 0, 0, 0]).toArray 73 (0, 0)) := a1
      go_wp2_with (first
        | (refine wpList_load_row rfl 73 _ rfl (w.heap.size + 1 + 1) rfl 73 (ints ys).toArray (0, 0) _ hl Tryd.underlying73 rfl HYL'.out ?_)
        | (refine wpList_store_rowTo rfl 73 _ _ rfl rfl (w.heap.size + 1) (ints ys).toArray rfl rfl 73 (ints [0, 0, 0, 0]).toArray hs HYL'.out HYL.out.symm (ints_ones _) ?_))
      have h2 : (wr.setRow (w.heap.size + 1) (ints ys).toArray).heap[w.heap.size + 1]? = some (.cells (ints ys).toArray 73 (0, 0)) := setRow_heap _ _ _ _ _ _ hs
      have hb2 := below_setRow hbr (Nat.le_succ _) (ints ys).toArray
      rw [F.out]
      refine bodyPost_ret (v := .tuple #[.agg (ints ys).toArray, .bool true]) (results_cell_slot (p := 4) (s := 5) (by kernel_rfl) _ _ (w.heap.size + 1) 73 _ (0, 0) _ _ _ rfl rfl h2 Tryd.underlying73 HYL'.out) rfl ⟨by rw [if_pos rfl, HY.out], hb2⟩

end Go.Proofs.YteeffchnbkkpfabDoor
