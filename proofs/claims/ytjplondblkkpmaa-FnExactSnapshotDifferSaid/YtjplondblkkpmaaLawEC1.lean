/- The coordinator with the slices $SA and $SB is stored as the answer, with the word $BB. -/
/- Laws on coordinators: a coordinator is boxed. -/
/- On to the world behind D. -/
/- An exact law begins: the argument's box, its size, a copy for the model. -/
/- The program's own copy of the argument is boxed. -/
/- The program's copy is as the argument; the region draws. -/
/- Laws on functions that answer numbers. -/
/- What the boxes hold is read again. -/
/- The coordinator with the slices P4 and P5 is boxed as P6, in block P7, behind it the world P3; ahead of region P1. -/
/- The draw, the program's answer, the model's, and that they are the same: behind it w5, all facts on it by way of dx. -/
/-
  Walks of the exact laws on CoordinatorValid, CoordinatorWaits and CoordinatorRefs.
-/
import Derived.Test.YtjplondblkkpmaaG4E
import Derived.Test.YtjplondblkkpmaaWatJ
import Derived.Test.YtjplondblkkpmaaG5C
import Derived.Test.YtjplondblkkpmaaRfsJ
import Derived.Test.YtjplondblkkpmaaG5X
namespace Go.Proofs.Ytjplondblkkpmaa
open Go.RowKit Wo Pu Rf Co
set_option linter.unusedVariables false
set_option linter.unusedSimpArgs false

theorem IntsOf.read {zs : List Int} {w w' : World} {e : Ending} (h : IntsOf zs w e w') : ReadI zs w e w' := by
  obtain ⟨A, c, rfl, o, d⟩ := h
  obtain ⟨A', c', e, r, hc⟩ := o.form
  injection e with e1 _ e3
  subst e1 e3
  exact ⟨A, c, rfl, r, hc, d⟩
set_option maxRecDepth 100000 in
set_option maxHeartbeats 8000000 in
theorem exactCoordinatorRefs_any (v : Value) (q : Crd) (s m : Int) (w : World) (hv : Crdd w w.heap.size v q) (hw : WideC q) (_ws : (Lit.int .i64 s).wf = true) (_wm : (Lit.int .i64 m).wf = true) :
    Calls Try.prog 8 #[v, .int .i64 s, .int .i64 m] w (Ret (.bool true) w) := by
  obtain ⟨zs, hz⟩ := refsC_ex q s m
  have CS := hid fun (x : World) (v' : Value) (hc : Crdd x x.heap.size v' q) (hf : FitC q) => specCoordinatorRefs_is zs v' q s m x hc hf hz
  have CI := hid fun (x : World) (v' : Value) (hc : Crdd x x.heap.size v' q) (hf : FitC q) => implCoordinatorRefs_is zs v' q s m x hc hf hz
  have HZB : Hid (FitC q → zs.length ≤ 1048576) := fun hf => by
    rcases hz.alt with e | ⟨k, -, -, -, -, e⟩
    · rw [e]; simp
    · rw [e, refsC_len]; decide
  clear hz
  obtain ⟨A0, c0, B0, k0, rfl, -⟩ := id hv
  unfold crV at *
  have HA : Hid (∀ y, Below w.heap.size w y → Crdd y y.heap.size (.agg #[.slice A0 q.ts.length c0, .slice B0 q.os.length k0]) q) := fun y hy => hv.on hy hy.size
  have HW := hid hw
  have x0 := Blk2s.new_ w 48 (.slice A0 q.ts.length c0) (.slice B0 q.os.length k0)
  have b1 := (Below.refl w.heap.size w).alloc (Nat.le_refl _) (.cells #[.slice A0 q.ts.length c0, .slice B0 q.os.length k0] 48)
  go_enter Try.func8, Try.ntmps8
  go_upto_region 1 with fail
  obtain ⟨w0, hw0⟩ : ∃ x, w.alloc (.cells #[.slice A0 q.ts.length c0, .slice B0 q.os.length k0] 48) = x := ⟨_, rfl⟩
  rw [hw0] at x0 b1 ⊢
  clear hw0 hv hw
  obtain ⟨ya0, ya1, -⟩ := id x0.reads
  go_wp2_with fail
  refine (szCoordinator_any _ q 1048576 w0 (HA.out _ b1) HW.out (by omega) (by omega)).mono ?_
  rintro e w1 ⟨r, rfl, hr, d⟩
  replace b1 := b1.trans ((d).mono b1.size)
  replace x0 := x0.later d
  try replace bS := bS.trans ((d).mono bS.size)
  try replace bX := bX.trans ((d).mono bX.size)
  try replace bG := bG.trans ((d).mono bG.size)
  try replace b5 := b5.trans ((d).mono b5.size)
  try replace kG := kG.trans (Keeps.of_below d _)
  try replace kQ := kQ.trans (Keeps.of_below d _)
  try replace bQ := bQ.trans ((d).mono bQ.size)
  try replace xb := xb.later d
  try replace xw := xw.later d
  try replace xg := xg.later d
  try clear ya0 ya1
  try clear yb0 yb1
  try clear yw0 yw1
  try clear yg0 yg1
  obtain ⟨ya0, ya1, -⟩ := id x0.reads
  try obtain ⟨yb0, yb1, -⟩ := id xb.reads
  try obtain ⟨yw0, yw1, -⟩ := id xw.reads
  try obtain ⟨yg0, yg1, -⟩ := id xg.reads
  clear d
  rcases hr with rfl | ⟨hr0, hr⟩
  · go_wp2
    go_ret
    exact .mk_ b1
  have HZL : Hid (zs.length ≤ 1048576) := HZB.out (allC_fit (q := q) (m := 1048576) (by omega) (Nat.le_refl _))
  have hneg : ¬ r < 0 := by omega
  have hal : allC q ≤ 1048576 := by omega
  have HAL := hid hal
  have HFT := hid (allC_fit hal (Nat.le_refl _))
  have CTO := hid fun (x : World) (hx : Below w.heap.size w x) => toCoordinator_any _ q x (HA.out x hx) HFT.out
  clear hr hal
  go_wp2_with fail
  refine (CTO.out _ b1).mono ?_
  rintro e w2 ⟨v2, col2, rfl, o2, d⟩
  replace b1 := b1.trans ((d).mono b1.size)
  replace x0 := x0.later d
  try replace bS := bS.trans ((d).mono bS.size)
  try replace bX := bX.trans ((d).mono bX.size)
  try replace bG := bG.trans ((d).mono bG.size)
  try replace b5 := b5.trans ((d).mono b5.size)
  try replace kG := kG.trans (Keeps.of_below d _)
  try replace kQ := kQ.trans (Keeps.of_below d _)
  try replace bQ := bQ.trans ((d).mono bQ.size)
  try replace xb := xb.later d
  try replace xw := xw.later d
  try replace xg := xg.later d
  try clear ya0 ya1
  try clear yb0 yb1
  try clear yw0 yw1
  try clear yg0 yg1
  obtain ⟨ya0, ya1, -⟩ := id x0.reads
  try obtain ⟨yb0, yb1, -⟩ := id xb.reads
  try obtain ⟨yw0, yw1, -⟩ := id xw.reads
  try obtain ⟨yg0, yg1, -⟩ := id xg.reads
  clear d
  obtain ⟨A2, c2, B2, k2, rfl, -⟩ := o2.form
  unfold crV at o2 ⊢
  go_wp2_with fail
  refine (CS.out w2 _ o2.crd HFT.out).mono ?_
  rintro e w3 ⟨Aw, cw, rfl, ow, -, d⟩
  replace b1 := b1.trans ((d).mono b1.size)
  replace x0 := x0.later d
  try replace bS := bS.trans ((d).mono bS.size)
  try replace bX := bX.trans ((d).mono bX.size)
  try replace bG := bG.trans ((d).mono bG.size)
  try replace b5 := b5.trans ((d).mono b5.size)
  try replace kG := kG.trans (Keeps.of_below d _)
  try replace kQ := kQ.trans (Keeps.of_below d _)
  try replace bQ := bQ.trans ((d).mono bQ.size)
  try replace xb := xb.later d
  try replace xw := xw.later d
  try replace xg := xg.later d
  try clear ya0 ya1
  try clear yb0 yb1
  try clear yw0 yw1
  try clear yg0 yg1
  obtain ⟨ya0, ya1, -⟩ := id x0.reads
  try obtain ⟨yb0, yb1, -⟩ := id xb.reads
  try obtain ⟨yw0, yw1, -⟩ := id xw.reads
  try obtain ⟨yg0, yg1, -⟩ := id xg.reads
  have bS := Below.refl w3.heap.size w3
  have HS : Hid (∀ y, Below w3.heap.size w3 y → Row y w3.heap.size Aw (ints zs)) := fun y hy => ow.below hy (Nat.le_refl _)
  have h03 : w.heap.size < w3.heap.size := x0.lt
  clear d o2 ow
  go_wp2_with fail
  refine (CTO.out _ b1).mono ?_
  rintro e w4 ⟨v4, col4, rfl, o4, d⟩
  replace b1 := b1.trans ((d).mono b1.size)
  replace x0 := x0.later d
  try replace bS := bS.trans ((d).mono bS.size)
  try replace bX := bX.trans ((d).mono bX.size)
  try replace bG := bG.trans ((d).mono bG.size)
  try replace b5 := b5.trans ((d).mono b5.size)
  try replace kG := kG.trans (Keeps.of_below d _)
  try replace kQ := kQ.trans (Keeps.of_below d _)
  try replace bQ := bQ.trans ((d).mono bQ.size)
  try replace xb := xb.later d
  try replace xw := xw.later d
  try replace xg := xg.later d
  try clear ya0 ya1
  try clear yb0 yb1
  try clear yw0 yw1
  try clear yg0 yg1
  obtain ⟨ya0, ya1, -⟩ := id x0.reads
  try obtain ⟨yb0, yb1, -⟩ := id xb.reads
  try obtain ⟨yw0, yw1, -⟩ := id xw.reads
  try obtain ⟨yg0, yg1, -⟩ := id xg.reads
  clear d
  obtain ⟨A4, c4, B4, k4, rfl, -⟩ := o4.form
  unfold crV at o4 ⊢
  have bX := Below.refl w4.heap.size w4
  go_upto_region 7 with fail
  have xb := Blk2s.new_ w4 26 (.slice A4 q.ts.length c4) (.slice B4 q.os.length k4)
  have al := (Below.refl w4.heap.size w4).alloc (Nat.le_refl _) (.cells #[.slice A4 q.ts.length c4, .slice B4 q.os.length k4] 26)
  obtain ⟨w5, hw5⟩ : ∃ x, w4.alloc (.cells #[.slice A4 q.ts.length c4, .slice B4 q.os.length k4] 26) = x := ⟨_, rfl⟩
  obtain ⟨gb, hgb⟩ : ∃ x, w4.heap.size = x := ⟨_, rfl⟩
  rw [hw5] at xb al ⊢
  rw [hgb] at xb ⊢
  have hgb2 : w4.heap.size ≤ gb := by rw [hgb]; exact Nat.le_refl _
  clear hw5 hgb
  replace b1 := b1.trans (al.mono b1.size)
  replace x0 := x0.later al
  try replace bS := bS.trans (al.mono bS.size)
  try replace xw := xw.later al
  replace bX := bX.trans (al.mono bX.size)
  clear al
  try clear ya0 ya1
  try clear yb0 yb1
  try clear yw0 yw1
  try clear yg0 yg1
  obtain ⟨ya0, ya1, -⟩ := id x0.reads
  try obtain ⟨yb0, yb1, -⟩ := id xb.reads
  try obtain ⟨yw0, yw1, -⟩ := id xw.reads
  try obtain ⟨yg0, yg1, -⟩ := id xg.reads
  have HX : Hid (∀ y, Below w4.heap.size w4 y → Crdd y y.heap.size (.agg #[.slice A4 q.ts.length c4, .slice B4 q.os.length k4]) q) := fun y hy => (o4.below hy).crd
  go_wp2_with fail
  have h45 : w4.heap.size ≤ w5.heap.size := bX.size
  have h35 : w3.heap.size ≤ w5.heap.size := bS.size
  have b5 := Below.refl w5.heap.size w5
  refine (CI.out w5 _ (HX.out _ bX) HFT.out).mono ?_
  rintro e w6 ⟨Ag, cg, rfl, og, d⟩
  replace b1 := b1.trans ((d).mono b1.size)
  replace x0 := x0.later d
  try replace bS := bS.trans ((d).mono bS.size)
  try replace bX := bX.trans ((d).mono bX.size)
  try replace bG := bG.trans ((d).mono bG.size)
  try replace b5 := b5.trans ((d).mono b5.size)
  try replace kG := kG.trans (Keeps.of_below d _)
  try replace kQ := kQ.trans (Keeps.of_below d _)
  try replace bQ := bQ.trans ((d).mono bQ.size)
  try replace xb := xb.later d
  try replace xw := xw.later d
  try replace xg := xg.later d
  try clear ya0 ya1
  try clear yb0 yb1
  try clear yw0 yw1
  try clear yg0 yg1
  obtain ⟨ya0, ya1, -⟩ := id x0.reads
  try obtain ⟨yb0, yb1, -⟩ := id xb.reads
  try obtain ⟨yw0, yw1, -⟩ := id xw.reads
  try obtain ⟨yg0, yg1, -⟩ := id xg.reads
  clear d
  go_wp2_with fail
  refine (eqIntS_ret Ag Aw cg cw zs _ _ _ og.row (HS.out _ bS) (by have := HZL.out; unfold maxLen; omega)).mono ?_
  rintro e w7 ⟨rfl, d⟩
  replace b1 := b1.trans ((d).mono b1.size)
  replace x0 := x0.later d
  try replace bS := bS.trans ((d).mono bS.size)
  try replace bX := bX.trans ((d).mono bX.size)
  try replace bG := bG.trans ((d).mono bG.size)
  try replace b5 := b5.trans ((d).mono b5.size)
  try replace kG := kG.trans (Keeps.of_below d _)
  try replace kQ := kQ.trans (Keeps.of_below d _)
  try replace bQ := bQ.trans ((d).mono bQ.size)
  try replace xb := xb.later d
  try replace xw := xw.later d
  try replace xg := xg.later d
  try clear ya0 ya1
  try clear yb0 yb1
  try clear yw0 yw1
  try clear yg0 yg1
  obtain ⟨ya0, ya1, -⟩ := id x0.reads
  try obtain ⟨yb0, yb1, -⟩ := id xb.reads
  try obtain ⟨yw0, yw1, -⟩ := id xw.reads
  try obtain ⟨yg0, yg1, -⟩ := id xg.reads
  replace og := og.below d (Nat.le_refl _)
  clear d
  have bG := Below.refl w7.heap.size w7
  go_wp2_with fail
  have b0 := (Below.refl (w7).heap.size w7).drew
  have HH : Hid (∀ y, Below (w7).heap.size w7 y → y.cell? ⟨w.heap.size, 0, none⟩ = some (.slice A0 q.ts.length c0) ∧ y.cell? ⟨w.heap.size, 1, none⟩ = some (.slice B0 q.os.length k0) ∧ y.cell? ⟨gb, 0, none⟩ = some (.slice A4 q.ts.length c4) ∧ y.cell? ⟨gb, 1, none⟩ = some (.slice B4 q.os.length k4)) := fun y hy => ⟨(x0.later hy).reads.1, (x0.later hy).reads.2.1, (xb.later hy).reads.1, (xb.later hy).reads.2.1⟩
  refine wp_region_held_drew (S := fun y => y.cell? ⟨w.heap.size, 0, none⟩ = some (.slice A0 q.ts.length c0) ∧ y.cell? ⟨w.heap.size, 1, none⟩ = some (.slice B0 q.os.length k0) ∧ y.cell? ⟨gb, 0, none⟩ = some (.slice A4 q.ts.length c4) ∧ y.cell? ⟨gb, 1, none⟩ = some (.slice B4 q.os.length k4)) (by kernel_rfl) (HH.out _ b0) (fun hHeld => ?_)
  obtain ⟨W, hW⟩ : ∃ x, (w7).drew = x := ⟨_, rfl⟩
  rw [hW] at b0 hHeld ⊢
  clear hW
  try simp only [Act.put, List.getElem_toArray, List.getElem_cons_succ, List.getElem_cons_zero, List.setIfInBounds_toArray, List.set_cons_zero, List.set_cons_succ]
  refine wpAnyH_take (i := 0) (oi := _) (v := ?_) rfl (by kernel_rfl) (by kernel_rfl) (by kernel_rfl) (fun _ _ _ h => h) (Or.inl ⟨by rfl, ?_⟩) hHeld ?_
  rotate_left
  · (intro w' hSw; (try dsimp only at hSw); go_simp <;> with_reducible rfl)
  try simp only [Act.put, List.getElem_toArray, List.getElem_cons_succ, List.getElem_cons_zero, List.setIfInBounds_toArray, List.set_cons_zero, List.set_cons_succ]
  refine wpAnyH_take (i := 1) (oi := _) (v := ?_) rfl (by kernel_rfl) (by kernel_rfl) (by kernel_rfl) (fun _ _ _ h => h) (Or.inl ⟨by rfl, ?_⟩) hHeld ?_
  rotate_left
  · (intro w' hSw; (try dsimp only at hSw); go_simp <;> with_reducible rfl)
  try simp only [Act.put, List.getElem_toArray, List.getElem_cons_succ, List.getElem_cons_zero, List.setIfInBounds_toArray, List.set_cons_zero, List.set_cons_succ]
  refine wpAnyH_ready (rs := [2]) (by kernel_rfl) (by simp) (AllReadyH.cons (o := _) rfl (fun K hK => ?_) AllReadyH.nil)
  try simp only [Act.put, List.getElem_toArray, List.getElem_cons_succ, List.getElem_cons_zero, List.setIfInBounds_toArray, List.set_cons_zero, List.set_cons_succ]
  go_simp
  go_at_call 26
  refine (CTO.out _ (b1.trans (b0.mono b1.size))).mono ?_
  rintro e W ⟨v9, col9, rfl, o9, d⟩
  have p9 := o9.crd
  replace b0 := b0.trans (d.mono b0.size)
  clear d
  refine hK.out _ _ (HH.out _ b0) (fun hHeld => ?_)
  clear hK K
  try simp only [Act.put, List.getElem_toArray, List.getElem_cons_succ, List.getElem_cons_zero, List.setIfInBounds_toArray, List.set_cons_zero, List.set_cons_succ]
  refine wpAnyH_ready (rs := [3]) (by kernel_rfl) (by simp) (AllReadyH.cons (o := _) rfl (fun K hK => ?_) AllReadyH.nil)
  try simp only [Act.put, List.getElem_toArray, List.getElem_cons_succ, List.getElem_cons_zero, List.setIfInBounds_toArray, List.set_cons_zero, List.set_cons_succ]
  go_simp
  go_at_call 28
  refine (eqCoordinator_is _ _ q _ (HX.out _ (bX.trans (b0.mono bX.size))) p9 HFT.out).mono ?_
  rintro e W ⟨rfl, d⟩
  replace b0 := b0.trans (d.mono b0.size)
  clear d
  refine hK.out _ _ (HH.out _ b0) (fun hHeld => ?_)
  clear hK K
  try simp only [Act.put, List.getElem_toArray, List.getElem_cons_succ, List.getElem_cons_zero, List.setIfInBounds_toArray, List.set_cons_zero, List.set_cons_succ]
  refine wpAnyH_take (i := 4) (oi := _) (v := ?_) rfl (by kernel_rfl) (by kernel_rfl) (by kernel_rfl) (fun _ _ _ h => h) (Or.inl ⟨by rfl, ?_⟩) hHeld ?_
  rotate_left
  · (intro w' hSw; (try dsimp only at hSw); go_simp <;> with_reducible rfl)
  try simp only [Act.put, List.getElem_toArray, List.getElem_cons_succ, List.getElem_cons_zero, List.setIfInBounds_toArray, List.set_cons_zero, List.set_cons_succ]
  refine wpAnyH_done (by kernel_rfl) ?_ _
  clear hHeld HH o9 p9
  replace b1 := b1.trans ((b0).mono b1.size)
  replace x0 := x0.later b0
  try replace bS := bS.trans ((b0).mono bS.size)
  try replace bX := bX.trans ((b0).mono bX.size)
  try replace bG := bG.trans ((b0).mono bG.size)
  try replace b5 := b5.trans ((b0).mono b5.size)
  try replace kG := kG.trans (Keeps.of_below b0 _)
  try replace kQ := kQ.trans (Keeps.of_below b0 _)
  try replace bQ := bQ.trans ((b0).mono bQ.size)
  try replace xb := xb.later b0
  try replace xw := xw.later b0
  try replace xg := xg.later b0
  try clear ya0 ya1
  try clear yb0 yb1
  try clear yw0 yw1
  try clear yg0 yg1
  obtain ⟨ya0, ya1, -⟩ := id x0.reads
  try obtain ⟨yb0, yb1, -⟩ := id xb.reads
  try obtain ⟨yw0, yw1, -⟩ := id xw.reads
  try obtain ⟨yg0, yg1, -⟩ := id xg.reads
  clear b0
  replace og := og.below bG (Nat.le_refl _)
  clear bG
  have hzc : 1 + zC q ≤ 4000000 := by have := zC_le q; have := HAL.out; omega
  have CM := hid (markCoordinator_D col4 w3.heap.size 1 _ q w4 W o4 (Keeps.of_below bX _) HFT.out (Nat.le_refl _) hzc)
  go_wp2_with fail
  refine CM.out.mono ?_
  rintro e W2 ⟨rfl, -, hO⟩
  have dB := hO.below bS.size
  replace og := og.only hO h45
  replace b1 := b1.trans (dB.mono (Nat.le_of_lt h03))
  replace bS := bS.trans dB
  have h5W := Nat.le_trans b5.size hO.size
  clear b5
  replace x0 := x0.only hO (by omega)
  have hk0 : ¬ (((1 + zC q : Nat) : Int) < 0) := by omega
  clear CM ya0 ya1 yb0 yb1 xb bX dB hO HX o4
  obtain ⟨ya0, ya1, -⟩ := id x0.reads
  go_wp2_with fail
  refine (eqIntS_ret Ag Aw cg cw zs _ _ _ og.row (HS.out _ bS) (by have := HZL.out; unfold maxLen; omega)).mono ?_
  rintro e W3 ⟨rfl, d⟩
  replace b1 := b1.trans ((d).mono b1.size)
  replace x0 := x0.later d
  try replace bS := bS.trans ((d).mono bS.size)
  try replace bX := bX.trans ((d).mono bX.size)
  try replace bG := bG.trans ((d).mono bG.size)
  try replace b5 := b5.trans ((d).mono b5.size)
  try replace kG := kG.trans (Keeps.of_below d _)
  try replace kQ := kQ.trans (Keeps.of_below d _)
  try replace bQ := bQ.trans ((d).mono bQ.size)
  try replace xb := xb.later d
  try replace xw := xw.later d
  try replace xg := xg.later d
  try clear ya0 ya1
  try clear yb0 yb1
  try clear yw0 yw1
  try clear yg0 yg1
  obtain ⟨ya0, ya1, -⟩ := id x0.reads
  try obtain ⟨yb0, yb1, -⟩ := id xb.reads
  try obtain ⟨yw0, yw1, -⟩ := id xw.reads
  try obtain ⟨yg0, yg1, -⟩ := id xg.reads
  replace og := og.below d (Nat.le_refl _)
  have og_sz := d.size
  clear d hk0
  obtain ⟨R, hR1, hR2⟩ := inB_of Ag W3.heap.size
  have hR5 : w5.heap.size ≤ R := by
    rcases Ag with _ | ad
    · rw [hR2 rfl]; exact Nat.le_trans h5W og_sz
    · have e1 := hR1 ad rfl
      have := (World.ownsRow.lt og ad.block rfl).1
      omega
  have h5Z := Nat.le_trans h5W og_sz
  have CMI := hid (markInts_to (1 + (zs.length : Int)) R w5.heap.size Ag cg zs W3 og hR1 HZL.out rfl)
  go_wp2_with fail
  refine CMI.out.mono ?_
  rintro e W4 ⟨rfl, om, hbR⟩
  have d5 := hbR.below (B := w5.heap.size) h5Z hR5
  replace b1 := b1.trans (d5.mono (by omega))
  replace bS := bS.trans (d5.mono h35)
  replace x0 := x0.below d5 (by omega)
  clear CMI ya0 ya1 og hbR d5 hR5 hR1 hR2
  obtain ⟨ya0, ya1, -⟩ := id x0.reads
  have CHI := hid fun (y : World) (hr : OwnI y w5.heap.size (.slice Ag zs.length cg) (marks 1 zs.length)) => heldInts_to (1 + (zs.length : Int)) Ag cg zs.length y _ hr.row HZL.out rfl
  have hq0 : ¬ (1 + (zs.length : Int) < 0) := by omega
  go_wp2_with fail
  refine (CHI.out W4 om).mono ?_
  rintro e W5 ⟨rfl, rfl⟩
  go_wp2_with fail
  refine (CTO.out _ b1).mono ?_
  rintro e W6 ⟨v7, col7, rfl, o7, d⟩
  replace b1 := b1.trans ((d).mono b1.size)
  replace x0 := x0.later d
  try replace bS := bS.trans ((d).mono bS.size)
  try replace bX := bX.trans ((d).mono bX.size)
  try replace bG := bG.trans ((d).mono bG.size)
  try replace b5 := b5.trans ((d).mono b5.size)
  try replace kG := kG.trans (Keeps.of_below d _)
  try replace kQ := kQ.trans (Keeps.of_below d _)
  try replace bQ := bQ.trans ((d).mono bQ.size)
  try replace xb := xb.later d
  try replace xw := xw.later d
  try replace xg := xg.later d
  try clear ya0 ya1
  try clear yb0 yb1
  try clear yw0 yw1
  try clear yg0 yg1
  obtain ⟨ya0, ya1, -⟩ := id x0.reads
  try obtain ⟨yb0, yb1, -⟩ := id xb.reads
  try obtain ⟨yw0, yw1, -⟩ := id xw.reads
  try obtain ⟨yg0, yg1, -⟩ := id xg.reads
  replace om := om.below d (Nat.le_refl _)
  clear d
  obtain ⟨A7, c7, B7, k7, rfl, -⟩ := o7.form
  unfold crV at o7 ⊢
  go_wp2_with fail
  refine (CI.out W6 _ o7.crd HFT.out).mono ?_
  rintro e W7 ⟨Ah, ch, rfl, oh, d⟩
  replace b1 := b1.trans ((d).mono b1.size)
  replace x0 := x0.later d
  try replace bS := bS.trans ((d).mono bS.size)
  try replace bX := bX.trans ((d).mono bX.size)
  try replace bG := bG.trans ((d).mono bG.size)
  try replace b5 := b5.trans ((d).mono b5.size)
  try replace kG := kG.trans (Keeps.of_below d _)
  try replace kQ := kQ.trans (Keeps.of_below d _)
  try replace bQ := bQ.trans ((d).mono bQ.size)
  try replace xb := xb.later d
  try replace xw := xw.later d
  try replace xg := xg.later d
  try clear ya0 ya1
  try clear yb0 yb1
  try clear yw0 yw1
  try clear yg0 yg1
  obtain ⟨ya0, ya1, -⟩ := id x0.reads
  try obtain ⟨yb0, yb1, -⟩ := id xb.reads
  try obtain ⟨yw0, yw1, -⟩ := id xw.reads
  try obtain ⟨yg0, yg1, -⟩ := id xg.reads
  replace om := om.below d (Nat.le_refl _)
  clear d o7
  go_wp2_with fail
  refine (eqIntS_ret Ah Aw ch cw zs _ _ _ oh.row (HS.out _ bS) (by have := HZL.out; unfold maxLen; omega)).mono ?_
  rintro e W8 ⟨rfl, d⟩
  replace b1 := b1.trans ((d).mono b1.size)
  replace x0 := x0.later d
  try replace bS := bS.trans ((d).mono bS.size)
  try replace bX := bX.trans ((d).mono bX.size)
  try replace bG := bG.trans ((d).mono bG.size)
  try replace b5 := b5.trans ((d).mono b5.size)
  try replace kG := kG.trans (Keeps.of_below d _)
  try replace kQ := kQ.trans (Keeps.of_below d _)
  try replace bQ := bQ.trans ((d).mono bQ.size)
  try replace xb := xb.later d
  try replace xw := xw.later d
  try replace xg := xg.later d
  try clear ya0 ya1
  try clear yb0 yb1
  try clear yw0 yw1
  try clear yg0 yg1
  obtain ⟨ya0, ya1, -⟩ := id x0.reads
  try obtain ⟨yb0, yb1, -⟩ := id xb.reads
  try obtain ⟨yw0, yw1, -⟩ := id xw.reads
  try obtain ⟨yg0, yg1, -⟩ := id xg.reads
  replace om := om.below d (Nat.le_refl _)
  clear d oh
  go_wp2_with fail
  refine (CHI.out W8 om).mono ?_
  rintro e W9 ⟨rfl, rfl⟩
  go_wp2
  go_ret
  exact .mk_ b1
end Go.Proofs.Ytjplondblkkpmaa
