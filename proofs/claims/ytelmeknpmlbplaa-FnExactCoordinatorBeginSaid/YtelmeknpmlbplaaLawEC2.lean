/- The coordinator with the slices $SA and $SB is stored as the answer, with the word $BB. -/
/- Laws on coordinators: a coordinator is boxed. -/
/- On to the world behind D. -/
/- An exact law begins: the argument's box, its size, a copy for the model. -/
/- The program's own copy of the argument is boxed. -/
/- The program's copy is as the argument; the region draws. -/
/- Laws on functions that answer numbers. -/
/- What the boxes hold is read again. -/
/- The coordinator with the slices P4 and P5 is boxed as P6, in block P7, behind it the world P3; ahead of region P1. -/
/-
  Walks of the exact laws on CoordinatorVote and CoordinatorTimeout.
-/
import Derived.Test.YtelmeknpmlbplaaLawEC1
import Derived.Test.YtelmeknpmlbplaaVotJ
import Derived.Test.YtelmeknpmlbplaaCopV
import Derived.Test.YtelmeknpmlbplaaG0C
import Derived.Test.YtelmeknpmlbplaaG2C
import Derived.Test.YtelmeknpmlbplaaG3C
import Derived.Test.YtelmeknpmlbplaaG5C
import Derived.Test.YtelmeknpmlbplaaG3D
namespace Go.Proofs.Ytelmeknpmlbplaa
open Go.RowKit Wo Pu Rf Co
set_option linter.unusedVariables false
set_option linter.unusedSimpArgs false

theorem preS_bd {α : Type} {f : α → Nat} {l : List α} {c : Nat} (h : ∀ a ∈ l, f a ≤ c) : ∀ k, k ≤ l.length → preS f l k ≤ k * c := by
  intro k
  induction k with
  | zero => intro _; simp [preS_zero]
  | succ k ih =>
    intro hk
    rw [preS_succ (by omega), Nat.add_mul, Nat.one_mul]
    have := ih (by omega)
    have := h _ (List.getElem_mem (show k < l.length by omega))
    omega
theorem zC_small {q : Crd} (h : CV q) : 1 + zC q ≤ 4000000 := by
  have hs := (cv_few h).1
  have h1 : ∀ t ∈ q.ts, tN t ≤ 2000 := fun t ht => by
    have hp := hs.ps t ht
    have hu : ∀ p ∈ t.ps, uN p ≤ 20 := fun p hp => by
      have := hs.us t ht p hp
      unfold uN
      omega
    have := preS_bd hu t.ps.length (Nat.le_refl _)
    have h3 : t.ps.length * 20 ≤ 3 * 20 := Nat.mul_le_mul_right 20 hp.1
    unfold tN allP
    omega
  have h2 := preS_bd h1 q.ts.length (Nat.le_refl _)
  have h3 : q.ts.length * 2000 ≤ 12 * 2000 := Nat.mul_le_mul_right 2000 hs.ts
  have h4 := zC_le q
  have h5 := hs.ts
  have h6 := hs.os
  unfold allC allT at h4
  omega
set_option maxRecDepth 100000 in
set_option maxHeartbeats 8000000 in
theorem exactCoordinatorTimeout_any (v : Value) (q : Crd) (t : Int) (w : World) (hv : Crdd w w.heap.size v q) (hw : WideC q) (_wt : (Lit.int .i64 t).wf = true) :
    Calls Try.prog 11 #[v, .int .i64 t] w (Ret (.bool true) w) := by
  obtain ⟨xs, b, hx⟩ := late_ex q t
  have CS := hid fun (x : World) (v' : Value) (hc : Crdd x x.heap.size v' q) (hf : FitC q) => specCoordinatorTimeout_is xs b v' q t x hc hf hx
  have CI := hid fun (x : World) (v' : Value) (hc : Crdd x x.heap.size v' q) (hf : FitC q) => implCoordinatorTimeout_is xs b v' q t x hc hf hx
  have HFX := hid (cv_few hx.valid).1.fit
  have HZX := hid (zC_small hx.valid)
  clear hx
  obtain ⟨A0, c0, B0, k0, rfl, -⟩ := id hv
  unfold crV at *
  have HA : Hid (∀ y, Below w.heap.size w y → Crdd y y.heap.size (.agg #[.slice A0 q.ts.length c0, .slice B0 q.os.length k0]) q) := fun y hy => hv.on hy hy.size
  have HW := hid hw
  have x0 := Blk2s.new_ w 56 (.slice A0 q.ts.length c0) (.slice B0 q.os.length k0)
  have b1 := (Below.refl w.heap.size w).alloc (Nat.le_refl _) (.cells #[.slice A0 q.ts.length c0, .slice B0 q.os.length k0] 56)
  go_enter Try.func11, Try.ntmps11
  go_upto_region 1 with fail
  obtain ⟨w0, hw0⟩ : ∃ x, w.alloc (.cells #[.slice A0 q.ts.length c0, .slice B0 q.os.length k0] 56) = x := ⟨_, rfl⟩
  rw [hw0] at x0 b1 ⊢
  clear hw0 hv hw
  obtain ⟨ya0, ya1, -⟩ := id x0.reads
  go_wp2_with fail
  refine (szCoordinator_any _ q 1048576 w0 (HA.out _ b1) HW.out (by omega) (by omega)).mono ?_
  rintro e w1 ⟨r, rfl, hr, d⟩
  replace b1 := b1.trans ((d).mono b1.size)
  replace x0 := x0.later d
  try replace bS := bS.trans ((d).mono bS.size)
  try replace bX := bX.trans ((d).mono bX.size)
  try replace bG := bG.trans ((d).mono bG.size)
  try replace b5 := b5.trans ((d).mono b5.size)
  try replace kG := kG.trans (Keeps.of_below d _)
  try replace kQ := kQ.trans (Keeps.of_below d _)
  try replace bQ := bQ.trans ((d).mono bQ.size)
  try replace xb := xb.later d
  try replace xw := xw.later d
  try replace xg := xg.later d
  try clear ya0 ya1
  try clear yb0 yb1
  try clear yw0 yw1
  try clear yg0 yg1
  obtain ⟨ya0, ya1, -⟩ := id x0.reads
  try obtain ⟨yb0, yb1, -⟩ := id xb.reads
  try obtain ⟨yw0, yw1, -⟩ := id xw.reads
  try obtain ⟨yg0, yg1, -⟩ := id xg.reads
  clear d
  rcases hr with rfl | ⟨hr0, hr⟩
  · go_wp2
    go_ret
    exact .mk_ b1
  have hneg : ¬ r < 0 := by omega
  have hal : allC q ≤ 1048576 := by omega
  have HAL := hid hal
  have HFT := hid (allC_fit hal (Nat.le_refl _))
  have CTO := hid fun (x : World) (hx : Below w.heap.size w x) => toCoordinator_any _ q x (HA.out x hx) HFT.out
  clear hr hal
  go_wp2_with fail
  refine (CTO.out _ b1).mono ?_
  rintro e w2 ⟨v2, col2, rfl, o2, d⟩
  replace b1 := b1.trans ((d).mono b1.size)
  replace x0 := x0.later d
  try replace bS := bS.trans ((d).mono bS.size)
  try replace bX := bX.trans ((d).mono bX.size)
  try replace bG := bG.trans ((d).mono bG.size)
  try replace b5 := b5.trans ((d).mono b5.size)
  try replace kG := kG.trans (Keeps.of_below d _)
  try replace kQ := kQ.trans (Keeps.of_below d _)
  try replace bQ := bQ.trans ((d).mono bQ.size)
  try replace xb := xb.later d
  try replace xw := xw.later d
  try replace xg := xg.later d
  try clear ya0 ya1
  try clear yb0 yb1
  try clear yw0 yw1
  try clear yg0 yg1
  obtain ⟨ya0, ya1, -⟩ := id x0.reads
  try obtain ⟨yb0, yb1, -⟩ := id xb.reads
  try obtain ⟨yw0, yw1, -⟩ := id xw.reads
  try obtain ⟨yg0, yg1, -⟩ := id xg.reads
  clear d
  obtain ⟨A2, c2, B2, k2, rfl, -⟩ := o2.form
  unfold crV at o2 ⊢
  go_wp2_with fail
  refine (CS.out w2 _ o2.crd HFT.out).mono ?_
  rintro e w3 ⟨v3, col3, rfl, o3, d⟩
  replace b1 := b1.trans ((d).mono b1.size)
  replace x0 := x0.later d
  try replace bS := bS.trans ((d).mono bS.size)
  try replace bX := bX.trans ((d).mono bX.size)
  try replace bG := bG.trans ((d).mono bG.size)
  try replace b5 := b5.trans ((d).mono b5.size)
  try replace kG := kG.trans (Keeps.of_below d _)
  try replace kQ := kQ.trans (Keeps.of_below d _)
  try replace bQ := bQ.trans ((d).mono bQ.size)
  try replace xb := xb.later d
  try replace xw := xw.later d
  try replace xg := xg.later d
  try clear ya0 ya1
  try clear yb0 yb1
  try clear yw0 yw1
  try clear yg0 yg1
  obtain ⟨ya0, ya1, -⟩ := id x0.reads
  try obtain ⟨yb0, yb1, -⟩ := id xb.reads
  try obtain ⟨yw0, yw1, -⟩ := id xw.reads
  try obtain ⟨yg0, yg1, -⟩ := id xg.reads
  clear d o2
  obtain ⟨A3, c3, B3, k3, rfl, -⟩ := o3.form
  unfold crV at o3 ⊢
  go_upto_region 6 with fail
  have xw := Blk2s.new_ w3 26 (.slice A3 xs.ts.length c3) (.slice B3 xs.os.length k3)
  have al := (Below.refl (w3).heap.size w3).alloc (Nat.le_refl _) (.cells #[.slice A3 xs.ts.length c3, .slice B3 xs.os.length k3] 26)
  obtain ⟨wS, hw5⟩ : ∃ x, (w3).alloc (.cells #[.slice A3 xs.ts.length c3, .slice B3 xs.os.length k3] 26) = x := ⟨_, rfl⟩
  obtain ⟨gw, hgb⟩ : ∃ x, (w3).heap.size = x := ⟨_, rfl⟩
  rw [hw5] at xw al ⊢
  rw [hgb] at xw ⊢
  replace o3 := o3.below al
  have hgw : w.heap.size < gw := by rw [← hgb]; exact x0.lt
  clear hw5 hgb
  replace b1 := b1.trans (al.mono b1.size)
  replace x0 := x0.later al
  clear al
  try clear ya0 ya1
  try clear yb0 yb1
  try clear yw0 yw1
  try clear yg0 yg1
  obtain ⟨ya0, ya1, -⟩ := id x0.reads
  try obtain ⟨yb0, yb1, -⟩ := id xb.reads
  try obtain ⟨yw0, yw1, -⟩ := id xw.reads
  try obtain ⟨yg0, yg1, -⟩ := id xg.reads
  have bS := Below.refl wS.heap.size wS
  have HS : Hid (∀ y, Below wS.heap.size wS y → Crdd y y.heap.size (.agg #[.slice A3 xs.ts.length c3, .slice B3 xs.os.length k3]) xs) := fun y hy => (o3.below hy).crd
  have hgS : gw < wS.heap.size := xw.lt
  clear o3
  go_wp2_with fail
  refine (CTO.out _ b1).mono ?_
  rintro e w4 ⟨v4, col4, rfl, o4, d⟩
  replace b1 := b1.trans ((d).mono b1.size)
  replace x0 := x0.later d
  try replace bS := bS.trans ((d).mono bS.size)
  try replace bX := bX.trans ((d).mono bX.size)
  try replace bG := bG.trans ((d).mono bG.size)
  try replace b5 := b5.trans ((d).mono b5.size)
  try replace kG := kG.trans (Keeps.of_below d _)
  try replace kQ := kQ.trans (Keeps.of_below d _)
  try replace bQ := bQ.trans ((d).mono bQ.size)
  try replace xb := xb.later d
  try replace xw := xw.later d
  try replace xg := xg.later d
  try clear ya0 ya1
  try clear yb0 yb1
  try clear yw0 yw1
  try clear yg0 yg1
  obtain ⟨ya0, ya1, -⟩ := id x0.reads
  try obtain ⟨yb0, yb1, -⟩ := id xb.reads
  try obtain ⟨yw0, yw1, -⟩ := id xw.reads
  try obtain ⟨yg0, yg1, -⟩ := id xg.reads
  clear d
  obtain ⟨A4, c4, B4, k4, rfl, -⟩ := o4.form
  unfold crV at o4 ⊢
  have bX := Below.refl w4.heap.size w4
  go_upto_region 7 with fail
  have xb := Blk2s.new_ w4 26 (.slice A4 q.ts.length c4) (.slice B4 q.os.length k4)
  have al := (Below.refl w4.heap.size w4).alloc (Nat.le_refl _) (.cells #[.slice A4 q.ts.length c4, .slice B4 q.os.length k4] 26)
  obtain ⟨w5, hw5⟩ : ∃ x, w4.alloc (.cells #[.slice A4 q.ts.length c4, .slice B4 q.os.length k4] 26) = x := ⟨_, rfl⟩
  obtain ⟨gb, hgb⟩ : ∃ x, w4.heap.size = x := ⟨_, rfl⟩
  rw [hw5] at xb al ⊢
  rw [hgb] at xb ⊢
  have hgb2 : w4.heap.size ≤ gb := by rw [hgb]; exact Nat.le_refl _
  clear hw5 hgb
  replace b1 := b1.trans (al.mono b1.size)
  replace x0 := x0.later al
  try replace bS := bS.trans (al.mono bS.size)
  try replace xw := xw.later al
  replace bX := bX.trans (al.mono bX.size)
  clear al
  try clear ya0 ya1
  try clear yb0 yb1
  try clear yw0 yw1
  try clear yg0 yg1
  obtain ⟨ya0, ya1, -⟩ := id x0.reads
  try obtain ⟨yb0, yb1, -⟩ := id xb.reads
  try obtain ⟨yw0, yw1, -⟩ := id xw.reads
  try obtain ⟨yg0, yg1, -⟩ := id xg.reads
  have HX : Hid (∀ y, Below w4.heap.size w4 y → Crdd y y.heap.size (.agg #[.slice A4 q.ts.length c4, .slice B4 q.os.length k4]) q) := fun y hy => (o4.below hy).crd
  go_wp2_with fail
  have h45 : w4.heap.size ≤ w5.heap.size := bX.size
  have hS5 : wS.heap.size ≤ w5.heap.size := bS.size
  refine (CI.out w5 _ (HX.out _ bX) HFT.out).mono ?_
  rintro e w6 ⟨v6, col6, rfl, o6, d⟩
  have h56 := d.size
  replace b1 := b1.trans ((d).mono b1.size)
  replace x0 := x0.later d
  try replace bS := bS.trans ((d).mono bS.size)
  try replace bX := bX.trans ((d).mono bX.size)
  try replace bG := bG.trans ((d).mono bG.size)
  try replace b5 := b5.trans ((d).mono b5.size)
  try replace kG := kG.trans (Keeps.of_below d _)
  try replace kQ := kQ.trans (Keeps.of_below d _)
  try replace bQ := bQ.trans ((d).mono bQ.size)
  try replace xb := xb.later d
  try replace xw := xw.later d
  try replace xg := xg.later d
  try clear ya0 ya1
  try clear yb0 yb1
  try clear yw0 yw1
  try clear yg0 yg1
  obtain ⟨ya0, ya1, -⟩ := id x0.reads
  try obtain ⟨yb0, yb1, -⟩ := id xb.reads
  try obtain ⟨yw0, yw1, -⟩ := id xw.reads
  try obtain ⟨yg0, yg1, -⟩ := id xg.reads
  clear d
  obtain ⟨A6, c6, B6, k6, rfl, -⟩ := o6.form
  unfold crV at o6 ⊢
  go_upto_region 8 with fail
  have xg := Blk2s.new_ w6 26 (.slice A6 xs.ts.length c6) (.slice B6 xs.os.length k6)
  have al := (Below.refl (w6).heap.size w6).alloc (Nat.le_refl _) (.cells #[.slice A6 xs.ts.length c6, .slice B6 xs.os.length k6] 26)
  obtain ⟨w7, hw5⟩ : ∃ x, (w6).alloc (.cells #[.slice A6 xs.ts.length c6, .slice B6 xs.os.length k6] 26) = x := ⟨_, rfl⟩
  obtain ⟨gg, hgb⟩ : ∃ x, (w6).heap.size = x := ⟨_, rfl⟩
  rw [hw5] at xg al ⊢
  rw [hgb] at xg ⊢
  have HGG : Hid (gg = w6.heap.size) := hgb.symm
  have og := o6.below al
  clear hw5 hgb
  replace b1 := b1.trans (al.mono b1.size)
  replace bS := bS.trans (al.mono bS.size)
  replace bX := bX.trans (al.mono bX.size)
  replace x0 := x0.later al
  replace xb := xb.later al
  replace xw := xw.later al
  have kG := Keeps.of_below al w5.heap.size
  clear al
  try clear ya0 ya1
  try clear yb0 yb1
  try clear yw0 yw1
  try clear yg0 yg1
  obtain ⟨ya0, ya1, -⟩ := id x0.reads
  try obtain ⟨yb0, yb1, -⟩ := id xb.reads
  try obtain ⟨yw0, yw1, -⟩ := id xw.reads
  try obtain ⟨yg0, yg1, -⟩ := id xg.reads
  go_wp2_with fail
  refine (eqCoordinator_is _ _ xs w7 og.crd (HS.out _ bS) HFX.out).mono ?_
  rintro e w8 ⟨rfl, d⟩
  replace b1 := b1.trans ((d).mono b1.size)
  replace x0 := x0.later d
  try replace bS := bS.trans ((d).mono bS.size)
  try replace bX := bX.trans ((d).mono bX.size)
  try replace bG := bG.trans ((d).mono bG.size)
  try replace b5 := b5.trans ((d).mono b5.size)
  try replace kG := kG.trans (Keeps.of_below d _)
  try replace kQ := kQ.trans (Keeps.of_below d _)
  try replace bQ := bQ.trans ((d).mono bQ.size)
  try replace xb := xb.later d
  try replace xw := xw.later d
  try replace xg := xg.later d
  try clear ya0 ya1
  try clear yb0 yb1
  try clear yw0 yw1
  try clear yg0 yg1
  obtain ⟨ya0, ya1, -⟩ := id x0.reads
  try obtain ⟨yb0, yb1, -⟩ := id xb.reads
  try obtain ⟨yw0, yw1, -⟩ := id xw.reads
  try obtain ⟨yg0, yg1, -⟩ := id xg.reads
  replace og := og.below d
  clear d
  have bG := Below.refl w8.heap.size w8
  go_wp2_with fail
  have b0 := (Below.refl (w8).heap.size w8).drew
  have HH : Hid (∀ y, Below (w8).heap.size w8 y → y.cell? ⟨w.heap.size, 0, none⟩ = some (.slice A0 q.ts.length c0) ∧ y.cell? ⟨w.heap.size, 1, none⟩ = some (.slice B0 q.os.length k0) ∧ y.cell? ⟨gb, 0, none⟩ = some (.slice A4 q.ts.length c4) ∧ y.cell? ⟨gb, 1, none⟩ = some (.slice B4 q.os.length k4)) := fun y hy => ⟨(x0.later hy).reads.1, (x0.later hy).reads.2.1, (xb.later hy).reads.1, (xb.later hy).reads.2.1⟩
  refine wp_region_held_drew (S := fun y => y.cell? ⟨w.heap.size, 0, none⟩ = some (.slice A0 q.ts.length c0) ∧ y.cell? ⟨w.heap.size, 1, none⟩ = some (.slice B0 q.os.length k0) ∧ y.cell? ⟨gb, 0, none⟩ = some (.slice A4 q.ts.length c4) ∧ y.cell? ⟨gb, 1, none⟩ = some (.slice B4 q.os.length k4)) (by kernel_rfl) (HH.out _ b0) (fun hHeld => ?_)
  obtain ⟨W, hW⟩ : ∃ x, (w8).drew = x := ⟨_, rfl⟩
  rw [hW] at b0 hHeld ⊢
  clear hW
  try simp only [Act.put, List.getElem_toArray, List.getElem_cons_succ, List.getElem_cons_zero, List.setIfInBounds_toArray, List.set_cons_zero, List.set_cons_succ]
  refine wpAnyH_take (i := 0) (oi := _) (v := ?_) rfl (by kernel_rfl) (by kernel_rfl) (by kernel_rfl) (fun _ _ _ h => h) (Or.inl ⟨by rfl, ?_⟩) hHeld ?_
  rotate_left
  · (intro w' hSw; (try dsimp only at hSw); go_simp <;> with_reducible rfl)
  try simp only [Act.put, List.getElem_toArray, List.getElem_cons_succ, List.getElem_cons_zero, List.setIfInBounds_toArray, List.set_cons_zero, List.set_cons_succ]
  refine wpAnyH_take (i := 1) (oi := _) (v := ?_) rfl (by kernel_rfl) (by kernel_rfl) (by kernel_rfl) (fun _ _ _ h => h) (Or.inl ⟨by rfl, ?_⟩) hHeld ?_
  rotate_left
  · (intro w' hSw; (try dsimp only at hSw); go_simp <;> with_reducible rfl)
  try simp only [Act.put, List.getElem_toArray, List.getElem_cons_succ, List.getElem_cons_zero, List.setIfInBounds_toArray, List.set_cons_zero, List.set_cons_succ]
  refine wpAnyH_ready (rs := [2]) (by kernel_rfl) (by simp) (AllReadyH.cons (o := _) rfl (fun K hK => ?_) AllReadyH.nil)
  try simp only [Act.put, List.getElem_toArray, List.getElem_cons_succ, List.getElem_cons_zero, List.setIfInBounds_toArray, List.set_cons_zero, List.set_cons_succ]
  go_simp
  go_at_call 32
  refine (CTO.out _ (b1.trans (b0.mono b1.size))).mono ?_
  rintro e W ⟨v9, col9, rfl, o9, d⟩
  have p9 := o9.crd
  replace b0 := b0.trans (d.mono b0.size)
  clear d
  refine hK.out _ _ (HH.out _ b0) (fun hHeld => ?_)
  clear hK K
  try simp only [Act.put, List.getElem_toArray, List.getElem_cons_succ, List.getElem_cons_zero, List.setIfInBounds_toArray, List.set_cons_zero, List.set_cons_succ]
  refine wpAnyH_ready (rs := [3]) (by kernel_rfl) (by simp) (AllReadyH.cons (o := _) rfl (fun K hK => ?_) AllReadyH.nil)
  try simp only [Act.put, List.getElem_toArray, List.getElem_cons_succ, List.getElem_cons_zero, List.setIfInBounds_toArray, List.set_cons_zero, List.set_cons_succ]
  go_simp
  go_at_call 34
  refine (eqCoordinator_is _ _ q _ (HX.out _ (bX.trans (b0.mono bX.size))) p9 HFT.out).mono ?_
  rintro e W ⟨rfl, d⟩
  replace b0 := b0.trans (d.mono b0.size)
  clear d
  refine hK.out _ _ (HH.out _ b0) (fun hHeld => ?_)
  clear hK K
  try simp only [Act.put, List.getElem_toArray, List.getElem_cons_succ, List.getElem_cons_zero, List.setIfInBounds_toArray, List.set_cons_zero, List.set_cons_succ]
  refine wpAnyH_take (i := 4) (oi := _) (v := ?_) rfl (by kernel_rfl) (by kernel_rfl) (by kernel_rfl) (fun _ _ _ h => h) (Or.inl ⟨by rfl, ?_⟩) hHeld ?_
  rotate_left
  · (intro w' hSw; (try dsimp only at hSw); go_simp <;> with_reducible rfl)
  try simp only [Act.put, List.getElem_toArray, List.getElem_cons_succ, List.getElem_cons_zero, List.setIfInBounds_toArray, List.set_cons_zero, List.set_cons_succ]
  refine wpAnyH_done (by kernel_rfl) ?_ _
  clear hHeld HH o9 p9
  replace b1 := b1.trans ((b0).mono b1.size)
  replace x0 := x0.later b0
  try replace bS := bS.trans ((b0).mono bS.size)
  try replace bX := bX.trans ((b0).mono bX.size)
  try replace bG := bG.trans ((b0).mono bG.size)
  try replace b5 := b5.trans ((b0).mono b5.size)
  try replace kG := kG.trans (Keeps.of_below b0 _)
  try replace kQ := kQ.trans (Keeps.of_below b0 _)
  try replace bQ := bQ.trans ((b0).mono bQ.size)
  try replace xb := xb.later b0
  try replace xw := xw.later b0
  try replace xg := xg.later b0
  try clear ya0 ya1
  try clear yb0 yb1
  try clear yw0 yw1
  try clear yg0 yg1
  obtain ⟨ya0, ya1, -⟩ := id x0.reads
  try obtain ⟨yb0, yb1, -⟩ := id xb.reads
  try obtain ⟨yw0, yw1, -⟩ := id xw.reads
  try obtain ⟨yg0, yg1, -⟩ := id xg.reads
  clear b0
  replace og := og.below bG
  clear bG
  have hzc : 1 + zC q ≤ 4000000 := by have := zC_le q; have := HAL.out; omega
  have CM := hid (markCoordinator_D col4 wS.heap.size 1 _ q w4 W o4 (Keeps.of_below bX _) HFT.out (Nat.le_refl _) hzc)
  go_wp2_with fail
  refine CM.out.mono ?_
  rintro e W2 ⟨rfl, -, hO⟩
  have dB := hO.below bS.size
  replace og := og.keep (Keeps.of_only hO h45)
  replace kG := kG.trans (Keeps.of_only hO h45)
  replace b1 := b1.trans (dB.mono (by omega))
  replace bS := bS.trans dB
  replace x0 := x0.only hO (by omega)
  replace xw := xw.only hO (by omega)
  replace xg := xg.only hO (by have := HGG.out; omega)
  have hk0 : ¬ (((1 + zC q : Nat) : Int) < 0) := by omega
  clear CM xb bX dB hO HX o4 hzc
  try clear yb0 yb1
  try clear ya0 ya1
  try clear yb0 yb1
  try clear yw0 yw1
  try clear yg0 yg1
  obtain ⟨ya0, ya1, -⟩ := id x0.reads
  try obtain ⟨yb0, yb1, -⟩ := id xb.reads
  try obtain ⟨yw0, yw1, -⟩ := id xw.reads
  try obtain ⟨yg0, yg1, -⟩ := id xg.reads
  go_wp2_with fail
  refine (eqCoordinator_is _ _ xs W2 og.crd (HS.out _ bS) HFX.out).mono ?_
  rintro e W3 ⟨rfl, d⟩
  have h6W : w6.heap.size ≤ W3.heap.size := by have := xg.lt; have := HGG.out; have := d.size; omega
  replace b1 := b1.trans ((d).mono b1.size)
  replace x0 := x0.later d
  try replace bS := bS.trans ((d).mono bS.size)
  try replace bX := bX.trans ((d).mono bX.size)
  try replace bG := bG.trans ((d).mono bG.size)
  try replace b5 := b5.trans ((d).mono b5.size)
  try replace kG := kG.trans (Keeps.of_below d _)
  try replace kQ := kQ.trans (Keeps.of_below d _)
  try replace bQ := bQ.trans ((d).mono bQ.size)
  try replace xb := xb.later d
  try replace xw := xw.later d
  try replace xg := xg.later d
  try clear ya0 ya1
  try clear yb0 yb1
  try clear yw0 yw1
  try clear yg0 yg1
  obtain ⟨ya0, ya1, -⟩ := id x0.reads
  try obtain ⟨yb0, yb1, -⟩ := id xb.reads
  try obtain ⟨yw0, yw1, -⟩ := id xw.reads
  try obtain ⟨yg0, yg1, -⟩ := id xg.reads
  clear d hk0 og
  have CMG := hid (markCoordinator_D col6 w5.heap.size 1 _ xs w6 W3 o6 kG HFX.out (Nat.le_refl _) HZX.out)
  go_wp2_with fail
  refine CMG.out.mono ?_
  rintro e W4 ⟨rfl, ⟨colm, om⟩, hO⟩
  have dB := hO.below (show w5.heap.size ≤ W3.heap.size by omega)
  replace b1 := b1.trans (dB.mono (by omega))
  replace bS := bS.trans (dB.mono hS5)
  replace x0 := x0.only hO (by omega)
  replace xw := xw.only hO (by omega)
  replace xg := xg.only hO (by have := HGG.out; omega)
  have hq0 : ¬ (((1 + zC xs : Nat) : Int) < 0) := by omega
  clear CMG kG dB hO o6
  try clear ya0 ya1
  try clear yb0 yb1
  try clear yw0 yw1
  try clear yg0 yg1
  obtain ⟨ya0, ya1, -⟩ := id x0.reads
  try obtain ⟨yb0, yb1, -⟩ := id xb.reads
  try obtain ⟨yw0, yw1, -⟩ := id xw.reads
  try obtain ⟨yg0, yg1, -⟩ := id xg.reads
  have CHC := hid fun (y : World) (ho : OwnCr colm y w5.heap.size (.agg #[.slice A6 xs.ts.length c6, .slice B6 xs.os.length k6]) (mkC 1 xs)) => heldCoordinator_is 1 _ xs y ho.crd HFX.out (Nat.le_refl _) HZX.out
  go_wp2_with fail
  refine (CHC.out W4 om).mono ?_
  rintro e W5 ⟨rfl, d⟩
  replace b1 := b1.trans ((d).mono b1.size)
  replace x0 := x0.later d
  try replace bS := bS.trans ((d).mono bS.size)
  try replace bX := bX.trans ((d).mono bX.size)
  try replace bG := bG.trans ((d).mono bG.size)
  try replace b5 := b5.trans ((d).mono b5.size)
  try replace kG := kG.trans (Keeps.of_below d _)
  try replace kQ := kQ.trans (Keeps.of_below d _)
  try replace bQ := bQ.trans ((d).mono bQ.size)
  try replace xb := xb.later d
  try replace xw := xw.later d
  try replace xg := xg.later d
  try clear ya0 ya1
  try clear yb0 yb1
  try clear yw0 yw1
  try clear yg0 yg1
  obtain ⟨ya0, ya1, -⟩ := id x0.reads
  try obtain ⟨yb0, yb1, -⟩ := id xb.reads
  try obtain ⟨yw0, yw1, -⟩ := id xw.reads
  try obtain ⟨yg0, yg1, -⟩ := id xg.reads
  replace om := om.below d
  clear d
  go_wp2_with fail
  refine (CTO.out _ b1).mono ?_
  rintro e W6 ⟨v7, col7, rfl, o7, d⟩
  replace b1 := b1.trans ((d).mono b1.size)
  replace x0 := x0.later d
  try replace bS := bS.trans ((d).mono bS.size)
  try replace bX := bX.trans ((d).mono bX.size)
  try replace bG := bG.trans ((d).mono bG.size)
  try replace b5 := b5.trans ((d).mono b5.size)
  try replace kG := kG.trans (Keeps.of_below d _)
  try replace kQ := kQ.trans (Keeps.of_below d _)
  try replace bQ := bQ.trans ((d).mono bQ.size)
  try replace xb := xb.later d
  try replace xw := xw.later d
  try replace xg := xg.later d
  try clear ya0 ya1
  try clear yb0 yb1
  try clear yw0 yw1
  try clear yg0 yg1
  obtain ⟨ya0, ya1, -⟩ := id x0.reads
  try obtain ⟨yb0, yb1, -⟩ := id xb.reads
  try obtain ⟨yw0, yw1, -⟩ := id xw.reads
  try obtain ⟨yg0, yg1, -⟩ := id xg.reads
  replace om := om.below d
  clear d
  obtain ⟨A7, c7, B7, k7, rfl, -⟩ := o7.form
  unfold crV at o7 ⊢
  go_wp2_with fail
  refine (CI.out W6 _ o7.crd HFT.out).mono ?_
  rintro e W7 ⟨v8, col8, rfl, o8, d⟩
  replace b1 := b1.trans ((d).mono b1.size)
  replace x0 := x0.later d
  try replace bS := bS.trans ((d).mono bS.size)
  try replace bX := bX.trans ((d).mono bX.size)
  try replace bG := bG.trans ((d).mono bG.size)
  try replace b5 := b5.trans ((d).mono b5.size)
  try replace kG := kG.trans (Keeps.of_below d _)
  try replace kQ := kQ.trans (Keeps.of_below d _)
  try replace bQ := bQ.trans ((d).mono bQ.size)
  try replace xb := xb.later d
  try replace xw := xw.later d
  try replace xg := xg.later d
  try clear ya0 ya1
  try clear yb0 yb1
  try clear yw0 yw1
  try clear yg0 yg1
  obtain ⟨ya0, ya1, -⟩ := id x0.reads
  try obtain ⟨yb0, yb1, -⟩ := id xb.reads
  try obtain ⟨yw0, yw1, -⟩ := id xw.reads
  try obtain ⟨yg0, yg1, -⟩ := id xg.reads
  replace om := om.below d
  clear d o7
  obtain ⟨A8, c8, B8, k8, rfl, -⟩ := o8.form
  unfold crV at o8 ⊢
  go_upto_region 25 with fail
  have xh := Blk2s.new_ W7 26 (.slice A8 xs.ts.length c8) (.slice B8 xs.os.length k8)
  have al := (Below.refl (W7).heap.size W7).alloc (Nat.le_refl _) (.cells #[.slice A8 xs.ts.length c8, .slice B8 xs.os.length k8] 26)
  obtain ⟨W8, hw5⟩ : ∃ x, (W7).alloc (.cells #[.slice A8 xs.ts.length c8, .slice B8 xs.os.length k8] 26) = x := ⟨_, rfl⟩
  obtain ⟨gh, hgb⟩ : ∃ x, (W7).heap.size = x := ⟨_, rfl⟩
  rw [hw5] at xh al ⊢
  rw [hgb] at xh ⊢
  have oh := o8.below al
  clear hw5 hgb
  replace b1 := b1.trans ((al).mono b1.size)
  replace x0 := x0.later al
  try replace bS := bS.trans ((al).mono bS.size)
  try replace bX := bX.trans ((al).mono bX.size)
  try replace bG := bG.trans ((al).mono bG.size)
  try replace b5 := b5.trans ((al).mono b5.size)
  try replace kG := kG.trans (Keeps.of_below al _)
  try replace kQ := kQ.trans (Keeps.of_below al _)
  try replace bQ := bQ.trans ((al).mono bQ.size)
  try replace xb := xb.later al
  try replace xw := xw.later al
  try replace xg := xg.later al
  try clear ya0 ya1
  try clear yb0 yb1
  try clear yw0 yw1
  try clear yg0 yg1
  obtain ⟨ya0, ya1, -⟩ := id x0.reads
  try obtain ⟨yb0, yb1, -⟩ := id xb.reads
  try obtain ⟨yw0, yw1, -⟩ := id xw.reads
  try obtain ⟨yg0, yg1, -⟩ := id xg.reads
  replace om := om.below al
  clear al o8
  obtain ⟨yh0, yh1, -⟩ := id xh.reads
  go_wp2_with fail
  refine (eqCoordinator_is _ _ xs W8 oh.crd (HS.out _ bS) HFX.out).mono ?_
  rintro e W9 ⟨rfl, d⟩
  clear yh0 yh1 xh
  replace b1 := b1.trans ((d).mono b1.size)
  replace x0 := x0.later d
  try replace bS := bS.trans ((d).mono bS.size)
  try replace bX := bX.trans ((d).mono bX.size)
  try replace bG := bG.trans ((d).mono bG.size)
  try replace b5 := b5.trans ((d).mono b5.size)
  try replace kG := kG.trans (Keeps.of_below d _)
  try replace kQ := kQ.trans (Keeps.of_below d _)
  try replace bQ := bQ.trans ((d).mono bQ.size)
  try replace xb := xb.later d
  try replace xw := xw.later d
  try replace xg := xg.later d
  try clear ya0 ya1
  try clear yb0 yb1
  try clear yw0 yw1
  try clear yg0 yg1
  obtain ⟨ya0, ya1, -⟩ := id x0.reads
  try obtain ⟨yb0, yb1, -⟩ := id xb.reads
  try obtain ⟨yw0, yw1, -⟩ := id xw.reads
  try obtain ⟨yg0, yg1, -⟩ := id xg.reads
  replace om := om.below d
  clear d oh
  go_wp2_with fail
  refine (CHC.out W9 om).mono ?_
  rintro e W10 ⟨rfl, d⟩
  replace b1 := b1.trans ((d).mono b1.size)
  replace x0 := x0.later d
  try replace bS := bS.trans ((d).mono bS.size)
  try replace bX := bX.trans ((d).mono bX.size)
  try replace bG := bG.trans ((d).mono bG.size)
  try replace b5 := b5.trans ((d).mono b5.size)
  try replace kG := kG.trans (Keeps.of_below d _)
  try replace kQ := kQ.trans (Keeps.of_below d _)
  try replace bQ := bQ.trans ((d).mono bQ.size)
  try replace xb := xb.later d
  try replace xw := xw.later d
  try replace xg := xg.later d
  try clear ya0 ya1
  try clear yb0 yb1
  try clear yw0 yw1
  try clear yg0 yg1
  obtain ⟨ya0, ya1, -⟩ := id x0.reads
  try obtain ⟨yb0, yb1, -⟩ := id xb.reads
  try obtain ⟨yw0, yw1, -⟩ := id xw.reads
  try obtain ⟨yg0, yg1, -⟩ := id xg.reads
  clear d om
  go_wp2
  go_ret
  exact .mk_ b1
set_option maxRecDepth 100000 in
set_option maxHeartbeats 8000000 in
theorem exactCoordinatorVote_any (v : Value) (q : Crd) (t s : Int) (y : Bool) (w : World) (hv : Crdd w w.heap.size v q) (hw : WideC q) (_wt : (Lit.int .i64 t).wf = true) (_ws : (Lit.int .i64 s).wf = true) :
    Calls Try.prog 10 #[v, .int .i64 t, .int .i64 s, .bool y] w (Ret (.bool true) w) := by
  obtain ⟨xs, b, hx⟩ := counted_ex q t s y
  have CS := hid fun (x : World) (v' : Value) (hc : Crdd x x.heap.size v' q) (hf : FitC q) => specCoordinatorVote_is xs b v' q t s y x hc hf hx
  have CI := hid fun (x : World) (v' : Value) (hc : Crdd x x.heap.size v' q) (hf : FitC q) => implCoordinatorVote_is xs b v' q t s y x hc hf hx
  have HFX := hid (cv_few hx.valid).1.fit
  have HZX := hid (zC_small hx.valid)
  clear hx
  obtain ⟨A0, c0, B0, k0, rfl, -⟩ := id hv
  unfold crV at *
  have HA : Hid (∀ y, Below w.heap.size w y → Crdd y y.heap.size (.agg #[.slice A0 q.ts.length c0, .slice B0 q.os.length k0]) q) := fun y hy => hv.on hy hy.size
  have HW := hid hw
  have x0 := Blk2s.new_ w 56 (.slice A0 q.ts.length c0) (.slice B0 q.os.length k0)
  have b1 := (Below.refl w.heap.size w).alloc (Nat.le_refl _) (.cells #[.slice A0 q.ts.length c0, .slice B0 q.os.length k0] 56)
  go_enter Try.func10, Try.ntmps10
  go_upto_region 1 with fail
  obtain ⟨w0, hw0⟩ : ∃ x, w.alloc (.cells #[.slice A0 q.ts.length c0, .slice B0 q.os.length k0] 56) = x := ⟨_, rfl⟩
  rw [hw0] at x0 b1 ⊢
  clear hw0 hv hw
  obtain ⟨ya0, ya1, -⟩ := id x0.reads
  go_wp2_with fail
  refine (szCoordinator_any _ q 1048576 w0 (HA.out _ b1) HW.out (by omega) (by omega)).mono ?_
  rintro e w1 ⟨r, rfl, hr, d⟩
  replace b1 := b1.trans ((d).mono b1.size)
  replace x0 := x0.later d
  try replace bS := bS.trans ((d).mono bS.size)
  try replace bX := bX.trans ((d).mono bX.size)
  try replace bG := bG.trans ((d).mono bG.size)
  try replace b5 := b5.trans ((d).mono b5.size)
  try replace kG := kG.trans (Keeps.of_below d _)
  try replace kQ := kQ.trans (Keeps.of_below d _)
  try replace bQ := bQ.trans ((d).mono bQ.size)
  try replace xb := xb.later d
  try replace xw := xw.later d
  try replace xg := xg.later d
  try clear ya0 ya1
  try clear yb0 yb1
  try clear yw0 yw1
  try clear yg0 yg1
  obtain ⟨ya0, ya1, -⟩ := id x0.reads
  try obtain ⟨yb0, yb1, -⟩ := id xb.reads
  try obtain ⟨yw0, yw1, -⟩ := id xw.reads
  try obtain ⟨yg0, yg1, -⟩ := id xg.reads
  clear d
  rcases hr with rfl | ⟨hr0, hr⟩
  · go_wp2
    go_ret
    exact .mk_ b1
  have hneg : ¬ r < 0 := by omega
  have hal : allC q ≤ 1048576 := by omega
  have HAL := hid hal
  have HFT := hid (allC_fit hal (Nat.le_refl _))
  have CTO := hid fun (x : World) (hx : Below w.heap.size w x) => toCoordinator_any _ q x (HA.out x hx) HFT.out
  clear hr hal
  go_wp2_with fail
  refine (CTO.out _ b1).mono ?_
  rintro e w2 ⟨v2, col2, rfl, o2, d⟩
  replace b1 := b1.trans ((d).mono b1.size)
  replace x0 := x0.later d
  try replace bS := bS.trans ((d).mono bS.size)
  try replace bX := bX.trans ((d).mono bX.size)
  try replace bG := bG.trans ((d).mono bG.size)
  try replace b5 := b5.trans ((d).mono b5.size)
  try replace kG := kG.trans (Keeps.of_below d _)
  try replace kQ := kQ.trans (Keeps.of_below d _)
  try replace bQ := bQ.trans ((d).mono bQ.size)
  try replace xb := xb.later d
  try replace xw := xw.later d
  try replace xg := xg.later d
  try clear ya0 ya1
  try clear yb0 yb1
  try clear yw0 yw1
  try clear yg0 yg1
  obtain ⟨ya0, ya1, -⟩ := id x0.reads
  try obtain ⟨yb0, yb1, -⟩ := id xb.reads
  try obtain ⟨yw0, yw1, -⟩ := id xw.reads
  try obtain ⟨yg0, yg1, -⟩ := id xg.reads
  clear d
  obtain ⟨A2, c2, B2, k2, rfl, -⟩ := o2.form
  unfold crV at o2 ⊢
  go_wp2_with fail
  refine (CS.out w2 _ o2.crd HFT.out).mono ?_
  rintro e w3 ⟨v3, col3, rfl, o3, d⟩
  replace b1 := b1.trans ((d).mono b1.size)
  replace x0 := x0.later d
  try replace bS := bS.trans ((d).mono bS.size)
  try replace bX := bX.trans ((d).mono bX.size)
  try replace bG := bG.trans ((d).mono bG.size)
  try replace b5 := b5.trans ((d).mono b5.size)
  try replace kG := kG.trans (Keeps.of_below d _)
  try replace kQ := kQ.trans (Keeps.of_below d _)
  try replace bQ := bQ.trans ((d).mono bQ.size)
  try replace xb := xb.later d
  try replace xw := xw.later d
  try replace xg := xg.later d
  try clear ya0 ya1
  try clear yb0 yb1
  try clear yw0 yw1
  try clear yg0 yg1
  obtain ⟨ya0, ya1, -⟩ := id x0.reads
  try obtain ⟨yb0, yb1, -⟩ := id xb.reads
  try obtain ⟨yw0, yw1, -⟩ := id xw.reads
  try obtain ⟨yg0, yg1, -⟩ := id xg.reads
  clear d o2
  obtain ⟨A3, c3, B3, k3, rfl, -⟩ := o3.form
  unfold crV at o3 ⊢
  go_upto_region 6 with fail
  have xw := Blk2s.new_ w3 26 (.slice A3 xs.ts.length c3) (.slice B3 xs.os.length k3)
  have al := (Below.refl (w3).heap.size w3).alloc (Nat.le_refl _) (.cells #[.slice A3 xs.ts.length c3, .slice B3 xs.os.length k3] 26)
  obtain ⟨wS, hw5⟩ : ∃ x, (w3).alloc (.cells #[.slice A3 xs.ts.length c3, .slice B3 xs.os.length k3] 26) = x := ⟨_, rfl⟩
  obtain ⟨gw, hgb⟩ : ∃ x, (w3).heap.size = x := ⟨_, rfl⟩
  rw [hw5] at xw al ⊢
  rw [hgb] at xw ⊢
  replace o3 := o3.below al
  have hgw : w.heap.size < gw := by rw [← hgb]; exact x0.lt
  clear hw5 hgb
  replace b1 := b1.trans (al.mono b1.size)
  replace x0 := x0.later al
  clear al
  try clear ya0 ya1
  try clear yb0 yb1
  try clear yw0 yw1
  try clear yg0 yg1
  obtain ⟨ya0, ya1, -⟩ := id x0.reads
  try obtain ⟨yb0, yb1, -⟩ := id xb.reads
  try obtain ⟨yw0, yw1, -⟩ := id xw.reads
  try obtain ⟨yg0, yg1, -⟩ := id xg.reads
  have bS := Below.refl wS.heap.size wS
  have HS : Hid (∀ y, Below wS.heap.size wS y → Crdd y y.heap.size (.agg #[.slice A3 xs.ts.length c3, .slice B3 xs.os.length k3]) xs) := fun y hy => (o3.below hy).crd
  have hgS : gw < wS.heap.size := xw.lt
  clear o3
  go_wp2_with fail
  refine (CTO.out _ b1).mono ?_
  rintro e w4 ⟨v4, col4, rfl, o4, d⟩
  replace b1 := b1.trans ((d).mono b1.size)
  replace x0 := x0.later d
  try replace bS := bS.trans ((d).mono bS.size)
  try replace bX := bX.trans ((d).mono bX.size)
  try replace bG := bG.trans ((d).mono bG.size)
  try replace b5 := b5.trans ((d).mono b5.size)
  try replace kG := kG.trans (Keeps.of_below d _)
  try replace kQ := kQ.trans (Keeps.of_below d _)
  try replace bQ := bQ.trans ((d).mono bQ.size)
  try replace xb := xb.later d
  try replace xw := xw.later d
  try replace xg := xg.later d
  try clear ya0 ya1
  try clear yb0 yb1
  try clear yw0 yw1
  try clear yg0 yg1
  obtain ⟨ya0, ya1, -⟩ := id x0.reads
  try obtain ⟨yb0, yb1, -⟩ := id xb.reads
  try obtain ⟨yw0, yw1, -⟩ := id xw.reads
  try obtain ⟨yg0, yg1, -⟩ := id xg.reads
  clear d
  obtain ⟨A4, c4, B4, k4, rfl, -⟩ := o4.form
  unfold crV at o4 ⊢
  have bX := Below.refl w4.heap.size w4
  go_upto_region 7 with fail
  have xb := Blk2s.new_ w4 26 (.slice A4 q.ts.length c4) (.slice B4 q.os.length k4)
  have al := (Below.refl w4.heap.size w4).alloc (Nat.le_refl _) (.cells #[.slice A4 q.ts.length c4, .slice B4 q.os.length k4] 26)
  obtain ⟨w5, hw5⟩ : ∃ x, w4.alloc (.cells #[.slice A4 q.ts.length c4, .slice B4 q.os.length k4] 26) = x := ⟨_, rfl⟩
  obtain ⟨gb, hgb⟩ : ∃ x, w4.heap.size = x := ⟨_, rfl⟩
  rw [hw5] at xb al ⊢
  rw [hgb] at xb ⊢
  have hgb2 : w4.heap.size ≤ gb := by rw [hgb]; exact Nat.le_refl _
  clear hw5 hgb
  replace b1 := b1.trans (al.mono b1.size)
  replace x0 := x0.later al
  try replace bS := bS.trans (al.mono bS.size)
  try replace xw := xw.later al
  replace bX := bX.trans (al.mono bX.size)
  clear al
  try clear ya0 ya1
  try clear yb0 yb1
  try clear yw0 yw1
  try clear yg0 yg1
  obtain ⟨ya0, ya1, -⟩ := id x0.reads
  try obtain ⟨yb0, yb1, -⟩ := id xb.reads
  try obtain ⟨yw0, yw1, -⟩ := id xw.reads
  try obtain ⟨yg0, yg1, -⟩ := id xg.reads
  have HX : Hid (∀ y, Below w4.heap.size w4 y → Crdd y y.heap.size (.agg #[.slice A4 q.ts.length c4, .slice B4 q.os.length k4]) q) := fun y hy => (o4.below hy).crd
  go_wp2_with fail
  have h45 : w4.heap.size ≤ w5.heap.size := bX.size
  have hS5 : wS.heap.size ≤ w5.heap.size := bS.size
  refine (CI.out w5 _ (HX.out _ bX) HFT.out).mono ?_
  rintro e w6 ⟨v6, col6, rfl, o6, d⟩
  have h56 := d.size
  replace b1 := b1.trans ((d).mono b1.size)
  replace x0 := x0.later d
  try replace bS := bS.trans ((d).mono bS.size)
  try replace bX := bX.trans ((d).mono bX.size)
  try replace bG := bG.trans ((d).mono bG.size)
  try replace b5 := b5.trans ((d).mono b5.size)
  try replace kG := kG.trans (Keeps.of_below d _)
  try replace kQ := kQ.trans (Keeps.of_below d _)
  try replace bQ := bQ.trans ((d).mono bQ.size)
  try replace xb := xb.later d
  try replace xw := xw.later d
  try replace xg := xg.later d
  try clear ya0 ya1
  try clear yb0 yb1
  try clear yw0 yw1
  try clear yg0 yg1
  obtain ⟨ya0, ya1, -⟩ := id x0.reads
  try obtain ⟨yb0, yb1, -⟩ := id xb.reads
  try obtain ⟨yw0, yw1, -⟩ := id xw.reads
  try obtain ⟨yg0, yg1, -⟩ := id xg.reads
  clear d
  obtain ⟨A6, c6, B6, k6, rfl, -⟩ := o6.form
  unfold crV at o6 ⊢
  go_upto_region 8 with fail
  have xg := Blk2s.new_ w6 26 (.slice A6 xs.ts.length c6) (.slice B6 xs.os.length k6)
  have al := (Below.refl (w6).heap.size w6).alloc (Nat.le_refl _) (.cells #[.slice A6 xs.ts.length c6, .slice B6 xs.os.length k6] 26)
  obtain ⟨w7, hw5⟩ : ∃ x, (w6).alloc (.cells #[.slice A6 xs.ts.length c6, .slice B6 xs.os.length k6] 26) = x := ⟨_, rfl⟩
  obtain ⟨gg, hgb⟩ : ∃ x, (w6).heap.size = x := ⟨_, rfl⟩
  rw [hw5] at xg al ⊢
  rw [hgb] at xg ⊢
  have HGG : Hid (gg = w6.heap.size) := hgb.symm
  have og := o6.below al
  clear hw5 hgb
  replace b1 := b1.trans (al.mono b1.size)
  replace bS := bS.trans (al.mono bS.size)
  replace bX := bX.trans (al.mono bX.size)
  replace x0 := x0.later al
  replace xb := xb.later al
  replace xw := xw.later al
  have kG := Keeps.of_below al w5.heap.size
  clear al
  try clear ya0 ya1
  try clear yb0 yb1
  try clear yw0 yw1
  try clear yg0 yg1
  obtain ⟨ya0, ya1, -⟩ := id x0.reads
  try obtain ⟨yb0, yb1, -⟩ := id xb.reads
  try obtain ⟨yw0, yw1, -⟩ := id xw.reads
  try obtain ⟨yg0, yg1, -⟩ := id xg.reads
  go_wp2_with fail
  refine (eqCoordinator_is _ _ xs w7 og.crd (HS.out _ bS) HFX.out).mono ?_
  rintro e w8 ⟨rfl, d⟩
  replace b1 := b1.trans ((d).mono b1.size)
  replace x0 := x0.later d
  try replace bS := bS.trans ((d).mono bS.size)
  try replace bX := bX.trans ((d).mono bX.size)
  try replace bG := bG.trans ((d).mono bG.size)
  try replace b5 := b5.trans ((d).mono b5.size)
  try replace kG := kG.trans (Keeps.of_below d _)
  try replace kQ := kQ.trans (Keeps.of_below d _)
  try replace bQ := bQ.trans ((d).mono bQ.size)
  try replace xb := xb.later d
  try replace xw := xw.later d
  try replace xg := xg.later d
  try clear ya0 ya1
  try clear yb0 yb1
  try clear yw0 yw1
  try clear yg0 yg1
  obtain ⟨ya0, ya1, -⟩ := id x0.reads
  try obtain ⟨yb0, yb1, -⟩ := id xb.reads
  try obtain ⟨yw0, yw1, -⟩ := id xw.reads
  try obtain ⟨yg0, yg1, -⟩ := id xg.reads
  replace og := og.below d
  clear d
  have bG := Below.refl w8.heap.size w8
  go_wp2_with fail
  have b0 := (Below.refl (w8).heap.size w8).drew
  have HH : Hid (∀ y, Below (w8).heap.size w8 y → y.cell? ⟨w.heap.size, 0, none⟩ = some (.slice A0 q.ts.length c0) ∧ y.cell? ⟨w.heap.size, 1, none⟩ = some (.slice B0 q.os.length k0) ∧ y.cell? ⟨gb, 0, none⟩ = some (.slice A4 q.ts.length c4) ∧ y.cell? ⟨gb, 1, none⟩ = some (.slice B4 q.os.length k4)) := fun y hy => ⟨(x0.later hy).reads.1, (x0.later hy).reads.2.1, (xb.later hy).reads.1, (xb.later hy).reads.2.1⟩
  refine wp_region_held_drew (S := fun y => y.cell? ⟨w.heap.size, 0, none⟩ = some (.slice A0 q.ts.length c0) ∧ y.cell? ⟨w.heap.size, 1, none⟩ = some (.slice B0 q.os.length k0) ∧ y.cell? ⟨gb, 0, none⟩ = some (.slice A4 q.ts.length c4) ∧ y.cell? ⟨gb, 1, none⟩ = some (.slice B4 q.os.length k4)) (by kernel_rfl) (HH.out _ b0) (fun hHeld => ?_)
  obtain ⟨W, hW⟩ : ∃ x, (w8).drew = x := ⟨_, rfl⟩
  rw [hW] at b0 hHeld ⊢
  clear hW
  try simp only [Act.put, List.getElem_toArray, List.getElem_cons_succ, List.getElem_cons_zero, List.setIfInBounds_toArray, List.set_cons_zero, List.set_cons_succ]
  refine wpAnyH_take (i := 0) (oi := _) (v := ?_) rfl (by kernel_rfl) (by kernel_rfl) (by kernel_rfl) (fun _ _ _ h => h) (Or.inl ⟨by rfl, ?_⟩) hHeld ?_
  rotate_left
  · (intro w' hSw; (try dsimp only at hSw); go_simp <;> with_reducible rfl)
  try simp only [Act.put, List.getElem_toArray, List.getElem_cons_succ, List.getElem_cons_zero, List.setIfInBounds_toArray, List.set_cons_zero, List.set_cons_succ]
  refine wpAnyH_take (i := 1) (oi := _) (v := ?_) rfl (by kernel_rfl) (by kernel_rfl) (by kernel_rfl) (fun _ _ _ h => h) (Or.inl ⟨by rfl, ?_⟩) hHeld ?_
  rotate_left
  · (intro w' hSw; (try dsimp only at hSw); go_simp <;> with_reducible rfl)
  try simp only [Act.put, List.getElem_toArray, List.getElem_cons_succ, List.getElem_cons_zero, List.setIfInBounds_toArray, List.set_cons_zero, List.set_cons_succ]
  refine wpAnyH_ready (rs := [2]) (by kernel_rfl) (by simp) (AllReadyH.cons (o := _) rfl (fun K hK => ?_) AllReadyH.nil)
  try simp only [Act.put, List.getElem_toArray, List.getElem_cons_succ, List.getElem_cons_zero, List.setIfInBounds_toArray, List.set_cons_zero, List.set_cons_succ]
  go_simp
  go_at_call 32
  refine (CTO.out _ (b1.trans (b0.mono b1.size))).mono ?_
  rintro e W ⟨v9, col9, rfl, o9, d⟩
  have p9 := o9.crd
  replace b0 := b0.trans (d.mono b0.size)
  clear d
  refine hK.out _ _ (HH.out _ b0) (fun hHeld => ?_)
  clear hK K
  try simp only [Act.put, List.getElem_toArray, List.getElem_cons_succ, List.getElem_cons_zero, List.setIfInBounds_toArray, List.set_cons_zero, List.set_cons_succ]
  refine wpAnyH_ready (rs := [3]) (by kernel_rfl) (by simp) (AllReadyH.cons (o := _) rfl (fun K hK => ?_) AllReadyH.nil)
  try simp only [Act.put, List.getElem_toArray, List.getElem_cons_succ, List.getElem_cons_zero, List.setIfInBounds_toArray, List.set_cons_zero, List.set_cons_succ]
  go_simp
  go_at_call 34
  refine (eqCoordinator_is _ _ q _ (HX.out _ (bX.trans (b0.mono bX.size))) p9 HFT.out).mono ?_
  rintro e W ⟨rfl, d⟩
  replace b0 := b0.trans (d.mono b0.size)
  clear d
  refine hK.out _ _ (HH.out _ b0) (fun hHeld => ?_)
  clear hK K
  try simp only [Act.put, List.getElem_toArray, List.getElem_cons_succ, List.getElem_cons_zero, List.setIfInBounds_toArray, List.set_cons_zero, List.set_cons_succ]
  refine wpAnyH_take (i := 4) (oi := _) (v := ?_) rfl (by kernel_rfl) (by kernel_rfl) (by kernel_rfl) (fun _ _ _ h => h) (Or.inl ⟨by rfl, ?_⟩) hHeld ?_
  rotate_left
  · (intro w' hSw; (try dsimp only at hSw); go_simp <;> with_reducible rfl)
  try simp only [Act.put, List.getElem_toArray, List.getElem_cons_succ, List.getElem_cons_zero, List.setIfInBounds_toArray, List.set_cons_zero, List.set_cons_succ]
  refine wpAnyH_done (by kernel_rfl) ?_ _
  clear hHeld HH o9 p9
  replace b1 := b1.trans ((b0).mono b1.size)
  replace x0 := x0.later b0
  try replace bS := bS.trans ((b0).mono bS.size)
  try replace bX := bX.trans ((b0).mono bX.size)
  try replace bG := bG.trans ((b0).mono bG.size)
  try replace b5 := b5.trans ((b0).mono b5.size)
  try replace kG := kG.trans (Keeps.of_below b0 _)
  try replace kQ := kQ.trans (Keeps.of_below b0 _)
  try replace bQ := bQ.trans ((b0).mono bQ.size)
  try replace xb := xb.later b0
  try replace xw := xw.later b0
  try replace xg := xg.later b0
  try clear ya0 ya1
  try clear yb0 yb1
  try clear yw0 yw1
  try clear yg0 yg1
  obtain ⟨ya0, ya1, -⟩ := id x0.reads
  try obtain ⟨yb0, yb1, -⟩ := id xb.reads
  try obtain ⟨yw0, yw1, -⟩ := id xw.reads
  try obtain ⟨yg0, yg1, -⟩ := id xg.reads
  clear b0
  replace og := og.below bG
  clear bG
  have hzc : 1 + zC q ≤ 4000000 := by have := zC_le q; have := HAL.out; omega
  have CM := hid (markCoordinator_D col4 wS.heap.size 1 _ q w4 W o4 (Keeps.of_below bX _) HFT.out (Nat.le_refl _) hzc)
  go_wp2_with fail
  refine CM.out.mono ?_
  rintro e W2 ⟨rfl, -, hO⟩
  have dB := hO.below bS.size
  replace og := og.keep (Keeps.of_only hO h45)
  replace kG := kG.trans (Keeps.of_only hO h45)
  replace b1 := b1.trans (dB.mono (by omega))
  replace bS := bS.trans dB
  replace x0 := x0.only hO (by omega)
  replace xw := xw.only hO (by omega)
  replace xg := xg.only hO (by have := HGG.out; omega)
  have hk0 : ¬ (((1 + zC q : Nat) : Int) < 0) := by omega
  clear CM xb bX dB hO HX o4 hzc
  try clear yb0 yb1
  try clear ya0 ya1
  try clear yb0 yb1
  try clear yw0 yw1
  try clear yg0 yg1
  obtain ⟨ya0, ya1, -⟩ := id x0.reads
  try obtain ⟨yb0, yb1, -⟩ := id xb.reads
  try obtain ⟨yw0, yw1, -⟩ := id xw.reads
  try obtain ⟨yg0, yg1, -⟩ := id xg.reads
  go_wp2_with fail
  refine (eqCoordinator_is _ _ xs W2 og.crd (HS.out _ bS) HFX.out).mono ?_
  rintro e W3 ⟨rfl, d⟩
  have h6W : w6.heap.size ≤ W3.heap.size := by have := xg.lt; have := HGG.out; have := d.size; omega
  replace b1 := b1.trans ((d).mono b1.size)
  replace x0 := x0.later d
  try replace bS := bS.trans ((d).mono bS.size)
  try replace bX := bX.trans ((d).mono bX.size)
  try replace bG := bG.trans ((d).mono bG.size)
  try replace b5 := b5.trans ((d).mono b5.size)
  try replace kG := kG.trans (Keeps.of_below d _)
  try replace kQ := kQ.trans (Keeps.of_below d _)
  try replace bQ := bQ.trans ((d).mono bQ.size)
  try replace xb := xb.later d
  try replace xw := xw.later d
  try replace xg := xg.later d
  try clear ya0 ya1
  try clear yb0 yb1
  try clear yw0 yw1
  try clear yg0 yg1
  obtain ⟨ya0, ya1, -⟩ := id x0.reads
  try obtain ⟨yb0, yb1, -⟩ := id xb.reads
  try obtain ⟨yw0, yw1, -⟩ := id xw.reads
  try obtain ⟨yg0, yg1, -⟩ := id xg.reads
  clear d hk0 og
  have CMG := hid (markCoordinator_D col6 w5.heap.size 1 _ xs w6 W3 o6 kG HFX.out (Nat.le_refl _) HZX.out)
  go_wp2_with fail
  refine CMG.out.mono ?_
  rintro e W4 ⟨rfl, ⟨colm, om⟩, hO⟩
  have dB := hO.below (show w5.heap.size ≤ W3.heap.size by omega)
  replace b1 := b1.trans (dB.mono (by omega))
  replace bS := bS.trans (dB.mono hS5)
  replace x0 := x0.only hO (by omega)
  replace xw := xw.only hO (by omega)
  replace xg := xg.only hO (by have := HGG.out; omega)
  have hq0 : ¬ (((1 + zC xs : Nat) : Int) < 0) := by omega
  clear CMG kG dB hO o6
  try clear ya0 ya1
  try clear yb0 yb1
  try clear yw0 yw1
  try clear yg0 yg1
  obtain ⟨ya0, ya1, -⟩ := id x0.reads
  try obtain ⟨yb0, yb1, -⟩ := id xb.reads
  try obtain ⟨yw0, yw1, -⟩ := id xw.reads
  try obtain ⟨yg0, yg1, -⟩ := id xg.reads
  have CHC := hid fun (y : World) (ho : OwnCr colm y w5.heap.size (.agg #[.slice A6 xs.ts.length c6, .slice B6 xs.os.length k6]) (mkC 1 xs)) => heldCoordinator_is 1 _ xs y ho.crd HFX.out (Nat.le_refl _) HZX.out
  go_wp2_with fail
  refine (CHC.out W4 om).mono ?_
  rintro e W5 ⟨rfl, d⟩
  replace b1 := b1.trans ((d).mono b1.size)
  replace x0 := x0.later d
  try replace bS := bS.trans ((d).mono bS.size)
  try replace bX := bX.trans ((d).mono bX.size)
  try replace bG := bG.trans ((d).mono bG.size)
  try replace b5 := b5.trans ((d).mono b5.size)
  try replace kG := kG.trans (Keeps.of_below d _)
  try replace kQ := kQ.trans (Keeps.of_below d _)
  try replace bQ := bQ.trans ((d).mono bQ.size)
  try replace xb := xb.later d
  try replace xw := xw.later d
  try replace xg := xg.later d
  try clear ya0 ya1
  try clear yb0 yb1
  try clear yw0 yw1
  try clear yg0 yg1
  obtain ⟨ya0, ya1, -⟩ := id x0.reads
  try obtain ⟨yb0, yb1, -⟩ := id xb.reads
  try obtain ⟨yw0, yw1, -⟩ := id xw.reads
  try obtain ⟨yg0, yg1, -⟩ := id xg.reads
  replace om := om.below d
  clear d
  go_wp2_with fail
  refine (CTO.out _ b1).mono ?_
  rintro e W6 ⟨v7, col7, rfl, o7, d⟩
  replace b1 := b1.trans ((d).mono b1.size)
  replace x0 := x0.later d
  try replace bS := bS.trans ((d).mono bS.size)
  try replace bX := bX.trans ((d).mono bX.size)
  try replace bG := bG.trans ((d).mono bG.size)
  try replace b5 := b5.trans ((d).mono b5.size)
  try replace kG := kG.trans (Keeps.of_below d _)
  try replace kQ := kQ.trans (Keeps.of_below d _)
  try replace bQ := bQ.trans ((d).mono bQ.size)
  try replace xb := xb.later d
  try replace xw := xw.later d
  try replace xg := xg.later d
  try clear ya0 ya1
  try clear yb0 yb1
  try clear yw0 yw1
  try clear yg0 yg1
  obtain ⟨ya0, ya1, -⟩ := id x0.reads
  try obtain ⟨yb0, yb1, -⟩ := id xb.reads
  try obtain ⟨yw0, yw1, -⟩ := id xw.reads
  try obtain ⟨yg0, yg1, -⟩ := id xg.reads
  replace om := om.below d
  clear d
  obtain ⟨A7, c7, B7, k7, rfl, -⟩ := o7.form
  unfold crV at o7 ⊢
  go_wp2_with fail
  refine (CI.out W6 _ o7.crd HFT.out).mono ?_
  rintro e W7 ⟨v8, col8, rfl, o8, d⟩
  replace b1 := b1.trans ((d).mono b1.size)
  replace x0 := x0.later d
  try replace bS := bS.trans ((d).mono bS.size)
  try replace bX := bX.trans ((d).mono bX.size)
  try replace bG := bG.trans ((d).mono bG.size)
  try replace b5 := b5.trans ((d).mono b5.size)
  try replace kG := kG.trans (Keeps.of_below d _)
  try replace kQ := kQ.trans (Keeps.of_below d _)
  try replace bQ := bQ.trans ((d).mono bQ.size)
  try replace xb := xb.later d
  try replace xw := xw.later d
  try replace xg := xg.later d
  try clear ya0 ya1
  try clear yb0 yb1
  try clear yw0 yw1
  try clear yg0 yg1
  obtain ⟨ya0, ya1, -⟩ := id x0.reads
  try obtain ⟨yb0, yb1, -⟩ := id xb.reads
  try obtain ⟨yw0, yw1, -⟩ := id xw.reads
  try obtain ⟨yg0, yg1, -⟩ := id xg.reads
  replace om := om.below d
  clear d o7
  obtain ⟨A8, c8, B8, k8, rfl, -⟩ := o8.form
  unfold crV at o8 ⊢
  go_upto_region 25 with fail
  have xh := Blk2s.new_ W7 26 (.slice A8 xs.ts.length c8) (.slice B8 xs.os.length k8)
  have al := (Below.refl (W7).heap.size W7).alloc (Nat.le_refl _) (.cells #[.slice A8 xs.ts.length c8, .slice B8 xs.os.length k8] 26)
  obtain ⟨W8, hw5⟩ : ∃ x, (W7).alloc (.cells #[.slice A8 xs.ts.length c8, .slice B8 xs.os.length k8] 26) = x := ⟨_, rfl⟩
  obtain ⟨gh, hgb⟩ : ∃ x, (W7).heap.size = x := ⟨_, rfl⟩
  rw [hw5] at xh al ⊢
  rw [hgb] at xh ⊢
  have oh := o8.below al
  clear hw5 hgb
  replace b1 := b1.trans ((al).mono b1.size)
  replace x0 := x0.later al
  try replace bS := bS.trans ((al).mono bS.size)
  try replace bX := bX.trans ((al).mono bX.size)
  try replace bG := bG.trans ((al).mono bG.size)
  try replace b5 := b5.trans ((al).mono b5.size)
  try replace kG := kG.trans (Keeps.of_below al _)
  try replace kQ := kQ.trans (Keeps.of_below al _)
  try replace bQ := bQ.trans ((al).mono bQ.size)
  try replace xb := xb.later al
  try replace xw := xw.later al
  try replace xg := xg.later al
  try clear ya0 ya1
  try clear yb0 yb1
  try clear yw0 yw1
  try clear yg0 yg1
  obtain ⟨ya0, ya1, -⟩ := id x0.reads
  try obtain ⟨yb0, yb1, -⟩ := id xb.reads
  try obtain ⟨yw0, yw1, -⟩ := id xw.reads
  try obtain ⟨yg0, yg1, -⟩ := id xg.reads
  replace om := om.below al
  clear al o8
  obtain ⟨yh0, yh1, -⟩ := id xh.reads
  go_wp2_with fail
  refine (eqCoordinator_is _ _ xs W8 oh.crd (HS.out _ bS) HFX.out).mono ?_
  rintro e W9 ⟨rfl, d⟩
  clear yh0 yh1 xh
  replace b1 := b1.trans ((d).mono b1.size)
  replace x0 := x0.later d
  try replace bS := bS.trans ((d).mono bS.size)
  try replace bX := bX.trans ((d).mono bX.size)
  try replace bG := bG.trans ((d).mono bG.size)
  try replace b5 := b5.trans ((d).mono b5.size)
  try replace kG := kG.trans (Keeps.of_below d _)
  try replace kQ := kQ.trans (Keeps.of_below d _)
  try replace bQ := bQ.trans ((d).mono bQ.size)
  try replace xb := xb.later d
  try replace xw := xw.later d
  try replace xg := xg.later d
  try clear ya0 ya1
  try clear yb0 yb1
  try clear yw0 yw1
  try clear yg0 yg1
  obtain ⟨ya0, ya1, -⟩ := id x0.reads
  try obtain ⟨yb0, yb1, -⟩ := id xb.reads
  try obtain ⟨yw0, yw1, -⟩ := id xw.reads
  try obtain ⟨yg0, yg1, -⟩ := id xg.reads
  replace om := om.below d
  clear d oh
  go_wp2_with fail
  refine (CHC.out W9 om).mono ?_
  rintro e W10 ⟨rfl, d⟩
  replace b1 := b1.trans ((d).mono b1.size)
  replace x0 := x0.later d
  try replace bS := bS.trans ((d).mono bS.size)
  try replace bX := bX.trans ((d).mono bX.size)
  try replace bG := bG.trans ((d).mono bG.size)
  try replace b5 := b5.trans ((d).mono b5.size)
  try replace kG := kG.trans (Keeps.of_below d _)
  try replace kQ := kQ.trans (Keeps.of_below d _)
  try replace bQ := bQ.trans ((d).mono bQ.size)
  try replace xb := xb.later d
  try replace xw := xw.later d
  try replace xg := xg.later d
  try clear ya0 ya1
  try clear yb0 yb1
  try clear yw0 yw1
  try clear yg0 yg1
  obtain ⟨ya0, ya1, -⟩ := id x0.reads
  try obtain ⟨yb0, yb1, -⟩ := id xb.reads
  try obtain ⟨yw0, yw1, -⟩ := id xw.reads
  try obtain ⟨yg0, yg1, -⟩ := id xg.reads
  clear d om
  go_wp2
  go_ret
  exact .mk_ b1
end Go.Proofs.Ytelmeknpmlbplaa
