/-
  Walk of the exact law on QuarantineMissing.
-/
import Derived.Test.YtblknnifccmpkaaLawEQu2
import Derived.Test.YtblknnifccmpkaaLawQu5
namespace Go.Proofs.Ytblknnifccmpkaa
open Go.RowKit Wo Pu Qu

theorem eqIntN_same (B C : Nat) (A A' : Option Addr) (c c' : Nat) (zs : List Int) (w : World) (hr : Row w B A (ints zs)) (hr' : Row w C A' (ints zs)) (hm : zs.length ≤ maxLen) :
    Calls Try.prog 53 #[.slice A zs.length c, .slice A' zs.length c'] w (Ret (.bool true) w) := by
  refine (eqIntS_same B C A A' c c' zs w hr hr' hm).mono ?_
  rintro e w' ⟨rfl, h⟩
  exact .mk_ (Dr.below h _)
theorem Own.rowN {w : World} {B n c : Nat} {A : Option Addr} {zs : List Int} (h : Own w B (.slice A n c) zs) : Row w w.heap.size A (ints zs) := by
  have hn : n = zs.length := by
    rcases h.2 with ⟨e, h0⟩ | ⟨g, cap, cur, e, _⟩
    · injection e with _ e2 _; omega
    · injection e with _ e2 _
  subst hn
  exact h.row
theorem row_keep' {w w' : World} {B : Nat} {v : Value} {zs : List Int} (h : Own w B v zs) (hk : ∀ g, v.ownBlock = some g → w'.heap[g]? = w.heap[g]?) : Own w' B v zs := row_same h hk
set_option linter.unusedSimpArgs false in
set_option maxRecDepth 100000 in
set_option maxHeartbeats 16000000 in
theorem exactQuarantineMissing_any (v : Value) (q : Qr) (t : Int) (AL : Option Addr) (cL : Nat) (fr : List Int) (w : World) (h : Quar w w.heap.size v q) (hq : WideQ q) (_wt : (Lit.int .i64 t).wf = true) (hL : Row w w.heap.size AL (ints fr)) (hnl : fr.length ≤ maxLen) :
    Calls Try.prog 17 #[v, .int .i64 t, .slice AL fr.length cL] w (Ret (.bool true) w) := by
  obtain ⟨A0, c0, A1, c1, rfl, -, -, -, -⟩ := id h
  have HW := hid hq
  clear hq
  unfold qv at *
  have x0 := BlkQ.new_ w 58 (.slice A0 q.m.length c0) (.slice A1 q.rs.length c1)
  have b1 := (Below.refl w.heap.size w).alloc (Nat.le_refl _) (.cells #[.slice A0 q.m.length c0, .slice A1 q.rs.length c1] 58)
  obtain ⟨w0, hw0⟩ : ∃ x, w.alloc (.cells #[.slice A0 q.m.length c0, .slice A1 q.rs.length c1] 58) = x := ⟨_, rfl⟩
  obtain ⟨g0, hg0⟩ : ∃ g, w.heap.size = g := ⟨_, rfl⟩
  rw [hw0] at x0 b1
  rw [hg0] at x0
  have HA : Hid (∀ y, Below w.heap.size w y → Quar y y.heap.size (.agg #[.slice A0 q.m.length c0, .slice A1 q.rs.length c1]) q) := fun y hy => h.on hy hy.size
  have HLL : Hid (∀ y, Below w.heap.size w y → Row y y.heap.size AL (ints fr)) := fun y hy => rowq_on hL hy
  have hnl' := hnl
  unfold maxLen at hnl'
  obtain ⟨y00, y01, -⟩ := id x0.reads
  by_cases hfl : fr.length ≤ 1048576
  case neg =>
    go_enter Try.func17, Try.ntmps17
    go_wp2
    go_ret
    exact .mk_ b1
  go_enter Try.func17, Try.ntmps17
  go_wp2_with fail
  refine (szQuarantine_any _ q 1048576 w0 (HA.out _ b1) HW.out.1 HW.out.2.1 HW.out.2.2.1 HW.out.2.2.2 (by omega) (by omega)).mono ?_
  rintro e w1 ⟨r, rfl, hr, d⟩
  replace b1 := b1.trans (d.mono b1.size)
  replace x0 := x0.later d
  clear y00 y01 d
  obtain ⟨y00, y01, -⟩ := id x0.reads
  rcases hr with rfl | ⟨r0, hr⟩
  · go_wp2
    go_ret
    exact .mk_ b1
  · have hsz : allSzQ q ≤ 1048576 := by omega
    have HSM := hid (allSzQ_small hsz)
    have HF := hid (HW.out.fit hsz)
    have HSZ := hid hsz
    clear hr hsz
    go_wp2_with fail
    refine (toQuarantine_any _ q w1 (HA.out _ b1) HSM.out).mono ?_
    rintro e w2 ⟨v2, rfl, o2, d⟩
    have p2 := o2.quar
    obtain ⟨g21, g22, -, rfl, -⟩ := id o2
    unfold qv at *
    replace b1 := b1.trans (d.mono b1.size)
    replace x0 := x0.later d
    clear o2 y00 y01 d
    go_wp2_with fail
    refine (toIntS_any _ AL cL fr w2 (HLL.out _ b1) (Nat.le_refl _) hfl).mono ?_
    rintro e w2b ⟨g23, rfl, o2, d⟩
    have l2 := o2.row
    replace p2 := p2.on d d.size
    replace b1 := b1.trans (d.mono b1.size)
    replace x0 := x0.later d
    clear o2 d
    go_wp2_with fail
    refine (specQuarantineMissing_is _ q t _ _ fr w2b p2 HF.out l2 hfl).mono ?_
    rintro e wS ⟨M, hM, v3, rfl, o3, d⟩
    have HM := hid hM
    have hMl := hM.few
    obtain ⟨A4, c4, rfl, t3⟩ := o3.form
    replace b1 := b1.trans (d.mono b1.size)
    replace x0 := x0.later d
    have HS : Hid (∀ y, Below wS.heap.size wS y → Row y y.heap.size A4 (ints M)) := fun y hy => rowq_on t3 hy
    have hMn : M.length ≤ 1048576 := by omega
    have hMm : M.length ≤ maxLen := by unfold maxLen; omega
    clear o3 p2 d l2 hM t3
    have sS := b1.size
    have bS := Below.refl wS.heap.size wS
    have hx0 := x0.lt
    obtain ⟨y00, y01, -⟩ := id x0.reads
    go_wp2_with fail
    refine (toQuarantine_any _ q wS (HA.out _ b1) HSM.out).mono ?_
    rintro e w5 ⟨v5, rfl, o5, d⟩
    obtain ⟨g51, g52, -, rfl, -⟩ := id o5
    unfold qv at *
    have hX0 := d.size
    replace b1 := b1.trans (d.mono b1.size)
    replace bS := bS.trans (d.mono bS.size)
    replace x0 := x0.later d
    clear y00 y01 d
    obtain ⟨g5, hg⟩ : ∃ g, (w5).heap.size = g := ⟨_, rfl⟩
    have al := (Below.refl (w5).heap.size w5).alloc (Nat.le_refl _) (.cells #[.slice (some ⟨g51, 0, none⟩) q.m.length q.m.length, .slice (some ⟨g52, 0, none⟩) q.rs.length q.rs.length] 26)
    have x5 := BlkQ.new_ (w5) 26 (.slice (some ⟨g51, 0, none⟩) q.m.length q.m.length) (.slice (some ⟨g52, 0, none⟩) q.rs.length q.rs.length)
    obtain ⟨wX, hw'⟩ : ∃ x, (w5).alloc (.cells #[.slice (some ⟨g51, 0, none⟩) q.m.length q.m.length, .slice (some ⟨g52, 0, none⟩) q.rs.length q.rs.length] 26) = x := ⟨_, rfl⟩
    rw [hw'] at al x5
    rw [hg] at x5
    replace b1 := b1.trans (al.mono b1.size)
    replace bS := bS.trans (al.mono bS.size)
    replace x0 := x0.later al
    have fX := FilQ.below o5 al (Nat.le_refl _)
    obtain ⟨DX, hDX⟩ : ∃ D, w5.heap.size = D := ⟨_, rfl⟩
    have hX1 := al.size
    rw [hDX] at fX hX0 hX1
    have pX := (FilledQ.quar o5).on al al.size
    have HX : Hid (∀ y, Below wX.heap.size wX y → FilQ y wS.heap.size (.agg #[.slice (some ⟨g51, 0, none⟩) q.m.length q.m.length, .slice (some ⟨g52, 0, none⟩) q.rs.length q.rs.length]) q DX ∧ Quar y y.heap.size (.agg #[.slice (some ⟨g51, 0, none⟩) q.m.length q.m.length, .slice (some ⟨g52, 0, none⟩) q.rs.length q.rs.length]) q) := fun y hy => ⟨fX.below hy hX1, pX.on hy hy.size⟩
    have bX := Below.refl wX.heap.size wX
    clear o5 al
    obtain ⟨y50, y51, -⟩ := id x5.reads
    go_wp2_with fail
    refine (toIntS_any _ AL cL fr wX (HLL.out _ b1) (Nat.le_refl _) hfl).mono ?_
    rintro e wL ⟨gl, rfl, oL, d⟩
    replace pX := pX.on d d.size
    replace b1 := b1.trans (d.mono b1.size)
    replace bS := bS.trans (d.mono bS.size)
    replace bX := bX.trans (d.mono bX.size)
    replace x0 := x0.later d
    replace x5 := x5.later d
    have lL := oL.row
    have hgl := oL.lt
    have hXL := d.size
    have HLI : Hid (∀ y, Below wL.heap.size wL y → Mine y wX.heap.size 3 1 gl fr.length (ints fr)) := fun y hy => oL.below hy hgl.2
    have bL := Below.refl wL.heap.size wL
    clear oL d y50 y51
    obtain ⟨y50, y51, -⟩ := id x5.reads
    go_wp2_with fail
    refine (implQuarantineMissing_is _ q t _ _ fr wL pX HF.out lL hfl).mono ?_
    rintro e wG ⟨M7, hM7, v7, rfl, o7, d⟩
    obtain rfl := hM7.one HM.out
    obtain ⟨A7, c7, rfl, -⟩ := o7.form
    replace b1 := b1.trans (d.mono b1.size)
    replace bS := bS.trans (d.mono bS.size)
    replace bX := bX.trans (d.mono bX.size)
    replace bL := bL.trans (d.mono bL.size)
    replace x0 := x0.later d
    replace x5 := x5.later d
    have HG : Hid (∀ y, Below wG.heap.size wG y → Own y wL.heap.size (.slice A7 M7.length c7) M7) := fun y hy => Own.below o7 hy (Nat.le_refl _)
    have bG := Below.refl wG.heap.size wG
    clear hM7 d pX fX lL o7 y50 y51
    obtain ⟨y00, y01, -⟩ := id x0.reads
    obtain ⟨y50, y51, -⟩ := id x5.reads
    go_wp2_with fail
    refine (eqIntN_same _ _ A7 A4 c7 c4 M7 _ (HG.out _ bG).row (HS.out _ bS) hMm).mono ?_
    rintro e w8 ⟨rfl, d⟩
    replace b1 := b1.trans ((d).mono b1.size)
    replace bS := bS.trans ((d).mono bS.size)
    replace bX := bX.trans ((d).mono bX.size)
    replace bL := bL.trans ((d).mono bL.size)
    replace bG := bG.trans ((d).mono bG.size)
    replace x0 := x0.later d
    replace x5 := x5.later d
    clear y00 y01 y50 y51 d
    obtain ⟨y00, y01, -⟩ := id x0.reads
    obtain ⟨y50, y51, -⟩ := id x5.reads
    go_wp2_with fail
    have b0 := (Below.refl w8.heap.size w8).drew
    have HE : Hid (∀ y, Below w8.heap.size w8 y → y.cell? ⟨g0, 0, none⟩ = some (.slice A0 q.m.length c0) ∧ y.cell? ⟨g0, 1, none⟩ = some (.slice A1 q.rs.length c1) ∧ y.cell? ⟨g5, 0, none⟩ = some (.slice (some ⟨g51, 0, none⟩) q.m.length q.m.length) ∧ y.cell? ⟨g5, 1, none⟩ = some (.slice (some ⟨g52, 0, none⟩) q.rs.length q.rs.length)) := fun y hy => ⟨(x0.later hy).reads.1, (x0.later hy).reads.2.1, (x5.later hy).reads.1, (x5.later hy).reads.2.1⟩
    clear y00 y01 y50 y51
    refine wp_region_held_drew (S := fun y => y.cell? ⟨g0, 0, none⟩ = some (.slice A0 q.m.length c0) ∧ y.cell? ⟨g0, 1, none⟩ = some (.slice A1 q.rs.length c1) ∧ y.cell? ⟨g5, 0, none⟩ = some (.slice (some ⟨g51, 0, none⟩) q.m.length q.m.length) ∧ y.cell? ⟨g5, 1, none⟩ = some (.slice (some ⟨g52, 0, none⟩) q.rs.length q.rs.length)) (by kernel_rfl) (HE.out _ b0) (fun hHeld => ?_)
    refine wpAnyH_take (i := 0) (oi := _) (v := ?_) rfl (by kernel_rfl) (by kernel_rfl) (by kernel_rfl) (fun _ _ _ h => h) (Or.inl ⟨by rfl, ?_⟩) hHeld ?_
    rotate_left
    · (intro w' hSw; (try dsimp only at hSw); go_simp <;> with_reducible rfl)
    try simp only [Act.put, List.getElem_toArray, List.getElem_cons_succ, List.getElem_cons_zero, List.setIfInBounds_toArray, List.set_cons_zero, List.set_cons_succ]
    refine wpAnyH_take (i := 1) (oi := _) (v := ?_) rfl (by kernel_rfl) (by kernel_rfl) (by kernel_rfl) (fun _ _ _ h => h) (Or.inl ⟨by rfl, ?_⟩) hHeld ?_
    rotate_left
    · (intro w' hSw; (try dsimp only at hSw); go_simp <;> with_reducible rfl)
    try simp only [Act.put, List.getElem_toArray, List.getElem_cons_succ, List.getElem_cons_zero, List.setIfInBounds_toArray, List.set_cons_zero, List.set_cons_succ]
    refine wpAnyH_ready (rs := [2]) (by kernel_rfl) (by simp) (AllReadyH.cons (o := _) rfl (fun K hK => ?_) AllReadyH.nil)
    try simp only [Act.put, List.getElem_toArray, List.getElem_cons_succ, List.getElem_cons_zero, List.setIfInBounds_toArray, List.set_cons_zero, List.set_cons_succ]
    go_simp
    go_at_call 44
    refine (toQuarantine_any _ q _ (HA.out _ (b1.trans (b0.mono b1.size))) HSM.out).mono ?_
    rintro e w9 ⟨v9, rfl, o9, d⟩
    have p9 := (FilledQ.quar o9)
    have b9 := b0.trans (d.mono b0.size)
    refine hK.out _ _ (HE.out _ b9) (fun hHeld => ?_)
    clear hK K
    try simp only [Act.put, List.getElem_toArray, List.getElem_cons_succ, List.getElem_cons_zero, List.setIfInBounds_toArray, List.set_cons_zero, List.set_cons_succ]
    refine wpAnyH_ready (rs := [3]) (by kernel_rfl) (by simp) (AllReadyH.cons (o := _) rfl (fun K hK => ?_) AllReadyH.nil)
    try simp only [Act.put, List.getElem_toArray, List.getElem_cons_succ, List.getElem_cons_zero, List.setIfInBounds_toArray, List.set_cons_zero, List.set_cons_succ]
    go_simp
    go_at_call 45
    refine (eqQuarantine_same _ _ q _ (HX.out _ (bX.trans (b9.mono bX.size))).2 p9 HSM.out).mono ?_
    rintro e w10 ⟨rfl, d10⟩
    have b10 := b9.trans (d10.mono b9.size)
    refine hK.out _ _ (HE.out _ b10) (fun hHeld => ?_)
    clear hK K
    try simp only [Act.put, List.getElem_toArray, List.getElem_cons_succ, List.getElem_cons_zero, List.setIfInBounds_toArray, List.set_cons_zero, List.set_cons_succ]
    refine wpAnyH_take (i := 4) (oi := _) (v := ?_) rfl (by kernel_rfl) (by kernel_rfl) (by kernel_rfl) (fun _ _ _ h => h) (Or.inl ⟨by rfl, ?_⟩) hHeld ?_
    rotate_left
    · (intro w' hSw; (try dsimp only at hSw); go_simp <;> with_reducible rfl)
    try simp only [Act.put, List.getElem_toArray, List.getElem_cons_succ, List.getElem_cons_zero, List.setIfInBounds_toArray, List.set_cons_zero, List.set_cons_succ]
    refine wpAnyH_done (by kernel_rfl) ?_ _
    clear hHeld HE o9 p9 b9 d10 b0 d
    obtain ⟨y00, y01, -⟩ := id x0.reads
    obtain ⟨y50, y51, -⟩ := id x5.reads
    replace b1 := b1.trans ((b10).mono b1.size)
    replace bS := bS.trans ((b10).mono bS.size)
    replace bX := bX.trans ((b10).mono bX.size)
    replace bL := bL.trans ((b10).mono bL.size)
    replace bG := bG.trans ((b10).mono bG.size)
    replace x0 := x0.later b10
    replace x5 := x5.later b10
    clear y00 y01 y50 y51 b10
    obtain ⟨y00, y01, -⟩ := id x0.reads
    obtain ⟨y50, y51, -⟩ := id x5.reads
    go_wp2_with fail
    refine (toIntS_any _ AL cL fr w10 (HLL.out _ b1) (Nat.le_refl _) hfl).mono ?_
    rintro e wM ⟨gm, rfl, oM, d⟩
    have lM := oM.row
    replace b1 := b1.trans ((d).mono b1.size)
    replace bS := bS.trans ((d).mono bS.size)
    replace bX := bX.trans ((d).mono bX.size)
    replace bL := bL.trans ((d).mono bL.size)
    replace bG := bG.trans ((d).mono bG.size)
    replace x0 := x0.later d
    replace x5 := x5.later d
    clear y00 y01 y50 y51 d
    obtain ⟨y00, y01, -⟩ := id x0.reads
    obtain ⟨y50, y51, -⟩ := id x5.reads
    clear oM
    go_wp2_with fail
    refine (eqIntN_same _ _ _ _ _ _ fr wM (HLI.out _ bL).row lM hnl).mono ?_
    rintro e wN ⟨rfl, d⟩
    replace b1 := b1.trans ((d).mono b1.size)
    replace bS := bS.trans ((d).mono bS.size)
    replace bX := bX.trans ((d).mono bX.size)
    replace bL := bL.trans ((d).mono bL.size)
    replace bG := bG.trans ((d).mono bG.size)
    replace x0 := x0.later d
    replace x5 := x5.later d
    clear y00 y01 y50 y51 d
    obtain ⟨y00, y01, -⟩ := id x0.reads
    obtain ⟨y50, y51, -⟩ := id x5.reads
    clear lM
    have zX := bX.size
    have fX := (HX.out _ bX).1
    go_wp2_with fail
    refine (markQuarantine_from wS.heap.size DX _ q wN fX (by omega) HSZ.out).mono ?_
    rintro e w11a ⟨k1, rfl, hk1, ha⟩
    have zw := ha.1.size
    replace b1 := b1.trans (ha.1.mono sS)
    replace bS := bS.trans ha.1
    replace x0 := x0.below ha.1 hx0
    have iL := ha.mineN (HLI.out _ bL) hX1
    have oG := row_keep' (HG.out _ bG) (fun g hg => ha.2 g (by have := (World.ownsRow.lt (HG.out _ bG) g hg).1; omega) (World.ownsRow.lt (HG.out _ bG) g hg).2)
    have zL := bL.size
    clear y00 y01 y50 y51 fX HX x5 bX HG bG ha HLI bL
    obtain ⟨y00, y01, -⟩ := id x0.reads
    go_wp2_with fail
    refine (markIntS_own wX.heap.size gl fr.length fr.length k1 (ints fr) w11a iL hfl (by omega) (by omega)).mono ?_
    rintro e w11 ⟨rfl, hw, -⟩
    have kk : 0 ≤ k1 + (fr.length : Int) := by omega
    have zW := hw.2.1
    have bw : Below wX.heap.size w11a w11 := (Below.refl _ _).grown hw.1 (by omega) (fun i hi => by injection hi with hi; omega)
    replace b1 := b1.trans (bw.mono (by omega))
    replace bS := bS.trans (bw.mono (by omega))
    replace x0 := x0.below bw (by omega)
    replace oG := row_keep' oG (fun g hg => hw.1.block g (World.ownsRow.lt oG g hg).2 (fun e => by have := (World.ownsRow.lt oG g hg).1; injection e with e; omega))
    clear y00 y01 iL hk1 bw hw
    obtain ⟨y00, y01, -⟩ := id x0.reads
    go_wp2_with fail
    refine (eqIntN_same _ _ A7 A4 c7 c4 M7 _ (Own.row oG) (HS.out _ bS) hMm).mono ?_
    rintro e w12 ⟨rfl, d⟩
    replace b1 := b1.trans ((d).mono b1.size)
    replace bS := bS.trans ((d).mono bS.size)
    replace x0 := x0.later d
    clear y00 y01
    obtain ⟨y00, y01, -⟩ := id x0.reads
    replace oG := Own.below oG d (Nat.le_refl _)
    have zd := d.size
    clear d
    go_wp2_with fail
    refine (markInts_any _ A7 c7 M7 1 w12 oG hMn (by omega) (by omega)).mono ?_
    rintro e w13 ⟨rfl, oH, hg⟩
    have bw : Below wL.heap.size w12 w13 := (Below.refl _ _).grown hg (by omega) (fun i hi => (World.ownsRow.lt oG i hi).1)
    replace b1 := b1.trans (bw.mono (by omega))
    replace bS := bS.trans (bw.mono (by omega))
    replace x0 := x0.below bw (by omega)
    have pH : Row w13 w13.heap.size A7 (ints (marks 1 M7.length)) := Own.rowN oH
    clear y00 y01 oG oH hg bw
    obtain ⟨y00, y01, -⟩ := id x0.reads
    go_wp2_with fail
    refine (heldIntS_yes _ A7 c7 M7.length 1 w13 pH hMn (by omega) (by omega)).mono ?_
    rintro e w14 ⟨rfl, rfl⟩
    go_wp2_with fail
    refine (toQuarantine_any _ q w13 (HA.out _ b1) HSM.out).mono ?_
    rintro e w15 ⟨v15, rfl, o15, d⟩
    have p15 := o15.quar
    obtain ⟨g151, g152, -, rfl, -⟩ := id o15
    unfold qv at *
    replace b1 := b1.trans ((d).mono b1.size)
    replace bS := bS.trans ((d).mono bS.size)
    replace x0 := x0.later d
    clear y00 y01
    obtain ⟨y00, y01, -⟩ := id x0.reads
    replace pH := rowq_on pH d
    clear o15 d
    go_wp2_with fail
    refine (toIntS_any _ AL cL fr w15 (HLL.out _ b1) (Nat.le_refl _) hfl).mono ?_
    rintro e wP ⟨gp, rfl, oP, d⟩
    have lP := oP.row
    replace p15 := p15.on d d.size
    replace b1 := b1.trans ((d).mono b1.size)
    replace bS := bS.trans ((d).mono bS.size)
    replace x0 := x0.later d
    clear y00 y01
    obtain ⟨y00, y01, -⟩ := id x0.reads
    replace pH := rowq_on pH d
    clear oP d
    go_wp2_with fail
    refine (implQuarantineMissing_is _ q t _ _ fr wP p15 HF.out lP hfl).mono ?_
    rintro e w16 ⟨M8, hM8, v16, rfl, o16, d⟩
    obtain rfl := hM8.one HM.out
    obtain ⟨A8, c8, rfl, r16⟩ := o16.form
    replace b1 := b1.trans ((d).mono b1.size)
    replace bS := bS.trans ((d).mono bS.size)
    replace x0 := x0.later d
    clear y00 y01
    obtain ⟨y00, y01, -⟩ := id x0.reads
    replace pH := rowq_on pH d
    clear o16 d p15 lP hM8
    go_wp2_with fail
    refine (eqIntN_same _ _ A8 A4 c8 c4 M8 _ r16 (HS.out _ bS) hMm).mono ?_
    rintro e w18 ⟨rfl, d⟩
    replace b1 := b1.trans ((d).mono b1.size)
    replace bS := bS.trans ((d).mono bS.size)
    replace x0 := x0.later d
    clear y00 y01
    obtain ⟨y00, y01, -⟩ := id x0.reads
    replace pH := rowq_on pH d
    clear d r16
    go_wp2_with fail
    refine (heldIntS_yes _ A7 c7 M8.length 1 w18 pH hMn (by omega) (by omega)).mono ?_
    rintro e w19 ⟨rfl, rfl⟩
    go_wp2
    go_ret
    exact .mk_ b1
end Go.Proofs.Ytblknnifccmpkaa
