/- The coordinator with the slices $SA and $SB is stored as the answer, with the word $BB. -/
/-
  Walk of the exact law on ShardDecide.
-/
import Derived.Test.YteeffchnbkkpfabDoorLawESh1
namespace Go.Proofs.YteeffchnbkkpfabDoor
open Go.RowKit Wo Pu Rf Lk Sh

theorem decided_size {rs xs : List Rec} {t k : Int} {b : Bool} {n : Nat} (h : Decided rs t k xs b) (hn : allSzR rs ≤ n) : allSzR xs ≤ n + 1 := by
  cases h with
  | bad _ => rw [allSzR_nil]; omega
  | known _ _ _ => omega
  | yes _ _ _ _ => rw [allSzR_snoc]; simp; omega
  | no _ _ _ _ => omega
theorem fit_snoc {rs : List Rec} {r : Rec} (h : allSzR rs + r.us.length ≤ 1048576) (h30 : (rs ++ [r]).length ≤ 1048576) : FitR (rs ++ [r]) := by
  have hf := allSzR_fit (m := 1048576) (rs := rs) (by omega) (Nat.le_refl _)
  refine ⟨h30, fun a ha => ?_⟩
  rcases List.mem_append.1 ha with h1 | h1
  · exact hf.2 a h1
  · have : a = r := by simpa using h1
    subst this
    omega
theorem decided_fit {rs xs : List Rec} {t k : Int} {b : Bool} (h : Decided rs t k xs b) (hn : allSzR rs ≤ 1048576) : FitR xs := by
  have hv := (decided_valid h).2
  cases h with
  | bad _ => exact ⟨Nat.zero_le _, fun r hr => by cases hr⟩
  | known _ _ _ => exact allSzR_fit hn (Nat.le_refl _)
  | yes _ _ _ _ => exact fit_snoc (by simpa using hn) (by omega)
  | no _ _ _ _ => exact allSzR_fit hn (Nat.le_refl _)
set_option linter.unusedSimpArgs false in
set_option maxRecDepth 100000 in
set_option maxHeartbeats 16000000 in
theorem exactShardDecide_any (v : Value) (rs : List Rec) (t : Int) (cm : Bool) (w : World) (h : Shd w w.heap.size v rs) (hq : WideR rs) (_wt : (Lit.int .i64 t).wf = true) (er0 er1 : Addr) (hE : Errs er0 er1 w) :
    Calls Tryd.prog 12 #[v, .int .i64 t, .bool cm] w (Ret (.bool true) w) := by
  have HEx : Hid (∀ y, Below w.heap.size w y → Errs er0 er1 y) := fun y hy => hE.below hy
  have HW := hid hq
  clear hq hE
  obtain ⟨A0, c0, rfl, -, -⟩ := id h
  unfold shV at *
  have x0 := Blk1.new_ w 54 (.slice A0 rs.length c0)
  have b1 := (Below.refl w.heap.size w).alloc (Nat.le_refl _) (.cells #[.slice A0 rs.length c0] 54)
  obtain ⟨w0, hw0⟩ : ∃ x, w.alloc (.cells #[.slice A0 rs.length c0] 54) = x := ⟨_, rfl⟩
  obtain ⟨g0, hg0⟩ : ∃ g, w.heap.size = g := ⟨_, rfl⟩
  rw [hw0] at x0 b1
  rw [hg0] at x0
  have HA : Hid (∀ y, Below w.heap.size w y → Shd y y.heap.size (.agg #[.slice A0 rs.length c0]) rs) := fun y hy => h.on hy hy.size
  obtain ⟨y00, -⟩ := id x0.reads
  go_enter Tryd.func12, Tryd.ntmps12
  go_wp2_with fail
  refine (szShard_any _ rs 1048576 w0 (HA.out _ b1) HW.out (by omega) (by omega)).mono ?_
  rintro e w1 ⟨r, rfl, hr, d⟩
  replace b1 := b1.trans (d.mono b1.size)
  replace x0 := x0.later d
  clear y00 d
  obtain ⟨y00, -⟩ := id x0.reads
  rcases hr with rfl | ⟨r0, hr⟩
  · go_wp2
    go_ret
    exact .mk_ b1
  · have hsz : allSzR rs ≤ 1048576 := by omega
    have HF := hid (allSzR_fit hsz (Nat.le_refl _))
    obtain ⟨kk, hkk⟩ : ∃ kk : Int, kk = if cm then 2 else 3 := ⟨_, rfl⟩
    obtain ⟨xs, b, hv⟩ := decided_ex rs t kk
    have HFX := hid (decided_fit hv hsz)
    have HMS := hid (Nat.le_succ_of_le hsz)
    have HMX := hid (decided_size hv hsz)
    have CI : Hid (∀ x v, Below w.heap.size w x → Shd x x.heap.size v rs → Calls Tryd.prog 27 #[v, .int .i64 t, .bool cm] x (NewShFB xs b x)) := fun x v hx hs => implShardDecide_F er0 er1 xs b v rs t kk cm x hs (HEx.out x hx) HF.out hkk hv
    have CS : Hid (∀ x v, Shd x x.heap.size v rs → Calls Tryd.prog 28 #[v, .int .i64 t, .bool cm] x (NewShB xs b x)) := fun x v hs => specShardDecide_is xs b v rs t kk cm x hs HF.out hkk hv
    clear hr hsz hkk hv
    go_wp2_with fail
    refine (toShard_any _ rs w1 (HA.out _ b1) HF.out).mono ?_
    rintro e w2 ⟨v2, rfl, o2, d⟩
    have p2 := o2.shd
    replace b1 := b1.trans ((d).mono b1.size)
    replace x0 := x0.later d
    clear y00
    obtain ⟨y00, -⟩ := id x0.reads
    clear o2 d
    go_wp2_with fail
    refine (CS.out _ _ p2).mono ?_
    rintro e w3 ⟨v3, rfl, o3, d⟩
    have p3 := o3.shd
    obtain ⟨A3, c3, rfl, -, -⟩ := id p3
    unfold shV at *
    replace b1 := b1.trans ((d).mono b1.size)
    replace x0 := x0.later d
    clear y00
    obtain ⟨y00, -⟩ := id x0.reads
    clear o3 p2 d CS
    obtain ⟨g3, hg⟩ : ∃ g, (w3).heap.size = g := ⟨_, rfl⟩
    have al := (Below.refl (w3).heap.size w3).alloc (Nat.le_refl _) (.cells #[.slice A3 xs.length c3] 25)
    have x3 := Blk1.new_ (w3) 25 (.slice A3 xs.length c3)
    obtain ⟨wS, hw'⟩ : ∃ x, (w3).alloc (.cells #[.slice A3 xs.length c3] 25) = x := ⟨_, rfl⟩
    rw [hw'] at al x3
    rw [hg] at x3
    replace b1 := b1.trans ((al).mono b1.size)
    replace x0 := x0.later al
    clear y00
    obtain ⟨y00, -⟩ := id x0.reads
    replace p3 := p3.on al al.size
    have HS : Hid (∀ y, Below wS.heap.size wS y → Shd y y.heap.size (.agg #[.slice A3 xs.length c3]) xs) := fun y hy => p3.on hy hy.size
    have sS := b1.size
    have bS := Below.refl wS.heap.size wS
    have hx3 := x3.lt
    have hx0 := x0.lt
    clear p3 al
    go_wp2_with fail
    refine (toShard_any _ rs wS (HA.out _ b1) HF.out).mono ?_
    rintro e w5 ⟨v5, rfl, o5, d⟩
    obtain ⟨A5, c5, rfl, -, -⟩ := id o5
    unfold shV at *
    have hX0 := d.size
    replace b1 := b1.trans (d.mono b1.size)
    replace bS := bS.trans (d.mono bS.size)
    replace x0 := x0.later d
    replace x3 := x3.later d
    clear y00 d
    obtain ⟨g5, hg⟩ : ∃ g, (w5).heap.size = g := ⟨_, rfl⟩
    have al := (Below.refl (w5).heap.size w5).alloc (Nat.le_refl _) (.cells #[.slice A5 rs.length c5] 25)
    have x5 := Blk1.new_ (w5) 25 (.slice A5 rs.length c5)
    obtain ⟨wX, hw'⟩ : ∃ x, (w5).alloc (.cells #[.slice A5 rs.length c5] 25) = x := ⟨_, rfl⟩
    rw [hw'] at al x5
    rw [hg] at x5
    replace b1 := b1.trans (al.mono b1.size)
    replace bS := bS.trans (al.mono bS.size)
    replace x0 := x0.later al
    replace x3 := x3.later al
    have hX1 := al.size
    have pX := o5.shd.on al al.size
    have HX : Hid (∀ y, Below wX.heap.size wX y → Below w5.heap.size w5 y ∧ Shd y y.heap.size (.agg #[.slice A5 rs.length c5]) rs) := fun y hy => ⟨al.trans (hy.mono hX1), pX.on hy hy.size⟩
    have HO5 := hid o5
    have bX := Below.refl wX.heap.size wX
    clear o5 al
    obtain ⟨y00, -⟩ := id x0.reads
    obtain ⟨y50, -⟩ := id x5.reads
    go_wp2_with fail
    refine (CI.out _ _ b1 pX).mono ?_
    rintro e w7 ⟨v7, rfl, o7, d⟩
    obtain ⟨A7, c7, rfl, -, -⟩ := id o7
    unfold shV at *
    have h7 := d.size
    replace b1 := b1.trans (d.mono b1.size)
    replace bS := bS.trans (d.mono bS.size)
    replace bX := bX.trans (d.mono bX.size)
    replace x0 := x0.later d
    replace x3 := x3.later d
    replace x5 := x5.later d
    clear y00 y50 d pX
    obtain ⟨g7, hg⟩ : ∃ g, (w7).heap.size = g := ⟨_, rfl⟩
    have al := (Below.refl (w7).heap.size w7).alloc (Nat.le_refl _) (.cells #[.slice A7 xs.length c7] 25)
    have x7 := Blk1.new_ (w7) 25 (.slice A7 xs.length c7)
    obtain ⟨wG, hw'⟩ : ∃ x, (w7).alloc (.cells #[.slice A7 xs.length c7] 25) = x := ⟨_, rfl⟩
    rw [hw'] at al x7
    rw [hg] at x7
    replace b1 := b1.trans (al.mono b1.size)
    replace bS := bS.trans (al.mono bS.size)
    replace bX := bX.trans (al.mono bX.size)
    replace x0 := x0.later al
    replace x3 := x3.later al
    replace x5 := x5.later al
    have pG := o7.shd.on al al.size
    have zG := al.size
    have HG : Hid (∀ y, Below wG.heap.size wG y → Below w7.heap.size w7 y ∧ Shd y y.heap.size (.agg #[.slice A7 xs.length c7]) xs) := fun y hy => ⟨al.trans (hy.mono zG), pG.on hy hy.size⟩
    have HO7 := hid o7
    have bG := Below.refl wG.heap.size wG
    clear o7 al pG
    obtain ⟨y00, -⟩ := id x0.reads
    obtain ⟨y30, -⟩ := id x3.reads
    obtain ⟨y50, -⟩ := id x5.reads
    obtain ⟨y70, -⟩ := id x7.reads
    go_wp2_with fail
    refine (eqShard_is _ _ xs _ (HG.out _ bG).2 (HS.out _ bS) HFX.out).mono ?_
    rintro e w8 ⟨rfl, d⟩
    replace b1 := b1.trans ((d).mono b1.size)
    replace bS := bS.trans ((d).mono bS.size)
    replace bX := bX.trans ((d).mono bX.size)
    replace bG := bG.trans ((d).mono bG.size)
    replace x0 := x0.later d
    replace x3 := x3.later d
    replace x5 := x5.later d
    replace x7 := x7.later d
    clear y00 y30 y50 y70 d
    obtain ⟨y00, -⟩ := id x0.reads
    obtain ⟨y30, -⟩ := id x3.reads
    obtain ⟨y50, -⟩ := id x5.reads
    obtain ⟨y70, -⟩ := id x7.reads
    go_wp2_with fail
    have b0 := (Below.refl w8.heap.size w8).drew
    have HH : Hid (∀ y, Below w8.heap.size w8 y → y.cell? ⟨g0, 0, none⟩ = some (.slice A0 rs.length c0) ∧ y.cell? ⟨g5, 0, none⟩ = some (.slice A5 rs.length c5)) := fun y hy => ⟨(x0.later hy).reads.1, (x5.later hy).reads.1⟩
    clear y00 y30 y50 y70
    refine wp_region_held_drew (S := fun y => y.cell? ⟨g0, 0, none⟩ = some (.slice A0 rs.length c0) ∧ y.cell? ⟨g5, 0, none⟩ = some (.slice A5 rs.length c5)) (by kernel_rfl) (HH.out _ b0) (fun hHeld => ?_)
    refine wpAnyH_take (i := 0) (oi := _) (v := ?_) rfl (by kernel_rfl) (by kernel_rfl) (by kernel_rfl) (fun _ _ _ h => h) (Or.inl ⟨by rfl, ?_⟩) hHeld ?_
    rotate_left
    · (intro w' hSw; (try dsimp only at hSw); go_simp <;> with_reducible rfl)
    try simp only [Act.put, List.getElem_toArray, List.getElem_cons_succ, List.getElem_cons_zero, List.setIfInBounds_toArray, List.set_cons_zero, List.set_cons_succ]
    refine wpAnyH_take (i := 1) (oi := _) (v := ?_) rfl (by kernel_rfl) (by kernel_rfl) (by kernel_rfl) (fun _ _ _ h => h) (Or.inl ⟨by rfl, ?_⟩) hHeld ?_
    rotate_left
    · (intro w' hSw; (try dsimp only at hSw); go_simp <;> with_reducible rfl)
    try simp only [Act.put, List.getElem_toArray, List.getElem_cons_succ, List.getElem_cons_zero, List.setIfInBounds_toArray, List.set_cons_zero, List.set_cons_succ]
    refine wpAnyH_ready (rs := [2]) (by kernel_rfl) (by simp) (AllReadyH.cons (o := _) rfl (fun K hK => ?_) AllReadyH.nil)
    try simp only [Act.put, List.getElem_toArray, List.getElem_cons_succ, List.getElem_cons_zero, List.setIfInBounds_toArray, List.set_cons_zero, List.set_cons_succ]
    go_simp
    go_at_call 35
    refine (toShard_any _ rs _ (HA.out _ (b1.trans (b0.mono b1.size))) HF.out).mono ?_
    rintro e w9 ⟨v9, rfl, o9, d⟩
    have p9 := o9.shd
    have b9 := b0.trans (d.mono b0.size)
    refine hK.out _ _ (HH.out _ b9) (fun hHeld => ?_)
    clear hK K
    try simp only [Act.put, List.getElem_toArray, List.getElem_cons_succ, List.getElem_cons_zero, List.setIfInBounds_toArray, List.set_cons_zero, List.set_cons_succ]
    refine wpAnyH_ready (rs := [3]) (by kernel_rfl) (by simp) (AllReadyH.cons (o := _) rfl (fun K hK => ?_) AllReadyH.nil)
    try simp only [Act.put, List.getElem_toArray, List.getElem_cons_succ, List.getElem_cons_zero, List.setIfInBounds_toArray, List.set_cons_zero, List.set_cons_succ]
    go_simp
    go_at_call 37
    refine (eqShard_is _ _ rs _ (HX.out _ (bX.trans (b9.mono bX.size))).2 p9 HF.out).mono ?_
    rintro e w10 ⟨rfl, d10⟩
    have b10 := b9.trans (d10.mono b9.size)
    refine hK.out _ _ (HH.out _ b10) (fun hHeld => ?_)
    clear hK K
    try simp only [Act.put, List.getElem_toArray, List.getElem_cons_succ, List.getElem_cons_zero, List.setIfInBounds_toArray, List.set_cons_zero, List.set_cons_succ]
    refine wpAnyH_take (i := 4) (oi := _) (v := ?_) rfl (by kernel_rfl) (by kernel_rfl) (by kernel_rfl) (fun _ _ _ h => h) (Or.inl ⟨by rfl, ?_⟩) hHeld ?_
    rotate_left
    · (intro w' hSw; (try dsimp only at hSw); go_simp <;> with_reducible rfl)
    try simp only [Act.put, List.getElem_toArray, List.getElem_cons_succ, List.getElem_cons_zero, List.setIfInBounds_toArray, List.set_cons_zero, List.set_cons_succ]
    refine wpAnyH_done (by kernel_rfl) ?_ _
    clear hHeld HH o9 p9 b9 d10 b0 d
    obtain ⟨y00, -⟩ := id x0.reads
    obtain ⟨y30, -⟩ := id x3.reads
    obtain ⟨y50, -⟩ := id x5.reads
    obtain ⟨y70, -⟩ := id x7.reads
    replace b1 := b1.trans ((b10).mono b1.size)
    replace bS := bS.trans ((b10).mono bS.size)
    replace bX := bX.trans ((b10).mono bX.size)
    replace bG := bG.trans ((b10).mono bG.size)
    replace x0 := x0.later b10
    replace x3 := x3.later b10
    replace x5 := x5.later b10
    replace x7 := x7.later b10
    clear y00 y30 y50 y70 b10
    obtain ⟨y00, -⟩ := id x0.reads
    obtain ⟨y30, -⟩ := id x3.reads
    obtain ⟨y50, -⟩ := id x5.reads
    obtain ⟨y70, -⟩ := id x7.reads
    obtain ⟨K, hK⟩ : ∃ K, kR 1 rs rs.length = K := ⟨_, rfl⟩
    have CM := hid (markShard_D wS.heap.size _ rs w5 w10 HO5.out (.of_below (HX.out _ bX).1 _) HF.out HMS.out)
    rw [hK] at CM
    clear hK
    have kk0 : (0 : Int) ≤ (K : Int) := by omega
    go_wp2_with fail
    refine CM.out.mono ?_
    rintro e w11 ⟨rfl, -, ha⟩
    clear CM
    have HB := ha.below (by have := bS.size; omega)
    have HKP := hid ((Keeps.of_below (HG.out _ bG).1 wX.heap.size).trans (.of_only ha hX1))
    have pG := (OwnShF.keep HO7.out HKP.out).shd
    replace b1 := b1.trans (HB.mono sS)
    replace bS := bS.trans HB
    replace x0 := x0.below HB hx0
    replace x3 := x3.below HB hx3
    replace x7 : Blk1 w11 g7 25 (.slice A7 xs.length c7) := x7.only ha (by omega)
    clear y00 y30 y50 y70 HX HG HO5 x5 bX bG ha HB
    obtain ⟨y00, -⟩ := id x0.reads
    obtain ⟨y30, -⟩ := id x3.reads
    obtain ⟨y70, -⟩ := id x7.reads
    go_wp2_with fail
    refine (eqShard_is _ _ xs _ pG (HS.out _ bS) HFX.out).mono ?_
    rintro e w12 ⟨rfl, d⟩
    replace b1 := b1.trans ((d).mono b1.size)
    replace bS := bS.trans ((d).mono bS.size)
    replace x0 := x0.later d
    replace x3 := x3.later d
    replace x7 := x7.later d
    clear y00 y30 y70
    obtain ⟨y00, -⟩ := id x0.reads
    obtain ⟨y30, -⟩ := id x3.reads
    obtain ⟨y70, -⟩ := id x7.reads
    have HKP2 := hid (HKP.out.trans (.of_below d _))
    obtain ⟨K2, hK2⟩ : ∃ K2, kR 1 xs xs.length = K2 := ⟨_, rfl⟩
    have CM := hid (markShard_D wX.heap.size _ xs w7 w12 HO7.out HKP2.out HFX.out HMX.out)
    have CH : Hid (∀ z, Shd z z.heap.size (.agg #[.slice A7 xs.length c7]) (mkRs 1 xs) → Calls Tryd.prog 46 #[.agg #[.slice A7 xs.length c7], .int .i64 1] z (Ret (.int .i64 (kR 1 xs xs.length : Nat)) z)) := fun z hz => heldShard_F _ xs z hz HFX.out HMX.out
    rw [hK2] at CM CH
    clear hK2 d pG HKP
    have kk2 : (0 : Int) ≤ (K2 : Int) := by omega
    go_wp2_with fail
    refine CM.out.mono ?_
    rintro e w13 ⟨rfl, oH, ha⟩
    have HB := ha.below (by have := HKP2.out.1; omega)
    have pH := oH.shd
    replace b1 := b1.trans (HB.mono (by omega))
    replace bS := bS.trans (HB.mono (by omega))
    replace x0 := x0.below HB (by omega)
    replace x3 := x3.below HB (by omega)
    replace x7 : Blk1 w13 g7 25 (.slice A7 xs.length c7) := x7.only ha (by omega)
    clear y00 y30 y70 HKP2 HO7 CM ha HB oH
    obtain ⟨y00, -⟩ := id x0.reads
    obtain ⟨y30, -⟩ := id x3.reads
    obtain ⟨y70, -⟩ := id x7.reads
    go_wp2_with fail
    refine (CH.out _ pH).mono ?_
    rintro e w14 ⟨rfl, d⟩
    replace b1 := b1.trans ((d).mono b1.size)
    replace bS := bS.trans ((d).mono bS.size)
    replace x0 := x0.later d
    replace x3 := x3.later d
    replace x7 := x7.later d
    clear y00 y30 y70
    obtain ⟨y00, -⟩ := id x0.reads
    obtain ⟨y30, -⟩ := id x3.reads
    obtain ⟨y70, -⟩ := id x7.reads
    replace pH := pH.on d d.size
    clear d
    go_wp2_with fail
    refine (toShard_any _ rs w14 (HA.out _ b1) HF.out).mono ?_
    rintro e w15 ⟨v15, rfl, o15, d⟩
    have p15 := o15.shd
    replace b1 := b1.trans ((d).mono b1.size)
    replace bS := bS.trans ((d).mono bS.size)
    replace x0 := x0.later d
    replace x3 := x3.later d
    replace x7 := x7.later d
    clear y00 y30 y70
    obtain ⟨y00, -⟩ := id x0.reads
    obtain ⟨y30, -⟩ := id x3.reads
    obtain ⟨y70, -⟩ := id x7.reads
    replace pH := pH.on d d.size
    clear o15 d
    go_wp2_with fail
    refine (CI.out _ _ b1 p15).mono ?_
    rintro e w16 ⟨v16, rfl, o16, d⟩
    have p16 := o16.shd
    obtain ⟨A9, c9, rfl, -, -⟩ := id p16
    unfold shV at *
    replace b1 := b1.trans ((d).mono b1.size)
    replace bS := bS.trans ((d).mono bS.size)
    replace x0 := x0.later d
    replace x3 := x3.later d
    replace x7 := x7.later d
    clear y00 y30 y70
    obtain ⟨y00, -⟩ := id x0.reads
    obtain ⟨y30, -⟩ := id x3.reads
    obtain ⟨y70, -⟩ := id x7.reads
    replace pH := pH.on d d.size
    clear o16 d p15
    obtain ⟨g9, hg⟩ : ∃ g, (w16).heap.size = g := ⟨_, rfl⟩
    have al := (Below.refl (w16).heap.size w16).alloc (Nat.le_refl _) (.cells #[.slice A9 xs.length c9] 25)
    have x9 := Blk1.new_ (w16) 25 (.slice A9 xs.length c9)
    obtain ⟨w17, hw'⟩ : ∃ x, (w16).alloc (.cells #[.slice A9 xs.length c9] 25) = x := ⟨_, rfl⟩
    rw [hw'] at al x9
    rw [hg] at x9
    replace b1 := b1.trans ((al).mono b1.size)
    replace bS := bS.trans ((al).mono bS.size)
    replace x0 := x0.later al
    replace x3 := x3.later al
    replace x7 := x7.later al
    clear y00 y30 y70
    obtain ⟨y00, -⟩ := id x0.reads
    obtain ⟨y30, -⟩ := id x3.reads
    obtain ⟨y70, -⟩ := id x7.reads
    replace pH := pH.on al al.size
    replace p16 := p16.on al al.size
    clear al
    obtain ⟨y90, -⟩ := id x9.reads
    go_wp2_with fail
    refine (eqShard_is _ _ xs _ p16 (HS.out _ bS) HFX.out).mono ?_
    rintro e w18 ⟨rfl, d⟩
    replace b1 := b1.trans ((d).mono b1.size)
    replace bS := bS.trans ((d).mono bS.size)
    replace x0 := x0.later d
    replace x3 := x3.later d
    replace x7 := x7.later d
    clear y00 y30 y70
    obtain ⟨y00, -⟩ := id x0.reads
    obtain ⟨y30, -⟩ := id x3.reads
    obtain ⟨y70, -⟩ := id x7.reads
    replace pH := pH.on d d.size
    clear d y90 x9 p16
    go_wp2_with fail
    refine (CH.out _ pH).mono ?_
    rintro e w19 ⟨rfl, d⟩
    replace b1 := b1.trans ((d).mono b1.size)
    replace bS := bS.trans ((d).mono bS.size)
    replace x0 := x0.later d
    replace x3 := x3.later d
    replace x7 := x7.later d
    clear y00 y30 y70
    obtain ⟨y00, -⟩ := id x0.reads
    obtain ⟨y30, -⟩ := id x3.reads
    obtain ⟨y70, -⟩ := id x7.reads
    go_wp2
    go_ret
    exact .mk_ b1
end Go.Proofs.YteeffchnbkkpfabDoor
