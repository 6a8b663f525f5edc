/- The coordinator with the slices $SA and $SB is stored as the answer, with the word $BB. -/
/-
  Walk of the exact law on ShardPrepare.
-/
import Derived.Test.YteeffchnbkkpfabDoorLawESh4
import Derived.Test.YteeffchnbkkpfabDoorRefW
namespace Go.Proofs.YteeffchnbkkpfabDoor
open Go.RowKit Wo Pu Rf Lk Sh

theorem Keeps.of_but {B R : Nat} {w w1 : World} (h : But R w w1) (hR : R < B) : Keeps B w w1 := ⟨h.size, fun k h1 h2 => h.block k h2 (fun e => by injection e; omega)⟩
theorem voted_size {rs xs : List Rec} {t : Int} {us : List Up} {b : Bool} {n : Nat} (h : Voted rs t us xs b) (hn : allSzR rs + us.length ≤ n) : allSzR xs ≤ n + 1 := by
  cases h with
  | bad _ => rw [allSzR_nil]; omega
  | known _ _ _ _ => omega
  | yes _ _ _ _ _ => rw [allSzR_snoc]; simp; omega
  | no _ _ _ _ _ _ => rw [allSzR_snoc]; simp; omega
  | full _ _ _ _ _ => omega
theorem voted_fit {rs xs : List Rec} {t : Int} {us : List Up} {b : Bool} (h : Voted rs t us xs b) (hn : allSzR rs + us.length ≤ 1048576) : FitR xs := by
  have hv := (voted_valid h).2
  cases h with
  | bad _ => exact ⟨Nat.zero_le _, fun r hr => by cases hr⟩
  | known _ _ _ _ => exact allSzR_fit (m := 1048576) (by omega) (Nat.le_refl _)
  | yes _ _ _ _ _ => exact fit_snoc (by simpa using hn) (by omega)
  | no _ _ _ _ _ _ => exact fit_snoc (by simp; omega) (by omega)
  | full _ _ _ _ _ => exact allSzR_fit (m := 1048576) (by omega) (Nat.le_refl _)
set_option linter.unusedSimpArgs false in
set_option maxRecDepth 100000 in
set_option maxHeartbeats 16000000 in
theorem exactShardPrepare_any (v : Value) (rs : List Rec) (t : Int) (A : Option Addr) (c : Nat) (us : List Up) (w : World) (h : Shd w w.heap.size v rs) (hq : WideR rs) (_wt : (Lit.int .i64 t).wf = true) (hu : Row w w.heap.size A (upsV us)) (hun : us.length ≤ maxLen) (er0 er1 : Addr) (hE : Errs er0 er1 w) :
    Calls Tryd.prog 11 #[v, .int .i64 t, .slice A us.length c] w (Ret (.bool true) w) := by
  have HU : Hid (∀ y, Below w.heap.size w y → Row y y.heap.size A (upsV us)) := fun y hy => (hu.below hy (Nat.le_refl _)).more hy.size
  have HUN := hid hun
  clear hu hun
  have HEx : Hid (∀ y, Below w.heap.size w y → Errs er0 er1 y) := fun y hy => hE.below hy
  have HW := hid hq
  clear hq hE
  obtain ⟨A0, c0, rfl, -, -⟩ := id h
  unfold shV at *
  have x0 := Blk1.new_ w 54 (.slice A0 rs.length c0)
  have b1 := (Below.refl w.heap.size w).alloc (Nat.le_refl _) (.cells #[.slice A0 rs.length c0] 54)
  obtain ⟨w0, hw0⟩ : ∃ x, w.alloc (.cells #[.slice A0 rs.length c0] 54) = x := ⟨_, rfl⟩
  obtain ⟨g0, hg0⟩ : ∃ g, w.heap.size = g := ⟨_, rfl⟩
  rw [hw0] at x0 b1
  rw [hg0] at x0
  have HA : Hid (∀ y, Below w.heap.size w y → Shd y y.heap.size (.agg #[.slice A0 rs.length c0]) rs) := fun y hy => h.on hy hy.size
  obtain ⟨y00, -⟩ := id x0.reads
  go_enter Tryd.func11, Tryd.ntmps11
  go_wp2_with fail
  refine (szShard_any _ rs 1048576 w0 (HA.out _ b1) HW.out (by omega) (by omega)).mono ?_
  rintro e w1 ⟨r, rfl, hr, d⟩
  replace b1 := b1.trans (d.mono b1.size)
  replace x0 := x0.later d
  clear y00 d
  obtain ⟨y00, -⟩ := id x0.reads
  rcases hr with rfl | ⟨r0, hr⟩
  · go_wp2
    go_ret
    exact .mk_ b1
  · by_cases hul : (us.length : Int) ≤ r
    · have hsz' : allSzR rs + us.length ≤ 1048576 := by omega
      have hsz : allSzR rs ≤ 1048576 := by omega
      have hul2 : us.length ≤ 1048576 := by omega
      have HF := hid (allSzR_fit hsz (Nat.le_refl _))
      obtain ⟨xs, b, hv⟩ := voted_ex rs t us
      have HFX := hid (voted_fit hv hsz')
      have HMS := hid (Nat.le_succ_of_le hsz)
      have HMX := hid (voted_size hv hsz')
      have CI : Hid (∀ x v A c, Below w.heap.size w x → Shd x x.heap.size v rs → Row x x.heap.size A (upsV us) → Calls Tryd.prog 22 #[v, .int .i64 t, .slice A us.length c] x (NewShFB xs b x)) := fun x v A c hx hs hu => implShardPrepare_F er0 er1 xs b v rs t A c us x hs (HEx.out x hx) HF.out hu hul2 hv
      have CS : Hid (∀ x v A c, Shd x x.heap.size v rs → Row x x.heap.size A (upsV us) → Calls Tryd.prog 23 #[v, .int .i64 t, .slice A us.length c] x (NewShB xs b x)) := fun x v A c hs hu => specShardPrepare_is xs b v rs t A c us x hs HF.out hu hul2 hv
      have HKS : Hid (1 ≤ kR 1 rs rs.length ∧ kR 1 rs rs.length ≤ 4194304) := by
        refine ⟨by rw [kR_eq 1 rs _ (Nat.le_refl _)]; omega, ?_⟩
        have := kR_le (k0 := 1) (rs := rs)
        omega
      have e0 : decide (r - (us.length : Int) < 0) = false := decide_eq_false (by omega)
      have CY := hid (fun x => szUpdateS_yes A us.length c r x HUN.out r0 (by omega) hul)
      clear hr hsz hsz' hv hul
      go_wp2_with fail
      refine (CY.out _).mono ?_
      rintro e w1' ⟨rfl, rfl⟩
      clear CY
      go_wp2_with fail
      refine (toShard_any _ rs w1 (HA.out _ b1) HF.out).mono ?_
      rintro e w2 ⟨v2, rfl, o2, d⟩
      have p2 := o2.shd
      replace b1 := b1.trans ((d).mono b1.size)
      replace x0 := x0.later d
      clear y00
      obtain ⟨y00, -⟩ := id x0.reads
      clear o2 d
      go_wp2_with fail
      refine (toUpdateS_any A c us _ (HU.out _ b1) hul2).mono ?_
      rintro e w2' ⟨j2, rfl, m2, d⟩
      have u2 : Row w2' w2'.heap.size (some ⟨j2, 0, none⟩) (upsV us) := m2.row
      replace b1 := b1.trans ((d).mono b1.size)
      replace x0 := x0.later d
      clear y00
      obtain ⟨y00, -⟩ := id x0.reads
      replace p2 := p2.on d d.size
      clear m2 d
      go_wp2_with fail
      refine (CS.out _ _ _ _ p2 u2).mono ?_
      rintro e w3 ⟨v3, rfl, o3, d⟩
      have p3 := o3.shd
      obtain ⟨A3, c3, rfl, -, -⟩ := id p3
      unfold shV at *
      replace b1 := b1.trans ((d).mono b1.size)
      replace x0 := x0.later d
      clear y00
      obtain ⟨y00, -⟩ := id x0.reads
      clear o3 p2 u2 d CS
      obtain ⟨g3, hg⟩ : ∃ g, (w3).heap.size = g := ⟨_, rfl⟩
      have al := (Below.refl (w3).heap.size w3).alloc (Nat.le_refl _) (.cells #[.slice A3 xs.length c3] 25)
      have x3 := Blk1.new_ (w3) 25 (.slice A3 xs.length c3)
      obtain ⟨wS, hw'⟩ : ∃ x, (w3).alloc (.cells #[.slice A3 xs.length c3] 25) = x := ⟨_, rfl⟩
      rw [hw'] at al x3
      rw [hg] at x3
      replace b1 := b1.trans ((al).mono b1.size)
      replace x0 := x0.later al
      clear y00
      obtain ⟨y00, -⟩ := id x0.reads
      replace p3 := p3.on al al.size
      have HS : Hid (∀ y, Below wS.heap.size wS y → Shd y y.heap.size (.agg #[.slice A3 xs.length c3]) xs) := fun y hy => p3.on hy hy.size
      have sS := b1.size
      have bS := Below.refl wS.heap.size wS
      have hx3 := x3.lt
      have hx0 := x0.lt
      clear p3 al
      go_wp2_with fail
      refine (toShard_any _ rs wS (HA.out _ b1) HF.out).mono ?_
      rintro e w5 ⟨v5, rfl, o5, d⟩
      obtain ⟨A5, c5, rfl, -, -⟩ := id o5
      unfold shV at *
      have hX0 := d.size
      replace b1 := b1.trans (d.mono b1.size)
      replace bS := bS.trans (d.mono bS.size)
      replace x0 := x0.later d
      replace x3 := x3.later d
      clear y00 d
      obtain ⟨g5, hg⟩ : ∃ g, (w5).heap.size = g := ⟨_, rfl⟩
      have al := (Below.refl (w5).heap.size w5).alloc (Nat.le_refl _) (.cells #[.slice A5 rs.length c5] 25)
      have x5 := Blk1.new_ (w5) 25 (.slice A5 rs.length c5)
      obtain ⟨wX, hw'⟩ : ∃ x, (w5).alloc (.cells #[.slice A5 rs.length c5] 25) = x := ⟨_, rfl⟩
      rw [hw'] at al x5
      rw [hg] at x5
      replace b1 := b1.trans (al.mono b1.size)
      replace bS := bS.trans (al.mono bS.size)
      replace x0 := x0.later al
      replace x3 := x3.later al
      have hX1 := al.size
      have pX := o5.shd.on al al.size
      have HX : Hid (∀ y, Below wX.heap.size wX y → Below w5.heap.size w5 y ∧ Shd y y.heap.size (.agg #[.slice A5 rs.length c5]) rs) := fun y hy => ⟨al.trans (hy.mono hX1), pX.on hy hy.size⟩
      have HO5 := hid o5
      clear o5 al
      obtain ⟨y00, -⟩ := id x0.reads
      go_wp2_with fail
      refine (toUpdateS_any A c us _ (HU.out _ b1) hul2).mono ?_
      rintro e wY ⟨j5, rfl, m5, d⟩
      have hj5 := m5.lt
      have hY1 := d.size
      have oY : OwnUps wY wX.heap.size (.slice (some ⟨j5, 0, none⟩) us.length us.length) us := m5
      replace b1 := b1.trans (d.mono b1.size)
      replace bS := bS.trans (d.mono bS.size)
      replace x0 := x0.later d
      replace x3 := x3.later d
      replace x5 := x5.later d
      replace pX := pX.on d d.size
      have bX := d
      have uX : Row wY wY.heap.size (some ⟨j5, 0, none⟩) (upsV us) := m5.row
      have HY : Hid (∀ y, Below wY.heap.size wY y → OwnUps y wX.heap.size (.slice (some ⟨j5, 0, none⟩) us.length us.length) us) := fun y hy => oY.below hy
      have bY := Below.refl wY.heap.size wY
      clear y00 d m5 oY
      obtain ⟨y00, -⟩ := id x0.reads
      obtain ⟨y50, -⟩ := id x5.reads
      go_wp2_with fail
      refine (CI.out _ _ _ _ b1 pX uX).mono ?_
      rintro e w7 ⟨v7, rfl, o7, d⟩
      obtain ⟨A7, c7, rfl, -, -⟩ := id o7
      unfold shV at *
      have h7 := d.size
      replace b1 := b1.trans (d.mono b1.size)
      replace bS := bS.trans (d.mono bS.size)
      replace bX := bX.trans (d.mono bX.size)
      replace bY := bY.trans (d.mono bY.size)
      replace x0 := x0.later d
      replace x3 := x3.later d
      replace x5 := x5.later d
      clear y00 y50 d pX uX
      obtain ⟨g7, hg⟩ : ∃ g, (w7).heap.size = g := ⟨_, rfl⟩
      have al := (Below.refl (w7).heap.size w7).alloc (Nat.le_refl _) (.cells #[.slice A7 xs.length c7] 25)
      have x7 := Blk1.new_ (w7) 25 (.slice A7 xs.length c7)
      obtain ⟨wG, hw'⟩ : ∃ x, (w7).alloc (.cells #[.slice A7 xs.length c7] 25) = x := ⟨_, rfl⟩
      rw [hw'] at al x7
      rw [hg] at x7
      replace b1 := b1.trans (al.mono b1.size)
      replace bS := bS.trans (al.mono bS.size)
      replace bX := bX.trans (al.mono bX.size)
      replace bY := bY.trans (al.mono bY.size)
      replace x0 := x0.later al
      replace x3 := x3.later al
      replace x5 := x5.later al
      have pG := o7.shd.on al al.size
      have zG := al.size
      have HG : Hid (∀ y, Below wG.heap.size wG y → Below w7.heap.size w7 y ∧ Shd y y.heap.size (.agg #[.slice A7 xs.length c7]) xs) := fun y hy => ⟨al.trans (hy.mono zG), pG.on hy hy.size⟩
      have HO7 := hid o7
      have bG := Below.refl wG.heap.size wG
      have HYG : Hid (∀ y, Below wG.heap.size wG y → OwnUps y wX.heap.size (.slice (some ⟨j5, 0, none⟩) us.length us.length) us) := fun y hy => HY.out y (bY.trans (hy.mono bY.size))
      clear HY bY
      clear o7 al pG
      obtain ⟨y00, -⟩ := id x0.reads
      obtain ⟨y30, -⟩ := id x3.reads
      obtain ⟨y50, -⟩ := id x5.reads
      obtain ⟨y70, -⟩ := id x7.reads
      go_wp2_with fail
      refine (eqShard_is _ _ xs _ (HG.out _ bG).2 (HS.out _ bS) HFX.out).mono ?_
      rintro e w8 ⟨rfl, d⟩
      replace b1 := b1.trans ((d).mono b1.size)
      replace bS := bS.trans ((d).mono bS.size)
      replace bX := bX.trans ((d).mono bX.size)
      replace bG := bG.trans ((d).mono bG.size)
      replace x0 := x0.later d
      replace x3 := x3.later d
      replace x5 := x5.later d
      replace x7 := x7.later d
      clear y00 y30 y50 y70 d
      obtain ⟨y00, -⟩ := id x0.reads
      obtain ⟨y30, -⟩ := id x3.reads
      obtain ⟨y50, -⟩ := id x5.reads
      obtain ⟨y70, -⟩ := id x7.reads
      go_wp2_with fail
      have b0 := (Below.refl w8.heap.size w8).drew
      have HH : Hid (∀ y, Below w8.heap.size w8 y → y.cell? ⟨g0, 0, none⟩ = some (.slice A0 rs.length c0) ∧ y.cell? ⟨g5, 0, none⟩ = some (.slice A5 rs.length c5)) := fun y hy => ⟨(x0.later hy).reads.1, (x5.later hy).reads.1⟩
      clear y00 y30 y50 y70
      refine wp_region_held_drew (S := fun y => y.cell? ⟨g0, 0, none⟩ = some (.slice A0 rs.length c0) ∧ y.cell? ⟨g5, 0, none⟩ = some (.slice A5 rs.length c5)) (by kernel_rfl) (HH.out _ b0) (fun hHeld => ?_)
      refine wpAnyH_take (i := 0) (oi := _) (v := ?_) rfl (by kernel_rfl) (by kernel_rfl) (by kernel_rfl) (fun _ _ _ h => h) (Or.inl ⟨by rfl, ?_⟩) hHeld ?_
      rotate_left
      · (intro w' hSw; (try dsimp only at hSw); go_simp <;> with_reducible rfl)
      try simp only [Act.put, List.getElem_toArray, List.getElem_cons_succ, List.getElem_cons_zero, List.setIfInBounds_toArray, List.set_cons_zero, List.set_cons_succ]
      refine wpAnyH_take (i := 1) (oi := _) (v := ?_) rfl (by kernel_rfl) (by kernel_rfl) (by kernel_rfl) (fun _ _ _ h => h) (Or.inl ⟨by rfl, ?_⟩) hHeld ?_
      rotate_left
      · (intro w' hSw; (try dsimp only at hSw); go_simp <;> with_reducible rfl)
      try simp only [Act.put, List.getElem_toArray, List.getElem_cons_succ, List.getElem_cons_zero, List.setIfInBounds_toArray, List.set_cons_zero, List.set_cons_succ]
      refine wpAnyH_ready (rs := [2]) (by kernel_rfl) (by simp) (AllReadyH.cons (o := _) rfl (fun K hK => ?_) AllReadyH.nil)
      try simp only [Act.put, List.getElem_toArray, List.getElem_cons_succ, List.getElem_cons_zero, List.setIfInBounds_toArray, List.set_cons_zero, List.set_cons_succ]
      go_simp
      go_at_call 35
      refine (toShard_any _ rs _ (HA.out _ (b1.trans (b0.mono b1.size))) HF.out).mono ?_
      rintro e w9 ⟨v9, rfl, o9, d⟩
      have p9 := o9.shd
      have b9 := b0.trans (d.mono b0.size)
      refine hK.out _ _ (HH.out _ b9) (fun hHeld => ?_)
      clear hK K
      try simp only [Act.put, List.getElem_toArray, List.getElem_cons_succ, List.getElem_cons_zero, List.setIfInBounds_toArray, List.set_cons_zero, List.set_cons_succ]
      refine wpAnyH_ready (rs := [3]) (by kernel_rfl) (by simp) (AllReadyH.cons (o := _) rfl (fun K hK => ?_) AllReadyH.nil)
      try simp only [Act.put, List.getElem_toArray, List.getElem_cons_succ, List.getElem_cons_zero, List.setIfInBounds_toArray, List.set_cons_zero, List.set_cons_succ]
      go_simp
      go_at_call 37
      refine (eqShard_is _ _ rs _ (HX.out _ (bX.trans (b9.mono bX.size))).2 p9 HF.out).mono ?_
      rintro e w10 ⟨rfl, d10⟩
      have b10 := b9.trans (d10.mono b9.size)
      refine hK.out _ _ (HH.out _ b10) (fun hHeld => ?_)
      clear hK K
      try simp only [Act.put, List.getElem_toArray, List.getElem_cons_succ, List.getElem_cons_zero, List.setIfInBounds_toArray, List.set_cons_zero, List.set_cons_succ]
      refine wpAnyH_take (i := 4) (oi := _) (v := ?_) rfl (by kernel_rfl) (by kernel_rfl) (by kernel_rfl) (fun _ _ _ h => h) (Or.inl ⟨by rfl, ?_⟩) hHeld ?_
      rotate_left
      · (intro w' hSw; (try dsimp only at hSw); go_simp <;> with_reducible rfl)
      try simp only [Act.put, List.getElem_toArray, List.getElem_cons_succ, List.getElem_cons_zero, List.setIfInBounds_toArray, List.set_cons_zero, List.set_cons_succ]
      refine wpAnyH_done (by kernel_rfl) ?_ _
      clear hHeld HH o9 p9 b9 d10 b0 d
      obtain ⟨y00, -⟩ := id x0.reads
      obtain ⟨y30, -⟩ := id x3.reads
      obtain ⟨y50, -⟩ := id x5.reads
      obtain ⟨y70, -⟩ := id x7.reads
      replace b1 := b1.trans ((b10).mono b1.size)
      replace bS := bS.trans ((b10).mono bS.size)
      replace bX := bX.trans ((b10).mono bX.size)
      replace bG := bG.trans ((b10).mono bG.size)
      replace x0 := x0.later b10
      replace x3 := x3.later b10
      replace x5 := x5.later b10
      replace x7 := x7.later b10
      clear y00 y30 y50 y70 b10
      obtain ⟨y00, -⟩ := id x0.reads
      obtain ⟨y30, -⟩ := id x3.reads
      obtain ⟨y50, -⟩ := id x5.reads
      obtain ⟨y70, -⟩ := id x7.reads
      go_wp2_with fail
      refine (toUpdateS_any A c us _ (HU.out _ b1) hul2).mono ?_
      rintro e w10b ⟨j10, rfl, m10, d⟩
      have t10 : Row w10b w10b.heap.size (some ⟨j10, 0, none⟩) (upsV us) := m10.row
      clear m10
      replace b1 := b1.trans ((d).mono b1.size)
      replace bS := bS.trans ((d).mono bS.size)
      replace bX := bX.trans ((d).mono bX.size)
      replace bG := bG.trans ((d).mono bG.size)
      replace x0 := x0.later d
      replace x3 := x3.later d
      replace x5 := x5.later d
      replace x7 := x7.later d
      clear y00 y30 y50 y70 d
      obtain ⟨y00, -⟩ := id x0.reads
      obtain ⟨y30, -⟩ := id x3.reads
      obtain ⟨y50, -⟩ := id x5.reads
      obtain ⟨y70, -⟩ := id x7.reads
      go_wp2_with fail
      refine (eqUpdateS_same _ _ _ _ us _ (HYG.out _ bG).row t10 hul2).mono ?_
      rintro e w10c ⟨rfl, d⟩
      clear t10
      replace b1 := b1.trans ((d).mono b1.size)
      replace bS := bS.trans ((d).mono bS.size)
      replace bX := bX.trans ((d).mono bX.size)
      replace bG := bG.trans ((d).mono bG.size)
      replace x0 := x0.later d
      replace x3 := x3.later d
      replace x5 := x5.later d
      replace x7 := x7.later d
      clear y00 y30 y50 y70 d
      obtain ⟨y00, -⟩ := id x0.reads
      obtain ⟨y30, -⟩ := id x3.reads
      obtain ⟨y50, -⟩ := id x5.reads
      obtain ⟨y70, -⟩ := id x7.reads
      obtain ⟨K, hK⟩ : ∃ K, kR 1 rs rs.length = K := ⟨_, rfl⟩
      have CM := hid (markShard_D wS.heap.size _ rs w5 w10c HO5.out (.of_below (HX.out _ bX).1 _) HF.out HMS.out)
      rw [hK] at CM HKS
      obtain ⟨KK, hKK⟩ : ∃ KK : Int, KK = (K : Int) + 3 * (us.length : Int) := ⟨_, rfl⟩
      have HKK := hid hKK
      have kk0 : decide (KK < 0) = false := decide_eq_false (by omega)
      clear hK hKK
      go_wp2_with fail
      refine CM.out.mono ?_
      rintro e w11 ⟨rfl, -, ha⟩
      clear CM
      have HB := ha.below (by have := bS.size; omega)
      have HKP0 := hid ((Keeps.of_below (HG.out _ bG).1 wY.heap.size).trans (.of_only ha (Nat.le_trans hX1 hY1)))
      have HOU := hid (Keeps.row ((Keeps.of_below bG wX.heap.size).trans (.of_only ha hX1)) (HYG.out _ (Below.refl _ _)))
      have CU := hid (markUps_to KK K j5 wX.heap.size _ _ us w11 HOU.out (inB_some _ _) hul2 HKS.out.1 HKS.out.2 HKK.out)
      replace b1 := b1.trans (HB.mono sS)
      replace bS := bS.trans HB
      replace x0 := x0.below HB hx0
      replace x3 := x3.below HB hx3
      replace x7 : Blk1 w11 g7 25 (.slice A7 xs.length c7) := x7.only ha (by omega)
      have hx11 : wX.heap.size ≤ w11.heap.size := Nat.le_trans bX.size ha.size
      clear y00 y30 y50 y70 HX HG HO5 HYG x5 bX bG ha HB HOU HKS HKK
      obtain ⟨y00, -⟩ := id x0.reads
      obtain ⟨y30, -⟩ := id x3.reads
      obtain ⟨y70, -⟩ := id x7.reads
      go_wp2_with fail
      refine CU.out.mono ?_
      rintro e w11b ⟨rfl, -, T⟩
      have HKP := hid (HKP0.out.trans (Keeps.of_but T hj5.2))
      have pG := (OwnShF.keep HO7.out HKP.out).shd
      have HB : Below wX.heap.size w11 w11b := T.below hx11 hj5.1
      replace b1 := b1.trans (HB.mono (by omega))
      replace bS := bS.trans (HB.mono (by omega))
      replace x0 := x0.below HB (by omega)
      replace x3 := x3.below HB (by omega)
      replace x7 : Blk1 w11b g7 25 (.slice A7 xs.length c7) := (T.block _ x7.lt (fun e => by injection e; omega)).trans x7
      clear y00 y30 y70 CU T HB HKP0
      obtain ⟨y00, -⟩ := id x0.reads
      obtain ⟨y30, -⟩ := id x3.reads
      obtain ⟨y70, -⟩ := id x7.reads
      go_wp2_with fail
      refine (eqShard_is _ _ xs _ pG (HS.out _ bS) HFX.out).mono ?_
      rintro e w12 ⟨rfl, d⟩
      replace b1 := b1.trans ((d).mono b1.size)
      replace bS := bS.trans ((d).mono bS.size)
      replace x0 := x0.later d
      replace x3 := x3.later d
      replace x7 := x7.later d
      clear y00 y30 y70
      obtain ⟨y00, -⟩ := id x0.reads
      obtain ⟨y30, -⟩ := id x3.reads
      obtain ⟨y70, -⟩ := id x7.reads
      have HKP2 := hid (HKP.out.trans (.of_below d _))
      obtain ⟨K2, hK2⟩ : ∃ K2, kR 1 xs xs.length = K2 := ⟨_, rfl⟩
      have CM := hid (markShard_D wY.heap.size _ xs w7 w12 HO7.out HKP2.out HFX.out HMX.out)
      have CH : Hid (∀ z, Shd z z.heap.size (.agg #[.slice A7 xs.length c7]) (mkRs 1 xs) → Calls Tryd.prog 46 #[.agg #[.slice A7 xs.length c7], .int .i64 1] z (Ret (.int .i64 (kR 1 xs xs.length : Nat)) z)) := fun z hz => heldShard_F _ xs z hz HFX.out HMX.out
      rw [hK2] at CM CH
      clear hK2 d pG HKP
      have kk2 : (0 : Int) ≤ (K2 : Int) := by omega
      go_wp2_with fail
      refine CM.out.mono ?_
      rintro e w13 ⟨rfl, oH, ha⟩
      have HB := ha.below (by have := HKP2.out.1; omega)
      have pH := oH.shd
      replace b1 := b1.trans (HB.mono (by omega))
      replace bS := bS.trans (HB.mono (by omega))
      replace x0 := x0.below HB (by omega)
      replace x3 := x3.below HB (by omega)
      replace x7 : Blk1 w13 g7 25 (.slice A7 xs.length c7) := x7.only ha (by omega)
      clear y00 y30 y70 HKP2 HO7 CM ha HB oH
      obtain ⟨y00, -⟩ := id x0.reads
      obtain ⟨y30, -⟩ := id x3.reads
      obtain ⟨y70, -⟩ := id x7.reads
      go_wp2_with fail
      refine (CH.out _ pH).mono ?_
      rintro e w14 ⟨rfl, d⟩
      replace b1 := b1.trans ((d).mono b1.size)
      replace bS := bS.trans ((d).mono bS.size)
      replace x0 := x0.later d
      replace x3 := x3.later d
      replace x7 := x7.later d
      clear y00 y30 y70
      obtain ⟨y00, -⟩ := id x0.reads
      obtain ⟨y30, -⟩ := id x3.reads
      obtain ⟨y70, -⟩ := id x7.reads
      replace pH := pH.on d d.size
      clear d
      go_wp2_with fail
      refine (toShard_any _ rs w14 (HA.out _ b1) HF.out).mono ?_
      rintro e w15 ⟨v15, rfl, o15, d⟩
      have p15 := o15.shd
      replace b1 := b1.trans ((d).mono b1.size)
      replace bS := bS.trans ((d).mono bS.size)
      replace x0 := x0.later d
      replace x3 := x3.later d
      replace x7 := x7.later d
      clear y00 y30 y70
      obtain ⟨y00, -⟩ := id x0.reads
      obtain ⟨y30, -⟩ := id x3.reads
      obtain ⟨y70, -⟩ := id x7.reads
      replace pH := pH.on d d.size
      clear o15 d
      go_wp2_with fail
      refine (toUpdateS_any A c us _ (HU.out _ b1) hul2).mono ?_
      rintro e w15b ⟨j15, rfl, m15, d⟩
      have u15 : Row w15b w15b.heap.size (some ⟨j15, 0, none⟩) (upsV us) := m15.row
      replace b1 := b1.trans ((d).mono b1.size)
      replace bS := bS.trans ((d).mono bS.size)
      replace x0 := x0.later d
      replace x3 := x3.later d
      replace x7 := x7.later d
      clear y00 y30 y70
      obtain ⟨y00, -⟩ := id x0.reads
      obtain ⟨y30, -⟩ := id x3.reads
      obtain ⟨y70, -⟩ := id x7.reads
      replace pH := pH.on d d.size
      replace p15 := p15.on d d.size
      clear m15 d
      go_wp2_with fail
      refine (CI.out _ _ _ _ b1 p15 u15).mono ?_
      rintro e w16 ⟨v16, rfl, o16, d⟩
      have p16 := o16.shd
      obtain ⟨A9, c9, rfl, -, -⟩ := id p16
      unfold shV at *
      replace b1 := b1.trans ((d).mono b1.size)
      replace bS := bS.trans ((d).mono bS.size)
      replace x0 := x0.later d
      replace x3 := x3.later d
      replace x7 := x7.later d
      clear y00 y30 y70
      obtain ⟨y00, -⟩ := id x0.reads
      obtain ⟨y30, -⟩ := id x3.reads
      obtain ⟨y70, -⟩ := id x7.reads
      replace pH := pH.on d d.size
      clear o16 d p15 u15
      obtain ⟨g9, hg⟩ : ∃ g, (w16).heap.size = g := ⟨_, rfl⟩
      have al := (Below.refl (w16).heap.size w16).alloc (Nat.le_refl _) (.cells #[.slice A9 xs.length c9] 25)
      have x9 := Blk1.new_ (w16) 25 (.slice A9 xs.length c9)
      obtain ⟨w17, hw'⟩ : ∃ x, (w16).alloc (.cells #[.slice A9 xs.length c9] 25) = x := ⟨_, rfl⟩
      rw [hw'] at al x9
      rw [hg] at x9
      replace b1 := b1.trans ((al).mono b1.size)
      replace bS := bS.trans ((al).mono bS.size)
      replace x0 := x0.later al
      replace x3 := x3.later al
      replace x7 := x7.later al
      clear y00 y30 y70
      obtain ⟨y00, -⟩ := id x0.reads
      obtain ⟨y30, -⟩ := id x3.reads
      obtain ⟨y70, -⟩ := id x7.reads
      replace pH := pH.on al al.size
      replace p16 := p16.on al al.size
      clear al
      obtain ⟨y90, -⟩ := id x9.reads
      go_wp2_with fail
      refine (eqShard_is _ _ xs _ p16 (HS.out _ bS) HFX.out).mono ?_
      rintro e w18 ⟨rfl, d⟩
      replace b1 := b1.trans ((d).mono b1.size)
      replace bS := bS.trans ((d).mono bS.size)
      replace x0 := x0.later d
      replace x3 := x3.later d
      replace x7 := x7.later d
      clear y00 y30 y70
      obtain ⟨y00, -⟩ := id x0.reads
      obtain ⟨y30, -⟩ := id x3.reads
      obtain ⟨y70, -⟩ := id x7.reads
      replace pH := pH.on d d.size
      clear d y90 x9 p16
      go_wp2_with fail
      refine (CH.out _ pH).mono ?_
      rintro e w19 ⟨rfl, d⟩
      replace b1 := b1.trans ((d).mono b1.size)
      replace bS := bS.trans ((d).mono bS.size)
      replace x0 := x0.later d
      replace x3 := x3.later d
      replace x7 := x7.later d
      clear y00 y30 y70
      obtain ⟨y00, -⟩ := id x0.reads
      obtain ⟨y30, -⟩ := id x3.reads
      obtain ⟨y70, -⟩ := id x7.reads
      go_wp2
      go_ret
      exact .mk_ b1
    · have CN := hid (fun x => szUpdateS_no A us.length c r x HUN.out r0 (by omega) (by omega))
      clear hul hr
      go_wp2_with fail
      refine (CN.out _).mono ?_
      rintro e w0 ⟨rfl, rfl⟩
      go_wp2
      go_ret
      exact .mk_ b1
end Go.Proofs.YteeffchnbkkpfabDoor
