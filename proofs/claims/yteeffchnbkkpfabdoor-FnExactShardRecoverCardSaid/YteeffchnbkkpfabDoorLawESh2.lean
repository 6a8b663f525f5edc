/- The coordinator with the slices $SA and $SB is stored as the answer, with the word $BB. -/
/-
  Walks of the exact laws on ShardCommitted and ShardRecover.
-/
import Derived.Test.YteeffchnbkkpfabDoorLawESh1
namespace Go.Proofs.YteeffchnbkkpfabDoor
open Go.RowKit Wo Pu Rf Lk Sh

/-- Behind marks on ints from k on. -/
def MarkedI (k n : Nat) (v : Value) (R B : Nat) (w : World) (e : Ending) (w' : World) : Prop := e = .returned (.int .i64 (k + n : Nat)) ∧ OwnI w' B v (marks (k : Int) n) ∧ But R w w'
set_option maxHeartbeats 1000000 in
theorem markInts_k (k : Nat) (R B : Nat) (A : Option Addr) (c : Nat) (zs : List Int) (w : World) (ho : OwnI w B (.slice A zs.length c) zs) (hR : InB A R) (hn : zs.length ≤ 1048576) (hk : k ≤ 4000000) :
    Calls Tryd.prog 48 #[.slice A zs.length c, .int .i64 (k : Int)] w (MarkedI k zs.length (.slice A zs.length c) R B w) := by
  have ho' := ho
  obtain ⟨h1, h2⟩ := ho'
  rcases h2 with ⟨hv, hz⟩ | ⟨g, cap, cur, hv, -⟩
  · injection hv with e1 e2 e3
    subst e1
    subst e3
    have hzs : zs = [] := List.eq_nil_of_length_eq_zero hz
    subst hzs
    clear ho h1 hz e2 hn hR
    have hI : OwnI w B (.slice none 0 0) (marks (k : Int) 0) := ⟨rfl, .inl ⟨rfl, rfl⟩⟩
    have hB := But.refl R w
    go_enter Tryd.func48, Tryd.ntmps48
    go_wp2_with fail
    go_loopw [1, 5] (fun q i wr => i = .int .i64 0 ∧ q = .int .i64 (k : Int) ∧ w = wr) (fun _ _ _ => 0)
    case atStart => exact ⟨rfl, rfl, rfl⟩
    case round =>
      obtain ⟨rfl, rfl, rfl⟩ := hrel
      go_wp2
      go_ret
      exact ⟨rfl, hI, hB⟩
  · injection hv with e1 e2 e3
    subst e1
    obtain rfl : g = R := hR _ rfl
    refine (markIntS_own B g zs.length c (k : Int) (ints zs) w ho hn (by omega) (by omega)).mono ?_
    rintro e w' ⟨rfl, hw, ho2⟩
    refine ⟨by congr 1, ?_, hw.1⟩
    unfold OwnI
    rw [marks_length]
    exact ho2
theorem rowI_on {w w' : World} {A : Option Addr} {vs : List Value} (h : Row w w.heap.size A vs) (hb : Below w.heap.size w w') : Row w' w'.heap.size A vs := (h.below hb (Nat.le_refl _)).more hb.size
theorem inB_lt {w : World} {B N R n c : Nat} {A : Option Addr} {zs : List Int} (h : OwnI w B (.slice A n c) zs) (hI : InB A R) (hN : A = none → R = N) : (B ≤ R ∧ R < w.heap.size) ∨ N ≤ R := by
  cases A with
  | none => exact .inr (by rw [hN rfl]; exact Nat.le_refl _)
  | some ad => have := World.ownsRow.lt h ad.block rfl; rw [hI ad rfl] at this; exact .inl this
theorem comOf_len {rs : List Rec} {zs : List Int} (h : ComOf rs zs) (hf : FitR rs) : zs.length ≤ 1048576 := by
  rcases h with ⟨-, rfl⟩ | ⟨-, rfl⟩
  · unfold Sh.com
    rw [List.length_map]
    exact Nat.le_trans (List.length_filter_le _ _) hf.1
  · exact Nat.zero_le _
set_option linter.unusedSimpArgs false in
set_option maxRecDepth 100000 in
set_option maxHeartbeats 16000000 in
theorem exactShardCommitted_any (v : Value) (rs : List Rec) (w : World) (h : Shd w w.heap.size v rs) (hq : WideR rs) (er0 er1 : Addr) (hE : Errs er0 er1 w) :
    Calls Tryd.prog 13 #[v] w (Ret (.bool true) w) := by
  have HEx : Hid (∀ y, Below w.heap.size w y → Errs er0 er1 y) := fun y hy => hE.below hy
  have HW := hid hq
  clear hq hE
  obtain ⟨A0, c0, rfl, -, -⟩ := id h
  unfold shV at *
  have x0 := Blk1.new_ w 54 (.slice A0 rs.length c0)
  have b1 := (Below.refl w.heap.size w).alloc (Nat.le_refl _) (.cells #[.slice A0 rs.length c0] 54)
  obtain ⟨w0, hw0⟩ : ∃ x, w.alloc (.cells #[.slice A0 rs.length c0] 54) = x := ⟨_, rfl⟩
  obtain ⟨g0, hg0⟩ : ∃ g, w.heap.size = g := ⟨_, rfl⟩
  rw [hw0] at x0 b1
  rw [hg0] at x0
  have HA : Hid (∀ y, Below w.heap.size w y → Shd y y.heap.size (.agg #[.slice A0 rs.length c0]) rs) := fun y hy => h.on hy hy.size
  obtain ⟨y00, -⟩ := id x0.reads
  go_enter Tryd.func13, Tryd.ntmps13
  go_wp2_with fail
  refine (szShard_any _ rs 1048576 w0 (HA.out _ b1) HW.out (by omega) (by omega)).mono ?_
  rintro e w1 ⟨r, rfl, hr, d⟩
  replace b1 := b1.trans (d.mono b1.size)
  replace x0 := x0.later d
  clear y00 d
  obtain ⟨y00, -⟩ := id x0.reads
  rcases hr with rfl | ⟨r0, hr⟩
  · go_wp2
    go_ret
    exact .mk_ b1
  · have hsz : allSzR rs ≤ 1048576 := by omega
    have HF := hid (allSzR_fit hsz (Nat.le_refl _))
    obtain ⟨zs, hz⟩ := comOf_ex rs
    have hzl := comOf_len hz HF.out
    have HMS := hid (Nat.le_succ_of_le hsz)
    have CI : Hid (∀ x v, Below w.heap.size w x → Shd x x.heap.size v rs → Calls Tryd.prog 15 #[v] x (IntsOf zs x)) := fun x v hx hs => implShardCommitted_is er0 er1 zs v rs x hs (HEx.out x hx) HF.out hz
    have CS : Hid (∀ x v, Shd x x.heap.size v rs → Calls Tryd.prog 16 #[v] x (IntsOf zs x)) := fun x v hs => specShardCommitted_is zs v rs x hs HF.out hz
    clear hr hsz hz
    go_wp2_with fail
    refine (toShard_any _ rs w1 (HA.out _ b1) HF.out).mono ?_
    rintro e w2 ⟨v2, rfl, o2, d⟩
    have p2 := o2.shd
    replace b1 := b1.trans ((d).mono b1.size)
    replace x0 := x0.later d
    clear y00
    obtain ⟨y00, -⟩ := id x0.reads
    clear o2 d
    go_wp2_with fail
    refine (CS.out _ _ p2).mono ?_
    rintro e wS ⟨A3, c3, rfl, o3, d⟩
    have p3 := o3.row
    replace b1 := b1.trans ((d).mono b1.size)
    replace x0 := x0.later d
    clear y00
    obtain ⟨y00, -⟩ := id x0.reads
    clear o3 p2 d CS
    have HS : Hid (∀ y, Below wS.heap.size wS y → Row y y.heap.size A3 (ints zs)) := fun y hy => rowI_on p3 hy
    have sS := b1.size
    have bS := Below.refl wS.heap.size wS
    have hx0 := x0.lt
    clear p3
    go_wp2_with fail
    refine (toShard_any _ rs wS (HA.out _ b1) HF.out).mono ?_
    rintro e w5 ⟨v5, rfl, o5, d⟩
    obtain ⟨A5, c5, rfl, -, -⟩ := id o5
    unfold shV at *
    have hX0 := d.size
    replace b1 := b1.trans (d.mono b1.size)
    replace bS := bS.trans (d.mono bS.size)
    replace x0 := x0.later d
    clear y00 d
    obtain ⟨g5, hg⟩ : ∃ g, (w5).heap.size = g := ⟨_, rfl⟩
    have al := (Below.refl (w5).heap.size w5).alloc (Nat.le_refl _) (.cells #[.slice A5 rs.length c5] 25)
    have x5 := Blk1.new_ (w5) 25 (.slice A5 rs.length c5)
    obtain ⟨wX, hw'⟩ : ∃ x, (w5).alloc (.cells #[.slice A5 rs.length c5] 25) = x := ⟨_, rfl⟩
    rw [hw'] at al x5
    rw [hg] at x5
    replace b1 := b1.trans (al.mono b1.size)
    replace bS := bS.trans (al.mono bS.size)
    replace x0 := x0.later al
    have hX1 := al.size
    have pX := o5.shd.on al al.size
    have HX : Hid (∀ y, Below wX.heap.size wX y → Below w5.heap.size w5 y ∧ Shd y y.heap.size (.agg #[.slice A5 rs.length c5]) rs) := fun y hy => ⟨al.trans (hy.mono hX1), pX.on hy hy.size⟩
    have HO5 := hid o5
    have bX := Below.refl wX.heap.size wX
    clear o5 al
    obtain ⟨y00, -⟩ := id x0.reads
    obtain ⟨y50, -⟩ := id x5.reads
    go_wp2_with fail
    refine (CI.out _ _ b1 pX).mono ?_
    rintro e wG ⟨A7, c7, rfl, o7, d⟩
    replace b1 := b1.trans (d.mono b1.size)
    replace bS := bS.trans (d.mono bS.size)
    replace bX := bX.trans (d.mono bX.size)
    replace x0 := x0.later d
    replace x5 := x5.later d
    clear y00 y50 d pX
    obtain ⟨y00, -⟩ := id x0.reads
    obtain ⟨y50, -⟩ := id x5.reads
    have bG := Below.refl wG.heap.size wG
    have HO7 := hid o7
    have HG : Hid (∀ y, Below wG.heap.size wG y → Row y y.heap.size A7 (ints zs)) := fun y hy => rowI_on HO7.out.row hy
    clear o7
    go_wp2_with fail
    refine (eqIntS_ret _ _ _ _ zs _ _ _ (HG.out _ bG) (HS.out _ bS) (by unfold maxLen; omega)).mono ?_
    rintro e w8 ⟨rfl, d⟩
    replace b1 := b1.trans ((d).mono b1.size)
    replace bS := bS.trans ((d).mono bS.size)
    replace bX := bX.trans ((d).mono bX.size)
    replace bG := bG.trans ((d).mono bG.size)
    replace x0 := x0.later d
    replace x5 := x5.later d
    clear y00 y50 d
    obtain ⟨y00, -⟩ := id x0.reads
    obtain ⟨y50, -⟩ := id x5.reads
    go_wp2_with fail
    have b0 := (Below.refl w8.heap.size w8).drew
    have HH : Hid (∀ y, Below w8.heap.size w8 y → y.cell? ⟨g0, 0, none⟩ = some (.slice A0 rs.length c0) ∧ y.cell? ⟨g5, 0, none⟩ = some (.slice A5 rs.length c5)) := fun y hy => ⟨(x0.later hy).reads.1, (x5.later hy).reads.1⟩
    clear y00 y50
    refine wp_region_held_drew (S := fun y => y.cell? ⟨g0, 0, none⟩ = some (.slice A0 rs.length c0) ∧ y.cell? ⟨g5, 0, none⟩ = some (.slice A5 rs.length c5)) (by kernel_rfl) (HH.out _ b0) (fun hHeld => ?_)
    refine wpAnyH_take (i := 0) (oi := _) (v := ?_) rfl (by kernel_rfl) (by kernel_rfl) (by kernel_rfl) (fun _ _ _ h => h) (Or.inl ⟨by rfl, ?_⟩) hHeld ?_
    rotate_left
    · (intro w' hSw; (try dsimp only at hSw); go_simp <;> with_reducible rfl)
    try simp only [Act.put, List.getElem_toArray, List.getElem_cons_succ, List.getElem_cons_zero, List.setIfInBounds_toArray, List.set_cons_zero, List.set_cons_succ]
    refine wpAnyH_take (i := 1) (oi := _) (v := ?_) rfl (by kernel_rfl) (by kernel_rfl) (by kernel_rfl) (fun _ _ _ h => h) (Or.inl ⟨by rfl, ?_⟩) hHeld ?_
    rotate_left
    · (intro w' hSw; (try dsimp only at hSw); go_simp <;> with_reducible rfl)
    try simp only [Act.put, List.getElem_toArray, List.getElem_cons_succ, List.getElem_cons_zero, List.setIfInBounds_toArray, List.set_cons_zero, List.set_cons_succ]
    refine wpAnyH_ready (rs := [2]) (by kernel_rfl) (by simp) (AllReadyH.cons (o := _) rfl (fun K hK => ?_) AllReadyH.nil)
    try simp only [Act.put, List.getElem_toArray, List.getElem_cons_succ, List.getElem_cons_zero, List.setIfInBounds_toArray, List.set_cons_zero, List.set_cons_succ]
    go_simp
    go_at_call 35
    refine (toShard_any _ rs _ (HA.out _ (b1.trans (b0.mono b1.size))) HF.out).mono ?_
    rintro e w9 ⟨v9, rfl, o9, d⟩
    have p9 := o9.shd
    have b9 := b0.trans (d.mono b0.size)
    refine hK.out _ _ (HH.out _ b9) (fun hHeld => ?_)
    clear hK K
    try simp only [Act.put, List.getElem_toArray, List.getElem_cons_succ, List.getElem_cons_zero, List.setIfInBounds_toArray, List.set_cons_zero, List.set_cons_succ]
    refine wpAnyH_ready (rs := [3]) (by kernel_rfl) (by simp) (AllReadyH.cons (o := _) rfl (fun K hK => ?_) AllReadyH.nil)
    try simp only [Act.put, List.getElem_toArray, List.getElem_cons_succ, List.getElem_cons_zero, List.setIfInBounds_toArray, List.set_cons_zero, List.set_cons_succ]
    go_simp
    go_at_call 37
    refine (eqShard_is _ _ rs _ (HX.out _ (bX.trans (b9.mono bX.size))).2 p9 HF.out).mono ?_
    rintro e w10 ⟨rfl, d10⟩
    have b10 := b9.trans (d10.mono b9.size)
    refine hK.out _ _ (HH.out _ b10) (fun hHeld => ?_)
    clear hK K
    try simp only [Act.put, List.getElem_toArray, List.getElem_cons_succ, List.getElem_cons_zero, List.setIfInBounds_toArray, List.set_cons_zero, List.set_cons_succ]
    refine wpAnyH_take (i := 4) (oi := _) (v := ?_) rfl (by kernel_rfl) (by kernel_rfl) (by kernel_rfl) (fun _ _ _ h => h) (Or.inl ⟨by rfl, ?_⟩) hHeld ?_
    rotate_left
    · (intro w' hSw; (try dsimp only at hSw); go_simp <;> with_reducible rfl)
    try simp only [Act.put, List.getElem_toArray, List.getElem_cons_succ, List.getElem_cons_zero, List.setIfInBounds_toArray, List.set_cons_zero, List.set_cons_succ]
    refine wpAnyH_done (by kernel_rfl) ?_ _
    clear hHeld HH o9 p9 b9 d10 b0 d
    obtain ⟨y00, -⟩ := id x0.reads
    obtain ⟨y50, -⟩ := id x5.reads
    replace b1 := b1.trans ((b10).mono b1.size)
    replace bS := bS.trans ((b10).mono bS.size)
    replace bX := bX.trans ((b10).mono bX.size)
    replace bG := bG.trans ((b10).mono bG.size)
    replace x0 := x0.later b10
    replace x5 := x5.later b10
    clear y00 y50 b10
    obtain ⟨y00, -⟩ := id x0.reads
    obtain ⟨y50, -⟩ := id x5.reads
    obtain ⟨K, hK⟩ : ∃ K, kR 1 rs rs.length = K := ⟨_, rfl⟩
    have CM := hid (markShard_D wS.heap.size _ rs w5 w10 HO5.out (.of_below (HX.out _ bX).1 _) HF.out HMS.out)
    rw [hK] at CM
    clear hK
    have kk0 : (0 : Int) ≤ (K : Int) := by omega
    go_wp2_with fail
    refine CM.out.mono ?_
    rintro e w11 ⟨rfl, -, ha⟩
    clear CM
    have HB := ha.below (by have := bS.size; omega)
    have hx12 : wX.heap.size ≤ w11.heap.size := Nat.le_trans bX.size ha.size
    have pG : OwnI w11 wX.heap.size (.slice A7 zs.length c7) zs := Keeps.row ((Keeps.of_below bG wX.heap.size).trans (.of_only ha hX1)) HO7.out
    replace b1 := b1.trans (HB.mono sS)
    replace bS := bS.trans HB
    replace x0 := x0.below HB hx0
    clear y00 y50 HX HG HO5 HO7 x5 bX bG ha HB
    obtain ⟨y00, -⟩ := id x0.reads
    go_wp2_with fail
    refine (eqIntS_ret _ _ _ _ zs _ _ _ pG.row (HS.out _ bS) (by unfold maxLen; omega)).mono ?_
    rintro e w12 ⟨rfl, d⟩
    replace b1 := b1.trans ((d).mono b1.size)
    replace bS := bS.trans ((d).mono bS.size)
    replace x0 := x0.later d
    clear y00
    obtain ⟨y00, -⟩ := id x0.reads
    replace pG := OwnI.below pG d (Nat.le_refl _)
    replace hx12 := Nat.le_trans hx12 d.size
    obtain ⟨R, hR1, hR2⟩ := inB_of A7 w12.heap.size
    have HRR := hid (inB_lt pG hR1 hR2)
    obtain ⟨K3, hK3⟩ : ∃ K3, 1 + zs.length = K3 := ⟨_, rfl⟩
    have CM := hid (markInts_k 1 R wX.heap.size A7 c7 zs w12 pG hR1 hzl (by omega))
    have CH : Hid (∀ z, Row z z.heap.size A7 (ints (marks (1 : Nat) zs.length)) → Calls Tryd.prog 49 #[.slice A7 zs.length c7, .int .i64 1] z (Same (.int .i64 (1 + zs.length : Nat)) z)) := fun z hz => heldIntS_yes _ A7 c7 zs.length 1 z hz hzl (by omega) (by omega)
    unfold MarkedI at CM
    rw [hK3] at CM CH
    have kk3 : (0 : Int) ≤ (K3 : Int) := by omega
    clear d pG hK3
    go_wp2_with fail
    refine CM.out.mono ?_
    rintro e w13 ⟨rfl, oH, ha⟩
    have HB : Below wX.heap.size w12 w13 := ha.below (by omega) (by have := HRR.out; omega)
    have pH : Row w13 w13.heap.size A7 (ints (marks (1 : Nat) zs.length)) := oH.row
    replace b1 := b1.trans (HB.mono (by omega))
    replace bS := bS.trans (HB.mono (by omega))
    replace x0 := x0.below HB (by omega)
    clear y00 CM ha HB oH HRR hR1 hR2
    obtain ⟨y00, -⟩ := id x0.reads
    go_wp2_with fail
    refine (CH.out _ pH).mono ?_
    rintro e w14 ⟨rfl, rfl⟩
    go_wp2_with fail
    refine (toShard_any _ rs _ (HA.out _ b1) HF.out).mono ?_
    rintro e w15 ⟨v15, rfl, o15, d⟩
    have p15 := o15.shd
    replace b1 := b1.trans ((d).mono b1.size)
    replace bS := bS.trans ((d).mono bS.size)
    replace x0 := x0.later d
    clear y00
    obtain ⟨y00, -⟩ := id x0.reads
    replace pH := rowI_on pH d
    clear o15 d
    go_wp2_with fail
    refine (CI.out _ _ b1 p15).mono ?_
    rintro e w16 ⟨A9, c9, rfl, o16, d⟩
    have p16 := o16.row
    replace b1 := b1.trans ((d).mono b1.size)
    replace bS := bS.trans ((d).mono bS.size)
    replace x0 := x0.later d
    clear y00
    obtain ⟨y00, -⟩ := id x0.reads
    replace pH := rowI_on pH d
    clear o16 d p15
    go_wp2_with fail
    refine (eqIntS_ret _ _ _ _ zs _ _ _ p16 (HS.out _ bS) (by unfold maxLen; omega)).mono ?_
    rintro e w18 ⟨rfl, d⟩
    replace b1 := b1.trans ((d).mono b1.size)
    replace bS := bS.trans ((d).mono bS.size)
    replace x0 := x0.later d
    clear y00
    obtain ⟨y00, -⟩ := id x0.reads
    replace pH := rowI_on pH d
    clear d p16
    go_wp2_with fail
    refine (CH.out _ pH).mono ?_
    rintro e w19 ⟨rfl, rfl⟩
    go_wp2
    go_ret
    exact .mk_ b1
/-- The state, marked. -/
def mkSt (n m : Nat) : St := ⟨marks ((1 : Nat) : Int) n, marks ((1 + n : Nat) : Int) m⟩
theorem OwnI.stay {w w' : World} {B R n c : Nat} {A : Option Addr} {zs : List Int} (h : OwnI w B (.slice A n c) zs) (hb : But R w w') (hR : ∀ g, (Value.slice A n c).ownBlock = some g → g ≠ R) : OwnI w' B (.slice A n c) zs := by
  refine World.ownsRow.kept h hb ?_
  rcases hu : (Value.slice A n c).ownBlock with _ | q
  · exact .inl rfl
  · refine .inr fun e => ?_
    injection e with e
    exact hR q hu e
theorem inB_ne {R n c n2 c2 : Nat} {A A2 : Option Addr} {w : World} {B N : Nat} {zs : List Int} (h : OwnI w B (.slice A2 n2 c2) zs) (hI : InB A R) (hN : A = none → R = N) (hw : w.heap.size ≤ N) (hap : ∀ g, (Value.slice A n c).ownBlock = some g → (Value.slice A2 n2 c2).ownBlock ≠ some g) :
    ∀ g, (Value.slice A2 n2 c2).ownBlock = some g → g ≠ R := fun g hg e => by
  subst e
  cases A with
  | none =>
    have := (World.ownsRow.lt h g hg).2
    have := hN rfl
    omega
  | some ad =>
    refine hap g ?_ hg
    show some ad.block = some g
    rw [hI ad rfl]
set_option maxRecDepth 100000 in
set_option maxHeartbeats 4000000 in
theorem markState_D (B : Nat) (A : Option Addr) (c : Nat) (A2 : Option Addr) (c2 : Nat) (zs qs : List Int) (wx w : World) (o1 : OwnI wx B (.slice A zs.length c) zs) (o2 : OwnI wx B (.slice A2 qs.length c2) qs)
    (hap : ∀ g, (Value.slice A zs.length c).ownBlock = some g → (Value.slice A2 qs.length c2).ownBlock ≠ some g) (hb : Keeps B wx w) (h1 : zs.length ≤ 4) (h2 : qs.length ≤ 4) (hc1 : zs.length ≤ c) (hc2 : qs.length ≤ c2) :
    Calls Tryd.prog 40 #[stV A zs.length c A2 qs.length c2, .int .i64 1] w (fun e w' => e = .returned (.int .i64 (1 + zs.length + qs.length : Nat)) ∧ Stt w' w'.heap.size (stV A zs.length c A2 qs.length c2) (mkSt zs.length qs.length) ∧ OnlyBD B wx.heap.size w w') := by
  unfold stV
  have al := (Below.refl w.heap.size w).alloc (Nat.le_refl _) (.cells #[.slice A zs.length c, .slice A2 qs.length c2] 37)
  have x0 := Blk2s.new_ w 37 (.slice A zs.length c) (.slice A2 qs.length c2)
  obtain ⟨w1, hw1⟩ : ∃ x, w.alloc (.cells #[.slice A zs.length c, .slice A2 qs.length c2] 37) = x := ⟨_, rfl⟩
  have z1 : w1.heap.size = w.heap.size + 1 := by rw [← hw1]; simp
  rw [hw1] at al x0
  have kx := hb.trans (.of_below al B)
  have p1 : OwnI w1 B (.slice A zs.length c) zs := kx.row o1
  have p2 : OwnI w1 B (.slice A2 qs.length c2) qs := kx.row o2
  obtain ⟨R1, hI1, hN1⟩ := inB_of A w1.heap.size
  have q1 := inB_lt o1 hI1 hN1
  have n1 := inB_ne p2 hI1 hN1 (Nat.le_refl _) hap
  have hz := hb.1
  have C1 := hid (markInts_k 1 R1 B A c zs w1 p1 hI1 (by omega) (by omega))
  have C2 := hid (fun x R2 ho hI2 => markInts_k (1 + zs.length) R2 B A2 c2 qs x ho hI2 (by omega) (by omega))
  unfold MarkedI at C1 C2
  have HO1 := hid (fun x (b1 : But R1 w1 x) => (OnlyBD.of_below (B := B) (D := wx.heap.size) al).trans (OnlyBD.of_but b1 q1))
  have HO2 := hid o2
  have HP := hid hap
  have HN := hid n1
  obtain ⟨y0, y1, -⟩ := id x0.reads
  have HMK : Hid (∀ x, Row x x.heap.size A (ints (marks ((1 : Nat) : Int) zs.length)) → Row x x.heap.size A2 (ints (marks ((1 + zs.length : Nat) : Int) qs.length)) → Stt x x.heap.size (.agg #[.slice A zs.length c, .slice A2 qs.length c2]) (mkSt zs.length qs.length)) := fun x h3 h4 =>
    ⟨A, c, A2, c2, by unfold mkSt; simp only [marks_length]; rfl, h3, by unfold mkSt; simp only [marks_length]; omega, h4, by unfold mkSt; simp only [marks_length]; omega⟩
  have hR : w.heap.size ≠ R1 := by omega
  clear o1 o2 hap q1 n1 hc1 hc2 kx
  go_enter Tryd.func40, Tryd.ntmps40
  go_wp2_with fail
  refine C1.out.mono ?_
  rintro e w2 ⟨rfl, m2, B1⟩
  clear hw1
  obtain ⟨R2, hI2, hN2⟩ := inB_of A2 w2.heap.size
  have q2 := inB_lt HO2.out hI2 hN2
  have r2 := OwnI.stay p2 B1 HN.out
  have n2 := inB_ne m2 hI2 hN2 (Nat.le_refl _) (fun g h3 h4 => HP.out g h4 h3)
  have O1 := HO1.out _ B1
  have x2 : Blk2s w2 w.heap.size 37 (.slice A zs.length c) (.slice A2 qs.length c2) := (B1.block _ x0.lt (fun e => hR (by injection e))).trans x0
  clear y0 y1
  obtain ⟨y0, y1, -⟩ := id x2.reads
  have C3 := hid (C2.out w2 R2 r2 hI2)
  have HQ := hid q2
  have HN2 := hid n2
  clear q2 n2 C2 C1 HO2 HP HO1 p1 p2 r2 hI2 hN2 hI1 hN1
  go_wp2_with fail
  refine C3.out.mono ?_
  rintro e w3 ⟨rfl, m3, B2⟩
  have O2 := O1.trans (OnlyBD.of_but B2 HQ.out)
  have R3 := HMK.out w3 (OwnI.stay m2 B2 HN2.out).row m3.row
  go_wp2
  go_ret
  exact ⟨rfl, R3, O2⟩
set_option maxHeartbeats 2000000 in
theorem heldState_any (v : Value) (n m : Nat) (w : World) (h : Stt w w.heap.size v (mkSt n m)) (h1 : n ≤ 4) (h2 : m ≤ 4) :
    Calls Tryd.prog 41 #[v, .int .i64 1] w (Ret (.int .i64 (1 + n + m : Nat)) w) := by
  obtain ⟨A, c, A2, c2, rfl, r1, -, r2, -⟩ := h
  unfold mkSt at *
  simp only [marks_length] at *
  unfold stV
  have al := (Below.refl w.heap.size w).alloc (Nat.le_refl _) (.cells #[.slice A n c, .slice A2 m c2] 37)
  have C1 := hid (fun x (hx : Below w.heap.size w x) => heldIntS_yes x.heap.size A c n ((1 : Nat) : Int) x ((r1.below hx (Nat.le_refl _)).more hx.size) (by omega) (by omega) (by omega))
  have C2 := hid (fun x (hx : Below w.heap.size w x) => heldIntS_yes x.heap.size A2 c2 m ((1 + n : Nat) : Int) x ((r2.below hx (Nat.le_refl _)).more hx.size) (by omega) (by omega) (by omega))
  have x0 := Blk2s.new_ w 37 (.slice A n c) (.slice A2 m c2)
  obtain ⟨w1, hw1⟩ : ∃ x, w.alloc (.cells #[.slice A n c, .slice A2 m c2] 37) = x := ⟨_, rfl⟩
  rw [hw1] at al x0
  obtain ⟨y0, y1, -⟩ := id x0.reads
  have e1 : ((1 : Nat) : Int) + (n : Int) = ((1 + n : Nat) : Int) := by omega
  have e2 : ((1 + n : Nat) : Int) + (m : Int) = ((1 + n + m : Nat) : Int) := by omega
  rw [e1] at C1
  rw [e2] at C2
  obtain ⟨K1, hK1⟩ : ∃ K, 1 + n = K := ⟨_, rfl⟩
  rw [hK1] at C1 C2 ⊢
  obtain ⟨K2, hK2⟩ : ∃ K, K1 + m = K := ⟨_, rfl⟩
  rw [hK2] at C2 ⊢
  have k1 : ¬ ((K1 : Int) < 0) := by omega
  have k2 : ¬ ((K2 : Int) < 0) := by omega
  clear e1 e2 r1 r2 hK1 hK2
  go_enter Tryd.func41, Tryd.ntmps41
  go_wp2_with fail
  refine (C1.out w1 al).mono ?_
  rintro e w2 ⟨rfl, rfl⟩
  clear hw1
  go_wp2_with fail
  refine (C2.out _ al).mono ?_
  rintro e w3 ⟨rfl, rfl⟩
  go_wp2
  go_ret
  exact ⟨rfl, al⟩
theorem rcvd_len4 {rs : List Rec} {s : St} {b : Bool} (h : Rcvd rs s b) : s.refs.length ≤ 4 ∧ s.locks.length ≤ 4 := by
  rcases h with ⟨-, h1, -⟩ | ⟨-, -, rfl⟩
  · have := (Rcv.four h1).len; omega
  · exact ⟨Nat.zero_le _, Nat.zero_le _⟩
/-- A state of the call's own. -/
structure OwnS2 (w : World) (B : Nat) (A : Option Addr) (c : Nat) (A2 : Option Addr) (c2 : Nat) (s : St) : Prop where
  r : OwnI w B (.slice A s.refs.length c) s.refs
  l : OwnI w B (.slice A2 s.locks.length c2) s.locks
  ap : ∀ g, (Value.slice A s.refs.length c).ownBlock = some g → (Value.slice A2 s.locks.length c2).ownBlock ≠ some g
  cr : s.refs.length ≤ c
  cl : s.locks.length ≤ c2
theorem OwnS2.mk_ {w : World} {B c c2 : Nat} {A A2 : Option Addr} {s : St} (h1 : OwnI w B (.slice A s.refs.length c) s.refs) (h2 : OwnI w B (.slice A2 s.locks.length c2) s.locks) (h3 : ∀ g, (Value.slice A s.refs.length c).ownBlock = some g → (Value.slice A2 s.locks.length c2).ownBlock ≠ some g) : OwnS2 w B A c A2 c2 s := by
  obtain ⟨_, _, e1, -, q1⟩ := id h1.form
  obtain ⟨_, _, e2, -, q2⟩ := id h2.form
  injection e1 with _ _ e1
  injection e2 with _ _ e2
  exact ⟨h1, h2, h3, by omega, by omega⟩
theorem OwnS2.keep {w w' : World} {B c c2 : Nat} {A A2 : Option Addr} {s : St} (h : OwnS2 w B A c A2 c2 s) (k : Keeps B w w') : OwnS2 w' B A c A2 c2 s := ⟨k.row h.r, k.row h.l, h.ap, h.cr, h.cl⟩
theorem OwnS2.stt {w : World} {B c c2 : Nat} {A A2 : Option Addr} {s : St} (h : OwnS2 w B A c A2 c2 s) : Stt w w.heap.size (.agg #[.slice A s.refs.length c, .slice A2 s.locks.length c2]) s := ⟨A, c, A2, c2, rfl, h.r.row, h.cr, h.l.row, h.cl⟩
set_option linter.unusedSimpArgs false in
set_option maxRecDepth 100000 in
set_option maxHeartbeats 16000000 in
theorem exactShardRecover_any (v : Value) (rs : List Rec) (w : World) (h : Shd w w.heap.size v rs) (hq : WideR rs) (er0 er1 : Addr) (hE : Errs er0 er1 w) :
    Calls Tryd.prog 9 #[v] w (Ret (.bool true) w) := by
  have HEx : Hid (∀ y, Below w.heap.size w y → Errs er0 er1 y) := fun y hy => hE.below hy
  have HW := hid hq
  clear hq hE
  obtain ⟨A0, c0, rfl, -, -⟩ := id h
  unfold shV at *
  have x0 := Blk1.new_ w 54 (.slice A0 rs.length c0)
  have b1 := (Below.refl w.heap.size w).alloc (Nat.le_refl _) (.cells #[.slice A0 rs.length c0] 54)
  obtain ⟨w0, hw0⟩ : ∃ x, w.alloc (.cells #[.slice A0 rs.length c0] 54) = x := ⟨_, rfl⟩
  obtain ⟨g0, hg0⟩ : ∃ g, w.heap.size = g := ⟨_, rfl⟩
  rw [hw0] at x0 b1
  rw [hg0] at x0
  have HA : Hid (∀ y, Below w.heap.size w y → Shd y y.heap.size (.agg #[.slice A0 rs.length c0]) rs) := fun y hy => h.on hy hy.size
  obtain ⟨y00, -⟩ := id x0.reads
  go_enter Tryd.func9, Tryd.ntmps9
  go_wp2_with fail
  refine (szShard_any _ rs 1048576 w0 (HA.out _ b1) HW.out (by omega) (by omega)).mono ?_
  rintro e w1 ⟨r, rfl, hr, d⟩
  replace b1 := b1.trans (d.mono b1.size)
  replace x0 := x0.later d
  clear y00 d
  obtain ⟨y00, -⟩ := id x0.reads
  rcases hr with rfl | ⟨r0, hr⟩
  · go_wp2
    go_ret
    exact .mk_ b1
  · have hsz : allSzR rs ≤ 1048576 := by omega
    have HF := hid (allSzR_fit hsz (Nat.le_refl _))
    obtain ⟨s, b, hv⟩ := rcvd_ex rs
    obtain ⟨h4, h4'⟩ := rcvd_len4 hv
    have HMS := hid (Nat.le_succ_of_le hsz)
    have CI : Hid (∀ x v, Below w.heap.size w x → Shd x x.heap.size v rs → Calls Tryd.prog 20 #[v] x (NewStF s b x)) := fun x v hx hs => implShardRecover_F er0 er1 b s v rs x hs (HEx.out x hx) HF.out hv
    have CS : Hid (∀ x v, Shd x x.heap.size v rs → Calls Tryd.prog 30 #[v] x (NewStB s b x)) := fun x v hs => specShardRecover_is b s v rs x hs HF.out hv
    clear hr hsz hv
    go_wp2_with fail
    refine (toShard_any _ rs w1 (HA.out _ b1) HF.out).mono ?_
    rintro e w2 ⟨v2, rfl, o2, d⟩
    have p2 := o2.shd
    replace b1 := b1.trans ((d).mono b1.size)
    replace x0 := x0.later d
    clear y00
    obtain ⟨y00, -⟩ := id x0.reads
    clear o2 d
    go_wp2_with fail
    refine (CS.out _ _ p2).mono ?_
    rintro e w3 ⟨v3, rfl, o3, d⟩
    have p3 := o3
    obtain ⟨A3, c3, B3, k3, rfl, -, -, -, -⟩ := id p3
    unfold stV at *
    replace b1 := b1.trans ((d).mono b1.size)
    replace x0 := x0.later d
    clear y00
    obtain ⟨y00, -⟩ := id x0.reads
    clear o3 p2 d CS
    obtain ⟨g3, hg⟩ : ∃ g, (w3).heap.size = g := ⟨_, rfl⟩
    have al := (Below.refl (w3).heap.size w3).alloc (Nat.le_refl _) (.cells #[.slice A3 s.refs.length c3, .slice B3 s.locks.length k3] 37)
    have x3 := Blk2s.new_ (w3) 37 (.slice A3 s.refs.length c3) (.slice B3 s.locks.length k3)
    obtain ⟨wS, hw'⟩ : ∃ x, (w3).alloc (.cells #[.slice A3 s.refs.length c3, .slice B3 s.locks.length k3] 37) = x := ⟨_, rfl⟩
    rw [hw'] at al x3
    rw [hg] at x3
    replace b1 := b1.trans ((al).mono b1.size)
    replace x0 := x0.later al
    clear y00
    obtain ⟨y00, -⟩ := id x0.reads
    replace p3 := p3.on al al.size
    have HS : Hid (∀ y, Below wS.heap.size wS y → Stt y y.heap.size (.agg #[.slice A3 s.refs.length c3, .slice B3 s.locks.length k3]) s) := fun y hy => p3.on hy hy.size
    have sS := b1.size
    have bS := Below.refl wS.heap.size wS
    have hx3 := x3.lt
    have hx0 := x0.lt
    clear p3 al
    go_wp2_with fail
    refine (toShard_any _ rs wS (HA.out _ b1) HF.out).mono ?_
    rintro e w5 ⟨v5, rfl, o5, d⟩
    obtain ⟨A5, c5, rfl, -, -⟩ := id o5
    unfold shV at *
    have hX0 := d.size
    replace b1 := b1.trans (d.mono b1.size)
    replace bS := bS.trans (d.mono bS.size)
    replace x0 := x0.later d
    replace x3 := x3.later d
    clear y00 d
    obtain ⟨g5, hg⟩ : ∃ g, (w5).heap.size = g := ⟨_, rfl⟩
    have al := (Below.refl (w5).heap.size w5).alloc (Nat.le_refl _) (.cells #[.slice A5 rs.length c5] 25)
    have x5 := Blk1.new_ (w5) 25 (.slice A5 rs.length c5)
    obtain ⟨wX, hw'⟩ : ∃ x, (w5).alloc (.cells #[.slice A5 rs.length c5] 25) = x := ⟨_, rfl⟩
    rw [hw'] at al x5
    rw [hg] at x5
    replace b1 := b1.trans (al.mono b1.size)
    replace bS := bS.trans (al.mono bS.size)
    replace x0 := x0.later al
    replace x3 := x3.later al
    have hX1 := al.size
    have pX := o5.shd.on al al.size
    have HX : Hid (∀ y, Below wX.heap.size wX y → Below w5.heap.size w5 y ∧ Shd y y.heap.size (.agg #[.slice A5 rs.length c5]) rs) := fun y hy => ⟨al.trans (hy.mono hX1), pX.on hy hy.size⟩
    have HO5 := hid o5
    have bX := Below.refl wX.heap.size wX
    clear o5 al
    obtain ⟨y00, -⟩ := id x0.reads
    obtain ⟨y50, -⟩ := id x5.reads
    go_wp2_with fail
    refine (CI.out _ _ b1 pX).mono ?_
    rintro e w7 ⟨A7, c7, B7, k7, rfl, or7, ol7, ap7, d⟩
    have o7 := OwnS2.mk_ or7 ol7 ap7
    unfold stV at *
    clear or7 ol7 ap7
    have h7 := d.size
    replace b1 := b1.trans (d.mono b1.size)
    replace bS := bS.trans (d.mono bS.size)
    replace bX := bX.trans (d.mono bX.size)
    replace x0 := x0.later d
    replace x3 := x3.later d
    replace x5 := x5.later d
    clear y00 y50 d pX
    obtain ⟨g7, hg⟩ : ∃ g, (w7).heap.size = g := ⟨_, rfl⟩
    have al := (Below.refl (w7).heap.size w7).alloc (Nat.le_refl _) (.cells #[.slice A7 s.refs.length c7, .slice B7 s.locks.length k7] 37)
    have x7 := Blk2s.new_ (w7) 37 (.slice A7 s.refs.length c7) (.slice B7 s.locks.length k7)
    obtain ⟨wG, hw'⟩ : ∃ x, (w7).alloc (.cells #[.slice A7 s.refs.length c7, .slice B7 s.locks.length k7] 37) = x := ⟨_, rfl⟩
    rw [hw'] at al x7
    rw [hg] at x7
    replace b1 := b1.trans (al.mono b1.size)
    replace bS := bS.trans (al.mono bS.size)
    replace bX := bX.trans (al.mono bX.size)
    replace x0 := x0.later al
    replace x3 := x3.later al
    replace x5 := x5.later al
    have pG := o7.stt.on al al.size
    have zG := al.size
    have HG : Hid (∀ y, Below wG.heap.size wG y → Below w7.heap.size w7 y ∧ Stt y y.heap.size (.agg #[.slice A7 s.refs.length c7, .slice B7 s.locks.length k7]) s) := fun y hy => ⟨al.trans (hy.mono zG), pG.on hy hy.size⟩
    have HO7 := hid o7
    have bG := Below.refl wG.heap.size wG
    clear o7 al pG
    obtain ⟨y00, -⟩ := id x0.reads
    obtain ⟨y30, y31, -⟩ := id x3.reads
    obtain ⟨y50, -⟩ := id x5.reads
    obtain ⟨y70, y71, -⟩ := id x7.reads
    go_wp2_with fail
    refine (eqState_is _ _ s _ (HG.out _ bG).2 (HS.out _ bS) h4 h4').mono ?_
    rintro e w8 ⟨rfl, d⟩
    replace b1 := b1.trans ((d).mono b1.size)
    replace bS := bS.trans ((d).mono bS.size)
    replace bX := bX.trans ((d).mono bX.size)
    replace bG := bG.trans ((d).mono bG.size)
    replace x0 := x0.later d
    replace x3 := x3.later d
    replace x5 := x5.later d
    replace x7 := x7.later d
    clear y00 y30 y31 y50 y70 y71 d
    obtain ⟨y00, -⟩ := id x0.reads
    obtain ⟨y30, y31, -⟩ := id x3.reads
    obtain ⟨y50, -⟩ := id x5.reads
    obtain ⟨y70, y71, -⟩ := id x7.reads
    go_wp2_with fail
    have b0 := (Below.refl w8.heap.size w8).drew
    have HH : Hid (∀ y, Below w8.heap.size w8 y → y.cell? ⟨g0, 0, none⟩ = some (.slice A0 rs.length c0) ∧ y.cell? ⟨g5, 0, none⟩ = some (.slice A5 rs.length c5)) := fun y hy => ⟨(x0.later hy).reads.1, (x5.later hy).reads.1⟩
    clear y00 y30 y31 y50 y70 y71
    refine wp_region_held_drew (S := fun y => y.cell? ⟨g0, 0, none⟩ = some (.slice A0 rs.length c0) ∧ y.cell? ⟨g5, 0, none⟩ = some (.slice A5 rs.length c5)) (by kernel_rfl) (HH.out _ b0) (fun hHeld => ?_)
    refine wpAnyH_take (i := 0) (oi := _) (v := ?_) rfl (by kernel_rfl) (by kernel_rfl) (by kernel_rfl) (fun _ _ _ h => h) (Or.inl ⟨by rfl, ?_⟩) hHeld ?_
    rotate_left
    · (intro w' hSw; (try dsimp only at hSw); go_simp <;> with_reducible rfl)
    try simp only [Act.put, List.getElem_toArray, List.getElem_cons_succ, List.getElem_cons_zero, List.setIfInBounds_toArray, List.set_cons_zero, List.set_cons_succ]
    refine wpAnyH_take (i := 1) (oi := _) (v := ?_) rfl (by kernel_rfl) (by kernel_rfl) (by kernel_rfl) (fun _ _ _ h => h) (Or.inl ⟨by rfl, ?_⟩) hHeld ?_
    rotate_left
    · (intro w' hSw; (try dsimp only at hSw); go_simp <;> with_reducible rfl)
    try simp only [Act.put, List.getElem_toArray, List.getElem_cons_succ, List.getElem_cons_zero, List.setIfInBounds_toArray, List.set_cons_zero, List.set_cons_succ]
    refine wpAnyH_ready (rs := [2]) (by kernel_rfl) (by simp) (AllReadyH.cons (o := _) rfl (fun K hK => ?_) AllReadyH.nil)
    try simp only [Act.put, List.getElem_toArray, List.getElem_cons_succ, List.getElem_cons_zero, List.setIfInBounds_toArray, List.set_cons_zero, List.set_cons_succ]
    go_simp
    go_at_call 35
    refine (toShard_any _ rs _ (HA.out _ (b1.trans (b0.mono b1.size))) HF.out).mono ?_
    rintro e w9 ⟨v9, rfl, o9, d⟩
    have p9 := o9.shd
    have b9 := b0.trans (d.mono b0.size)
    refine hK.out _ _ (HH.out _ b9) (fun hHeld => ?_)
    clear hK K
    try simp only [Act.put, List.getElem_toArray, List.getElem_cons_succ, List.getElem_cons_zero, List.setIfInBounds_toArray, List.set_cons_zero, List.set_cons_succ]
    refine wpAnyH_ready (rs := [3]) (by kernel_rfl) (by simp) (AllReadyH.cons (o := _) rfl (fun K hK => ?_) AllReadyH.nil)
    try simp only [Act.put, List.getElem_toArray, List.getElem_cons_succ, List.getElem_cons_zero, List.setIfInBounds_toArray, List.set_cons_zero, List.set_cons_succ]
    go_simp
    go_at_call 37
    refine (eqShard_is _ _ rs _ (HX.out _ (bX.trans (b9.mono bX.size))).2 p9 HF.out).mono ?_
    rintro e w10 ⟨rfl, d10⟩
    have b10 := b9.trans (d10.mono b9.size)
    refine hK.out _ _ (HH.out _ b10) (fun hHeld => ?_)
    clear hK K
    try simp only [Act.put, List.getElem_toArray, List.getElem_cons_succ, List.getElem_cons_zero, List.setIfInBounds_toArray, List.set_cons_zero, List.set_cons_succ]
    refine wpAnyH_take (i := 4) (oi := _) (v := ?_) rfl (by kernel_rfl) (by kernel_rfl) (by kernel_rfl) (fun _ _ _ h => h) (Or.inl ⟨by rfl, ?_⟩) hHeld ?_
    rotate_left
    · (intro w' hSw; (try dsimp only at hSw); go_simp <;> with_reducible rfl)
    try simp only [Act.put, List.getElem_toArray, List.getElem_cons_succ, List.getElem_cons_zero, List.setIfInBounds_toArray, List.set_cons_zero, List.set_cons_succ]
    refine wpAnyH_done (by kernel_rfl) ?_ _
    clear hHeld HH o9 p9 b9 d10 b0 d
    obtain ⟨y00, -⟩ := id x0.reads
    obtain ⟨y30, y31, -⟩ := id x3.reads
    obtain ⟨y50, -⟩ := id x5.reads
    obtain ⟨y70, y71, -⟩ := id x7.reads
    replace b1 := b1.trans ((b10).mono b1.size)
    replace bS := bS.trans ((b10).mono bS.size)
    replace bX := bX.trans ((b10).mono bX.size)
    replace bG := bG.trans ((b10).mono bG.size)
    replace x0 := x0.later b10
    replace x3 := x3.later b10
    replace x5 := x5.later b10
    replace x7 := x7.later b10
    clear y00 y30 y31 y50 y70 y71 b10
    obtain ⟨y00, -⟩ := id x0.reads
    obtain ⟨y30, y31, -⟩ := id x3.reads
    obtain ⟨y50, -⟩ := id x5.reads
    obtain ⟨y70, y71, -⟩ := id x7.reads
    obtain ⟨K, hK⟩ : ∃ K, kR 1 rs rs.length = K := ⟨_, rfl⟩
    have CM := hid (markShard_D wS.heap.size _ rs w5 w10 HO5.out (.of_below (HX.out _ bX).1 _) HF.out HMS.out)
    rw [hK] at CM
    clear hK
    have kk0 : (0 : Int) ≤ (K : Int) := by omega
    go_wp2_with fail
    refine CM.out.mono ?_
    rintro e w11 ⟨rfl, -, ha⟩
    clear CM
    have HB := ha.below (by have := bS.size; omega)
    have HKP := hid ((Keeps.of_below (HG.out _ bG).1 wX.heap.size).trans (.of_only ha hX1))
    have pG := (OwnS2.keep HO7.out HKP.out).stt
    replace b1 := b1.trans (HB.mono sS)
    replace bS := bS.trans HB
    replace x0 := x0.below HB hx0
    replace x3 := x3.below HB hx3
    replace x7 : Blk2s w11 g7 37 (.slice A7 s.refs.length c7) (.slice B7 s.locks.length k7) := x7.only ha (by omega)
    clear y00 y30 y31 y50 y70 y71 HX HG HO5 x5 bX bG ha HB
    obtain ⟨y00, -⟩ := id x0.reads
    obtain ⟨y30, y31, -⟩ := id x3.reads
    obtain ⟨y70, y71, -⟩ := id x7.reads
    go_wp2_with fail
    refine (eqState_is _ _ s _ pG (HS.out _ bS) h4 h4').mono ?_
    rintro e w12 ⟨rfl, d⟩
    replace b1 := b1.trans ((d).mono b1.size)
    replace bS := bS.trans ((d).mono bS.size)
    replace x0 := x0.later d
    replace x3 := x3.later d
    replace x7 := x7.later d
    clear y00 y30 y31 y70 y71
    obtain ⟨y00, -⟩ := id x0.reads
    obtain ⟨y30, y31, -⟩ := id x3.reads
    obtain ⟨y70, y71, -⟩ := id x7.reads
    have HKP2 := hid (HKP.out.trans (.of_below d _))
    obtain ⟨K2, hK2⟩ : ∃ K2, 1 + s.refs.length + s.locks.length = K2 := ⟨_, rfl⟩
    have CM := hid (markState_D wX.heap.size A7 c7 B7 k7 s.refs s.locks w7 w12 HO7.out.r HO7.out.l HO7.out.ap HKP2.out h4 h4' HO7.out.cr HO7.out.cl)
    have CH : Hid (∀ z, Stt z z.heap.size (.agg #[.slice A7 s.refs.length c7, .slice B7 s.locks.length k7]) (mkSt s.refs.length s.locks.length) → Calls Tryd.prog 41 #[.agg #[.slice A7 s.refs.length c7, .slice B7 s.locks.length k7], .int .i64 1] z (Ret (.int .i64 (1 + s.refs.length + s.locks.length : Nat)) z)) := fun z hz => heldState_any _ _ _ z hz h4 h4'
    unfold stV at CM
    rw [hK2] at CM CH
    clear hK2 d pG HKP
    have kk2 : (0 : Int) ≤ (K2 : Int) := by omega
    go_wp2_with fail
    refine CM.out.mono ?_
    rintro e w13 ⟨rfl, oH, ha⟩
    have HB := ha.below (by have := HKP2.out.1; omega)
    have pH := oH
    replace b1 := b1.trans (HB.mono (by omega))
    replace bS := bS.trans (HB.mono (by omega))
    replace x0 := x0.below HB (by omega)
    replace x3 := x3.below HB (by omega)
    replace x7 : Blk2s w13 g7 37 (.slice A7 s.refs.length c7) (.slice B7 s.locks.length k7) := x7.only ha (by omega)
    clear y00 y30 y31 y70 y71 HKP2 HO7 CM ha HB oH
    obtain ⟨y00, -⟩ := id x0.reads
    obtain ⟨y30, y31, -⟩ := id x3.reads
    obtain ⟨y70, y71, -⟩ := id x7.reads
    go_wp2_with fail
    refine (CH.out _ pH).mono ?_
    rintro e w14 ⟨rfl, d⟩
    replace b1 := b1.trans ((d).mono b1.size)
    replace bS := bS.trans ((d).mono bS.size)
    replace x0 := x0.later d
    replace x3 := x3.later d
    replace x7 := x7.later d
    clear y00 y30 y31 y70 y71
    obtain ⟨y00, -⟩ := id x0.reads
    obtain ⟨y30, y31, -⟩ := id x3.reads
    obtain ⟨y70, y71, -⟩ := id x7.reads
    replace pH := pH.on d d.size
    clear d
    go_wp2_with fail
    refine (toShard_any _ rs w14 (HA.out _ b1) HF.out).mono ?_
    rintro e w15 ⟨v15, rfl, o15, d⟩
    have p15 := o15.shd
    replace b1 := b1.trans ((d).mono b1.size)
    replace bS := bS.trans ((d).mono bS.size)
    replace x0 := x0.later d
    replace x3 := x3.later d
    replace x7 := x7.later d
    clear y00 y30 y31 y70 y71
    obtain ⟨y00, -⟩ := id x0.reads
    obtain ⟨y30, y31, -⟩ := id x3.reads
    obtain ⟨y70, y71, -⟩ := id x7.reads
    replace pH := pH.on d d.size
    clear o15 d
    go_wp2_with fail
    refine (CI.out _ _ b1 p15).mono ?_
    rintro e w16 ⟨A9, c9, B9, k9, rfl, or9, ol9, ap9, d⟩
    have o16 := OwnS2.mk_ or9 ol9 ap9
    have p16 := o16.stt
    unfold stV at *
    clear or9 ol9 ap9
    replace b1 := b1.trans ((d).mono b1.size)
    replace bS := bS.trans ((d).mono bS.size)
    replace x0 := x0.later d
    replace x3 := x3.later d
    replace x7 := x7.later d
    clear y00 y30 y31 y70 y71
    obtain ⟨y00, -⟩ := id x0.reads
    obtain ⟨y30, y31, -⟩ := id x3.reads
    obtain ⟨y70, y71, -⟩ := id x7.reads
    replace pH := pH.on d d.size
    clear o16 d p15
    obtain ⟨g9, hg⟩ : ∃ g, (w16).heap.size = g := ⟨_, rfl⟩
    have al := (Below.refl (w16).heap.size w16).alloc (Nat.le_refl _) (.cells #[.slice A9 s.refs.length c9, .slice B9 s.locks.length k9] 37)
    have x9 := Blk2s.new_ (w16) 37 (.slice A9 s.refs.length c9) (.slice B9 s.locks.length k9)
    obtain ⟨w17, hw'⟩ : ∃ x, (w16).alloc (.cells #[.slice A9 s.refs.length c9, .slice B9 s.locks.length k9] 37) = x := ⟨_, rfl⟩
    rw [hw'] at al x9
    rw [hg] at x9
    replace b1 := b1.trans ((al).mono b1.size)
    replace bS := bS.trans ((al).mono bS.size)
    replace x0 := x0.later al
    replace x3 := x3.later al
    replace x7 := x7.later al
    clear y00 y30 y31 y70 y71
    obtain ⟨y00, -⟩ := id x0.reads
    obtain ⟨y30, y31, -⟩ := id x3.reads
    obtain ⟨y70, y71, -⟩ := id x7.reads
    replace pH := pH.on al al.size
    replace p16 := p16.on al al.size
    clear al
    obtain ⟨y90, y91, -⟩ := id x9.reads
    go_wp2_with fail
    refine (eqState_is _ _ s _ p16 (HS.out _ bS) h4 h4').mono ?_
    rintro e w18 ⟨rfl, d⟩
    replace b1 := b1.trans ((d).mono b1.size)
    replace bS := bS.trans ((d).mono bS.size)
    replace x0 := x0.later d
    replace x3 := x3.later d
    replace x7 := x7.later d
    clear y00 y30 y31 y70 y71
    obtain ⟨y00, -⟩ := id x0.reads
    obtain ⟨y30, y31, -⟩ := id x3.reads
    obtain ⟨y70, y71, -⟩ := id x7.reads
    replace pH := pH.on d d.size
    clear d y90 y91 x9 p16
    go_wp2_with fail
    refine (CH.out _ pH).mono ?_
    rintro e w19 ⟨rfl, d⟩
    replace b1 := b1.trans ((d).mono b1.size)
    replace bS := bS.trans ((d).mono bS.size)
    replace x0 := x0.later d
    replace x3 := x3.later d
    replace x7 := x7.later d
    clear y00 y30 y31 y70 y71
    obtain ⟨y00, -⟩ := id x0.reads
    obtain ⟨y30, y31, -⟩ := id x3.reads
    obtain ⟨y70, y71, -⟩ := id x7.reads
    go_wp2
    go_ret
    exact .mk_ b1
end Go.Proofs.YteeffchnbkkpfabDoor
