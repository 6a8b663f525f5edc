/- The coordinator with the slices $SA and $SB is stored as the answer, with the word $BB. -/
/-
  Walk of the law on parts of a shard's records.
-/
import Derived.Test.YteeffchnbkkpfaaDoorLawSh5
namespace Go.Proofs.YteeffchnbkkpfaaDoor
open Go.RowKit Wo Pu Rf Lk Sh

theorem FnRecover_no (A : Option Addr) (c : Nat) (bs : List Int) (A' : Option Addr) (c' : Nat) (bs' : List Int) (w : World) (h : Code_ w A c bs) (h' : Code_ w A' c' bs') (hl : ¬ (bs.length ≤ 1048576 ∧ bs'.length ≤ 1048576)) :
    Calls Tryd.prog 12 #[.slice A bs.length c, .slice A' bs'.length c'] w (Ret (.bool true) w) := by
  have hc := h.2.1
  have hm := h.2.2.1
  have hc' := h'.2.1
  have hm' := h'.2.2.1
  unfold maxLen at hm hm'
  by_cases h1 : bs.length ≤ 1048576
  · have h2 : ¬ bs'.length ≤ 1048576 := fun e => hl ⟨h1, e⟩
    clear hl
    go_enter Tryd.func12, Tryd.ntmps12
    go_wp2
    go_ret
    exact .mk_ (Below.refl _ _)
  · clear hl
    go_enter Tryd.func12, Tryd.ntmps12
    go_wp2
    go_ret
    exact .mk_ (Below.refl _ _)
set_option linter.unusedSimpArgs false in
set_option maxRecDepth 100000 in
set_option maxHeartbeats 8000000 in
theorem FnRecover_yes (A : Option Addr) (c : Nat) (bs : List Int) (A' : Option Addr) (c' : Nat) (bs' : List Int) (w : World) (h : Code_ w A c bs) (_h' : Code_ w A' c' bs') (hl : bs.length ≤ 1048576) (hl' : bs'.length ≤ 1048576) (er0 er1 : Addr) (HE : Hid (Errs er0 er1 w)) :
    Calls Tryd.prog 12 #[.slice A bs.length c, .slice A' bs'.length c'] w (Ret (.bool true) w) := by
  go_enter Tryd.func12, Tryd.ntmps12
  go_wp2_with fail
  refine (DrawShardValid_any A c bs _ h).mono ?_
  rintro e w1 ⟨v1, rs, rfl, s1, hrl, hs, bw⟩
  obtain ⟨A1, c1, rfl, r1, hc1⟩ := s1
  unfold shV
  obtain ⟨b, hv⟩ := bool_ofP (Vld rs)
  have HV := hid hv
  have HSM := hid hs
  have CS := hid (specShardValid_is b · rs · · (hs.fit (by omega)) hv)
  have CI := hid (implShardValid_is er0 er1 b · rs · · · (hs.fit (by omega)) hv)
  clear hv hs
  go_upto_region 4 with fail
  have al := (Below.refl (w1).heap.size w1).alloc (Nat.le_refl _) (.cells #[.slice A1 rs.length c1] 25)
  have xn := Blk1.new_ w1 25 (.slice A1 rs.length c1)
  obtain ⟨w2, hw'⟩ : ∃ x, (w1).alloc (.cells #[.slice A1 rs.length c1] 25) = x := ⟨_, rfl⟩
  rw [hw'] at al xn ⊢
  clear hw'
  have x1 := xn
  have r2 := r1.on al
  obtain ⟨y1, -⟩ := id x1.reads
  have b2 := bw.trans (al.mono bw.size)
  clear xn al r1 bw
  go_wp2_with fail
  refine (CI.out _ w2 ⟨A1, c1, rfl, r2, hc1⟩ (HE.out.below b2)).mono ?_
  rintro e w3 ⟨rfl, d3⟩
  have r3 := r2.on d3
  replace x1 := x1.later d3
  have b3 := b2.trans (d3.mono b2.size)
  clear y1
  obtain ⟨y1, -⟩ := id x1.reads
  clear r2 b2 d3 CI
  go_wp2_with fail
  refine (CS.out _ w3 ⟨A1, c1, rfl, r3, hc1⟩).mono ?_
  rintro e w4 ⟨rfl, d4⟩
  have r4 := r3.on d4
  replace x1 := x1.later d4
  have b4 := b3.trans (d4.mono b3.size)
  clear y1
  obtain ⟨y1, -⟩ := id x1.reads
  clear r3 b3 d4 CS
  cases b with
  | false =>
    go_wp2
    go_ret
    exact .mk_ b4
  | true =>
    obtain ⟨m, hm⟩ : ∃ m : Nat, bs'.length % (rs.length + 1) = m := ⟨_, rfl⟩
    have hmi : (bs'.length : Int) % ((rs.length : Int) + 1) = (m : Int) := by rw [← hm, Int.natCast_emod, Int.natCast_add]; rfl
    have hml : m ≤ rs.length := by rw [← hm]; have := Nat.mod_lt bs'.length (show 0 < rs.length + 1 by omega); omega
    have HVV := hid (HV.out.1 rfl)
    have q0 : (0 : Int) ≤ (m : Int) := by omega
    have q1 : (m : Int) ≤ (rs.length : Int) := by omega
    have q2 : (m : Int) ≤ (c1 : Int) := by omega
    have q3 : (rs.length : Int) ≤ (c1 : Int) := by omega
    have hwr : IntKind.i64.wrap ((rs.length : Int) + 1) = (rs.length : Int) + 1 := IntWalk.i64_in _ (by omega)
    have hne : ((rs.length : Int) + 1 = 0) = False := by simp only [eq_iff_iff, iff_false]; omega
    have htm : (bs'.length : Int).tmod ((rs.length : Int) + 1) = (m : Int) := by rw [Int.tmod_eq_emod_of_nonneg (by omega)]; exact hmi
    clear hm hmi
    go_wp2_with fail
    have HKP : Hid (∀ x, Below w4.heap.size w4 x → x.cell? ⟨w1.heap.size, 0, none⟩ = some (.slice A1 rs.length c1)) := fun x hx => (x1.later hx).reads.1
    have Dwd := (Below.refl w4.heap.size w4).drew
    refine wp_region_held_drew (S := fun x => x.cell? ⟨w1.heap.size, 0, none⟩ = some (.slice A1 rs.length c1)) (by kernel_rfl) (HKP.out _ Dwd) (fun hHeld => ?_)
    obtain ⟨wd, hwd⟩ : ∃ wd, w4.drew = wd := ⟨_, rfl⟩
    rw [hwd] at hHeld Dwd ⊢
    clear hwd y1
    refine wpAnyH_take (i := 0) (oi := _) (v := ?_) rfl (by kernel_rfl) (by kernel_rfl) (by kernel_rfl) (fun _ _ _ h => h) (Or.inl ⟨by rfl, ?_⟩) hHeld ?_
    rotate_left
    · (intro w' hSw; (try dsimp only at hSw); go_simp <;> with_reducible rfl)
    try simp only [Act.put, List.getElem_toArray, List.getElem_cons_succ, List.getElem_cons_zero, List.setIfInBounds_toArray, List.set_cons_zero, List.set_cons_succ]
    refine wpAnyH_take (i := 1) (oi := _) (v := ?_) rfl (by kernel_rfl) (by kernel_rfl) (by kernel_rfl) (fun _ _ _ h => h) (Or.inl ⟨by rfl, ?_⟩) hHeld ?_
    rotate_left
    · (intro w' hSw; (try dsimp only at hSw); go_simp <;> with_reducible rfl)
    try simp only [Act.put, List.getElem_toArray, List.getElem_cons_succ, List.getElem_cons_zero, List.setIfInBounds_toArray, List.set_cons_zero, List.set_cons_succ]
    refine wpAnyH_take (i := 2) (oi := _) (v := ?_) rfl (by kernel_rfl) (by kernel_rfl) (by kernel_rfl) (fun _ _ _ h => h) (Or.inl ⟨by rfl, ?_⟩) hHeld ?_
    rotate_left
    · (intro w' hSw; (try dsimp only at hSw); go_simp <;> with_reducible rfl)
    try simp only [Act.put, List.getElem_toArray, List.getElem_cons_succ, List.getElem_cons_zero, List.setIfInBounds_toArray, List.set_cons_zero, List.set_cons_succ]
    refine wpAnyH_take (i := 3) (oi := _) (v := ?_) rfl (by kernel_rfl) (by kernel_rfl) (by kernel_rfl) (fun _ _ _ h => h) (Or.inl ⟨by rfl, ?_⟩) hHeld ?_
    rotate_left
    · (intro w' hSw; (try dsimp only at hSw); go_simp <;> with_reducible rfl)
    try simp only [Act.put, List.getElem_toArray, List.getElem_cons_succ, List.getElem_cons_zero, List.setIfInBounds_toArray, List.set_cons_zero, List.set_cons_succ]
    refine wpAnyH_take (i := 4) (oi := _) (v := ?_) rfl (by kernel_rfl) (by kernel_rfl) (by kernel_rfl) (fun _ _ _ h => h) (Or.inl ⟨by rfl, ?_⟩) hHeld ?_
    rotate_left
    · (intro w' hSw; (try dsimp only at hSw); go_simp <;> with_reducible rfl)
    try simp only [Act.put, List.getElem_toArray, List.getElem_cons_succ, List.getElem_cons_zero, List.setIfInBounds_toArray, List.set_cons_zero, List.set_cons_succ]
    refine wpAnyH_take (i := 5) (oi := _) (v := ?_) rfl (by kernel_rfl) (by kernel_rfl) (by kernel_rfl) (fun _ _ _ h => h) (Or.inl ⟨by rfl, ?_⟩) hHeld ?_
    rotate_left
    · (intro w' hSw; (try dsimp only at hSw); go_simp <;> with_reducible rfl)
    try simp only [Act.put, List.getElem_toArray, List.getElem_cons_succ, List.getElem_cons_zero, List.setIfInBounds_toArray, List.set_cons_zero, List.set_cons_succ]
    refine wpAnyH_take (i := 6) (oi := _) (v := ?_) rfl (by kernel_rfl) (by kernel_rfl) (by kernel_rfl) (fun _ _ _ h => h) (Or.inl ⟨by rfl, ?_⟩) hHeld ?_
    rotate_left
    · (intro w' hSw; (try dsimp only at hSw); go_simp <;> with_reducible rfl)
    try simp only [Act.put, List.getElem_toArray, List.getElem_cons_succ, List.getElem_cons_zero, List.setIfInBounds_toArray, List.set_cons_zero, List.set_cons_succ]
    refine wpAnyH_take (i := 7) (oi := _) (v := ?_) rfl (by kernel_rfl) (by kernel_rfl) (by kernel_rfl) (fun _ _ _ h => h) (Or.inl ⟨by rfl, ?_⟩) hHeld ?_
    rotate_left
    · (intro w' hSw; (try dsimp only at hSw); go_simp <;> with_reducible rfl)
    try simp only [Act.put, List.getElem_toArray, List.getElem_cons_succ, List.getElem_cons_zero, List.setIfInBounds_toArray, List.set_cons_zero, List.set_cons_succ]
    refine wpAnyH_take (i := 8) (oi := _) (v := ?_) rfl (by kernel_rfl) (by kernel_rfl) (by kernel_rfl) (fun _ _ _ h => h) (Or.inl ⟨by rfl, ?_⟩) hHeld ?_
    rotate_left
    · (intro w' hSw; (try dsimp only at hSw); go_simp <;> with_reducible rfl)
    try simp only [Act.put, List.getElem_toArray, List.getElem_cons_succ, List.getElem_cons_zero, List.setIfInBounds_toArray, List.set_cons_zero, List.set_cons_succ]
    refine wpAnyH_take (i := 9) (oi := _) (v := ?_) rfl (by kernel_rfl) (by kernel_rfl) (by kernel_rfl) (fun _ _ _ h => h) (Or.inl ⟨by rfl, ?_⟩) hHeld ?_
    rotate_left
    · (intro w' hSw; (try dsimp only at hSw); go_simp <;> with_reducible rfl)
    try simp only [Act.put, List.getElem_toArray, List.getElem_cons_succ, List.getElem_cons_zero, List.setIfInBounds_toArray, List.set_cons_zero, List.set_cons_succ]
    refine wpAnyH_take (i := 10) (oi := _) (v := ?_) rfl (by kernel_rfl) (by kernel_rfl) (by kernel_rfl) (fun _ _ _ h => h) (Or.inl ⟨by rfl, ?_⟩) hHeld ?_
    rotate_left
    · (intro w' hSw; (try dsimp only at hSw); go_simp <;> with_reducible rfl)
    try simp only [Act.put, List.getElem_toArray, List.getElem_cons_succ, List.getElem_cons_zero, List.setIfInBounds_toArray, List.set_cons_zero, List.set_cons_succ]
    refine wpAnyH_ready (rs := [11]) (by kernel_rfl) (by simp) (AllReadyH.cons (o := _) rfl (fun K hK => ?_) AllReadyH.nil)
    try simp only [Act.put, List.getElem_toArray, List.getElem_cons_succ, List.getElem_cons_zero, List.setIfInBounds_toArray, List.set_cons_zero, List.set_cons_succ]
    go_simp
    have al := (Below.refl wd.heap.size wd).alloc (Nat.le_refl _) (.cells #[.slice none 0 0] 25)
    have x8 := Blk1.new_ wd 25 (.slice none 0 0)
    have D8 := Dwd.trans (al.mono Dwd.size)
    obtain ⟨wx, hwx⟩ : ∃ wx, wd.alloc (.cells #[.slice none 0 0] 25) = wx := ⟨_, rfl⟩
    rw [hwx] at D8 x8 ⊢
    clear hwx al
    refine hK.out _ _ (HKP.out _ D8) (fun hHeld => ?_)
    clear hK K
    try simp only [Act.put, List.getElem_toArray, List.getElem_cons_succ, List.getElem_cons_zero, List.setIfInBounds_toArray, List.set_cons_zero, List.set_cons_succ]
    obtain ⟨t0, tf⟩ := id x8.reads
    have tf0 := tf 0
    clear tf
    refine wpAnyH_ready (rs := [12]) (by kernel_rfl) (by simp) (AllReadyH.cons (o := _) rfl (fun K hK => ?_) AllReadyH.nil)
    try simp only [Act.put, List.getElem_toArray, List.getElem_cons_succ, List.getElem_cons_zero, List.setIfInBounds_toArray, List.set_cons_zero, List.set_cons_succ]
    go_simp
    have D9 := D8.setCell (p := ⟨wd.heap.size, 0, none⟩) Dwd.size (.slice A1 m c1)
    have x9 := x8.set0 (.slice A1 m c1)
    refine hK.out _ _ (HKP.out _ D9) (fun hHeld => ?_)
    clear hK K
    try simp only [Act.put, List.getElem_toArray, List.getElem_cons_succ, List.getElem_cons_zero, List.setIfInBounds_toArray, List.set_cons_zero, List.set_cons_succ]
    refine wpAnyH_done (by kernel_rfl) ?_ _
    obtain ⟨W9, hW9⟩ : ∃ W9, wx.setCell ⟨wd.heap.size, 0, none⟩ (.slice A1 m c1) = W9 := ⟨_, rfl⟩
    rw [hW9] at D9 x9 ⊢
    have b9 := b4.trans (D9.mono b4.size)
    have hml2 : (rs.take m).length = m := by rw [List.length_take]; omega
    have r9 := (r4.on D9).take_ m
    clear hHeld HKP Dwd D8 t0 tf0 x8 hW9 r4 x1 b4 D9
    obtain ⟨s, hs⟩ : ∃ s, Rcv (rs.take m) s := by
      obtain ⟨⟨s9, h9⟩, -⟩ := HVV.out
      rw [← List.take_append_drop m rs] at h9
      exact h9.pre
    have HS := hid hs
    have H4 := hid (Rcv.four hs)
    have h30 : (rs.take m).length ≤ 30 := by have := HVV.out.2; omega
    have HSh : Hid (∀ x, Below W9.heap.size W9 x → Shd x x.heap.size (.agg #[.slice A1 m c1]) (rs.take m)) := fun x hx => ⟨A1, c1, by rw [hml2]; rfl, r9.on hx, by omega⟩
    have HE9 : Hid (∀ x, Below W9.heap.size W9 x → Errs er0 er1 x) := fun x hx => HE.out.below (b9.trans (hx.mono b9.size))
    have HFt : Hid (FitR (rs.take m)) := (HSM.out.fit (by omega)).take m
    have C1 := hid (implShardRecover_is er0 er1 true s _ (rs.take m) W9 (HSh.out _ (Below.refl _ _)) (HE9.out _ (Below.refl _ _)) HFt.out (.inl ⟨rfl, hs, h30⟩))
    obtain ⟨y0, -⟩ := id x9.reads
    have H30 := hid h30
    clear hs r9 hml2 h30
    go_wp2_with fail
    refine C1.out.mono ?_
    rintro e w10 ⟨v10, rfl, sa, d10⟩
    obtain ⟨Ba, ca, Bb, cb, rfl, -⟩ := id sa
    unfold stV
    go_upto_region 10 with fail
    have al := (Below.refl (w10).heap.size w10).alloc (Nat.le_refl _) (.cells #[.slice Ba s.refs.length ca, .slice Bb s.locks.length cb] 35)
    have xn := Blk2s.new_ w10 35 (.slice Ba s.refs.length ca) (.slice Bb s.locks.length cb)
    obtain ⟨w11, hw'⟩ : ∃ x, (w10).alloc (.cells #[.slice Ba s.refs.length ca, .slice Bb s.locks.length cb] 35) = x := ⟨_, rfl⟩
    rw [hw'] at al xn ⊢
    clear hw'
    have d11 := d10.trans (al.mono d10.size)
    have xa := xn
    replace sa := sa.on al al.size
    have bw := b9.trans (d11.mono b9.size)
    replace x9 := x9.later d11
    clear xn al C1 y0 d10 b9
    go_wp2_with fail
    go_loopw [11] (fun i wr => ∃ k : Nat, k ≤ 4 ∧ i = .int .i64 k ∧ Below w11.heap.size w11 wr) (fun i _ => 4 - (intOf i).toNat)
    case atStart => exact ⟨0, Nat.zero_le _, rfl, Below.refl _ _⟩
    case round =>
      obtain ⟨k, hk, rfl, hb⟩ := hrel
      obtain ⟨p0, p1, -⟩ := id (xa.later hb).reads
      obtain ⟨y0, -⟩ := id (x9.later hb).reads
      have hll : Hid (s.locks.length = 4) := H4.out.len.2
      have zk := hb.size
      by_cases hlt : k < 4
      · have m2 : k < s.locks.length := by rw [hll.out]; exact hlt
        obtain ⟨ad, e1, had, hc2⟩ := (sa.on hb zk).rows.2.int_ m2
        obtain ⟨z, hz⟩ : ∃ z, s.locks[k] = z := ⟨_, rfl⟩
        have HO : Hid (0 ≤ z → TV z ∧ Sh.ask (rs.take m) z = 1) := fun h0 => by
          rcases HS.out.inv.owner k z (by rw [List.getElem?_eq_getElem m2, hz]) with e | ⟨e, -⟩
          · omega
          · exact ⟨(HS.out.inv.prep z e).1, e⟩
        rw [hz] at hc2
        subst e1
        have k0 : (0 : Int) ≤ (k : Int) := by omega
        have k1 : (k : Int) < (s.locks.length : Int) := by omega
        have G0 := Later.cell p1 (B := wr.heap.size) (Nat.lt_of_lt_of_le xa.lt zk)
        have G1 := Later.cell y0 (B := wr.heap.size) (Nat.lt_of_lt_of_le x9.lt zk)
        have G2 := Later.cell hc2 (B := wr.heap.size) (by rw [add_block]; exact had)
        clear hz
        by_cases h0 : 0 ≤ z
        · have e0 : decide (0 ≤ z) = true := decide_eq_true h0
          have C1 := hid fun x : Later wr.heap.size wr => implShardAsk_is er0 er1 1 _ (rs.take m) z x.w (HSh.out x.w (d11.trans ((hb.trans (x.h.mono zk)).mono d11.size))) (HE9.out x.w (d11.trans ((hb.trans (x.h.mono zk)).mono d11.size))) HFt.out (.inl ⟨⟨⟨_, HS.out⟩, H30.out⟩, (HO.out h0).1, (HO.out h0).2.symm⟩)
          clear h0
          go_wp2_with fail
          refine wp_region_later wr.heap.size (by kernel_rfl) (by kernel_rfl) ?_
          repeat (go_big_quiet_step ((go_at_call 22; with_reducible exact Later.call (Nat.le_refl _) _ (C1.out _))))
          refine wpQuiet_nil ?_
          intro _ hw'
          obtain ⟨xx, hxx⟩ := hw'
          have hbx := xx.b
          subst hxx
          go_wp2
          go_roundw
          case rel => exact ⟨k + 1, by omega, by go_num, hb.trans (hbx.mono zk)⟩
          case measure => simp [intOf]; omega
        · have e0 : decide (0 ≤ z) = false := decide_eq_false h0
          clear h0
          go_wp2_with fail
          refine wp_region_later wr.heap.size (by kernel_rfl) (by kernel_rfl) ?_
          repeat (go_big_quiet_step (fail))
          refine wpQuiet_nil ?_
          intro _ hw'
          obtain ⟨xx, hxx⟩ := hw'
          have hbx := xx.b
          subst hxx
          go_wp2
          go_roundw
          case rel => exact ⟨k + 1, by omega, by go_num, hb.trans (hbx.mono zk)⟩
          case measure => simp [intOf]; omega
      · have hk' : k = 4 := by omega
        have e4 : ((s.locks.length : Int) == 4) = true := by rw [hll.out]; rfl
        have q9 : ¬ (k : Int) < (s.locks.length : Int) := by rw [hll.out]; omega
        clear hlt
        go_wp2
        go_ret
        exact .mk_ (bw.trans (hb.mono bw.size))
theorem FnRecover_any (A : Option Addr) (c : Nat) (bs : List Int) (A' : Option Addr) (c' : Nat) (bs' : List Int) (w : World) (f1 : Row w w.heap.size A (bs.map (Value.int .u8))) (f2 : bs.length ≤ c) (f3 : c ≤ maxLen) (f4 : ∀ n ∈ bs, 0 ≤ n ∧ n < 256) (g1 : Row w w.heap.size A' (bs'.map (Value.int .u8))) (g2 : bs'.length ≤ c') (g3 : c' ≤ maxLen) (g4 : ∀ n ∈ bs', 0 ≤ n ∧ n < 256) (er0 er1 : Addr) (hE : Errs er0 er1 w) :
    Calls Tryd.prog 12 #[.slice A bs.length c, .slice A' bs'.length c'] w (Ret (.bool true) w) := by
  by_cases hl : bs.length ≤ 1048576 ∧ bs'.length ≤ 1048576
  · exact FnRecover_yes A c bs A' c' bs' w ⟨f1, f2, f3, f4⟩ ⟨g1, g2, g3, g4⟩ hl.1 hl.2 er0 er1 hE
  · exact FnRecover_no A c bs A' c' bs' w ⟨f1, f2, f3, f4⟩ ⟨g1, g2, g3, g4⟩ hl
end Go.Proofs.YteeffchnbkkpfaaDoor
