/-
  Walk: what is missing in a quarantine, by the program.
-/
import Derived.Test.YtblknnifccmpkaaQuarB
import Derived.Deep.RegionHeld3
namespace Go.Proofs.Ytblknnifccmpkaa
open Go.RowKit Wo Pu Qu

/- From the look-up on: the area os is merged with the store, and what is missing is told. -/
set_option linter.unusedSimpArgs false in
set_option maxRecDepth 100000 in
set_option maxHeartbeats 8000000 in
theorem implQuarantineMissing_is (v : Value) (q : Qr) (t : Int) (A3 : Option Addr) (c3 : Nat) (fr : List Int) (w : World) (h : Quar w w.heap.size v q) (hf : FitQ q) (hfr : Row w w.heap.size A3 (ints fr)) (hfl : fr.length ≤ 1048576) :
    Calls Try.prog 37 #[v, .int .i64 t, .slice A3 fr.length c3] w (Missed q t fr w) := by
  have hq0 := h
  obtain ⟨A, c, A2, c2, rfl, hm0, hmc, ha0, hac⟩ := h
  obtain ⟨bq, hbq⟩ := bool_of' (QV q)
  obtain ⟨bt, hbt⟩ := bool_of' (TxnV t)
  have CV : Hid (∀ x, Quar x x.heap.size (qv A q.m.length c A2 q.rs.length c2) q → Calls Try.prog 29 #[.agg #[.slice A q.m.length c, .slice A2 q.rs.length c2]] x (Ret (.bool bq) x)) := fun x hx => implQuarantineValid_is bq _ q x hx hf hbq
  have CT : Hid (∀ x, Calls Try.prog 60 #[.int .i64 t] x (Same (.bool bt) x)) := fun x => txnQ_is bt t x hbt
  unfold qv
  go_enter Try.func37, Try.ntmps37
  obtain ⟨w1, hw1⟩ : ∃ w1, w.alloc (.cells #[.slice A q.m.length c, .slice A2 q.rs.length c2] 26) = w1 := ⟨_, rfl⟩
  have b1 := (Below.refl w.heap.size w).alloc (Nat.le_refl _) (.cells #[.slice A q.m.length c, .slice A2 q.rs.length c2] 26)
  have x1 := BlkQ.new_ w 26 (.slice A q.m.length c) (.slice A2 q.rs.length c2)
  rw [hw1] at b1 x1
  have hq1 := hq0.on b1 b1.size
  obtain ⟨y0, y1, -⟩ := id x1.reads
  go_wp2_with fail
  refine (CV.out _ hq1).mono ?_
  rintro e w2 ⟨rfl, d2⟩
  have b2 := b1.trans (d2.mono b1.size)
  have x2 := x1.later d2
  clear hw1 hq1 d2 x1 b1 y0 y1 CV
  cases bq with
  | false =>
    have NO : Hid (¬ MisOk q t fr) := fun e => by have := hbq.2 e.1; cases this
    clear hbq hbt CT
    have HB9 := b2
    go_wp2_with fail
    go_ret
    exact ⟨[], qmis_nil NO.out, _, rfl, .nil_new HB9.size, HB9.alloc HB9.size _⟩
  | true =>
    have HQ := hid (hbq.1 rfl)
    clear hbq
    go_wp2_with fail
    refine (CT.out _).mono ?_
    rintro e w3 ⟨rfl, rfl⟩
    cases bt with
    | false =>
      have NO : Hid (¬ MisOk q t fr) := fun e => by have := hbt.2 e.2.1; cases this
      clear hbt CT
      have HB9 := b2
      go_wp2_with fail
      go_ret
      exact ⟨[], qmis_nil NO.out, _, rfl, .nil_new HB9.size, HB9.alloc HB9.size _⟩
    | true =>
      have HT := hid (hbt.1 rfl)
      clear hbt CT
      have rf2 := (hfr.below b2 (Nat.le_refl _)).more b2.size
      have CI := hid (idsValid_any _ A3 c3 fr w2 rf2 (by unfold maxLen; omega))
      obtain ⟨bl, hbl⟩ : ∃ bl, linksB fr = bl := ⟨_, rfl⟩
      rw [hbl] at CI
      go_wp2_with fail
      refine CI.out.mono ?_
      rintro e w3 ⟨rfl, rfl⟩
      cases bl with
      | false =>
        have NO : Hid (¬ MisOk q t fr) := fun e => by have := e.2.2; rw [hbl] at this; cases this
        clear CI hbl
        have HB9 := b2
        go_wp2_with fail
        go_ret
        exact ⟨[], qmis_nil NO.out, _, rfl, .nil_new HB9.size, HB9.alloc HB9.size _⟩
      | true =>
        have OK : Hid (MisOk q t fr) := ⟨HQ.out, HT.out, hbl⟩
        have HF := hid (linksB_parts hbl).1
        have h4 : fr.length ≤ 4 := (linksB_parts hbl).2
        have hml := (storeB_parts HQ.out.1).2
        have b2d : Below w.heap.size w w2.drew := b2.drew
        have x2d : BlkQ w2.drew w.heap.size 26 (.slice A q.m.length c) (.slice A2 q.rs.length c2) := x2
        have x2l := x2d.lt
        have HKP : Hid (∀ x, Below w2.drew.heap.size w2.drew x → x.cell? ⟨w.heap.size, 0, none⟩ = some (.slice A q.m.length c) ∧ x.cell? ⟨w.heap.size, 1, none⟩ = some (.slice A2 q.rs.length c2)) := fun x hb => ⟨(x2d.later hb).reads.1, (x2d.later hb).reads.2.1⟩
        have CM := hid (areasByTxn_any A2 c2 q.rs w2.drew ((ha0.below b2d (Nat.le_refl _)).more b2d.size) (hid HQ.out.2.1) hf.2.2.1)
        obtain ⟨y0, y1, -⟩ := id x2.reads
        clear CI hbl
        go_wp2_with fail
        refine wp_region_held_drew (S := fun w' => w'.cell? ⟨w.heap.size, 0, none⟩ = some (.slice A q.m.length c) ∧ w'.cell? ⟨w.heap.size, 1, none⟩ = some (.slice A2 q.rs.length c2)) (by kernel_rfl) ⟨y0, y1⟩ (fun hHeld => ?_)
        refine wpAnyH_take (i := 0) (oi := _) (v := ?_) rfl (by kernel_rfl) (by kernel_rfl) (by kernel_rfl) (fun _ _ _ h => h) (Or.inl ⟨by rfl, ?_⟩) hHeld ?_
        rotate_left
        · (intro w' hSw; (try dsimp only at hSw); go_simp <;> with_reducible rfl)
        try simp only [Act.put, List.getElem_toArray, List.getElem_cons_succ, List.getElem_cons_zero, List.setIfInBounds_toArray, List.set_cons_zero, List.set_cons_succ]
        refine wpAnyH_take (i := 1) (oi := _) (v := ?_) rfl (by kernel_rfl) (by kernel_rfl) (by kernel_rfl) (fun _ _ _ h => h) (Or.inl ⟨by rfl, ?_⟩) hHeld ?_
        rotate_left
        · (intro w' hSw; (try dsimp only at hSw); go_simp <;> with_reducible rfl)
        try simp only [Act.put, List.getElem_toArray, List.getElem_cons_succ, List.getElem_cons_zero, List.setIfInBounds_toArray, List.set_cons_zero, List.set_cons_succ]
        refine wpAnyH_take (i := 2) (oi := _) (v := ?_) rfl (by kernel_rfl) (by kernel_rfl) (by kernel_rfl) (fun _ _ _ h => h) (Or.inl ⟨by rfl, ?_⟩) hHeld ?_
        rotate_left
        · (intro w' hSw; (try dsimp only at hSw); go_simp <;> with_reducible rfl)
        try simp only [Act.put, List.getElem_toArray, List.getElem_cons_succ, List.getElem_cons_zero, List.setIfInBounds_toArray, List.set_cons_zero, List.set_cons_succ]
        refine wpAnyH_take (i := 3) (oi := _) (v := ?_) rfl (by kernel_rfl) (by kernel_rfl) (by kernel_rfl) (fun _ _ _ h => h) (Or.inl ⟨by rfl, ?_⟩) hHeld ?_
        rotate_left
        · (intro w' hSw; (try dsimp only at hSw); go_simp <;> with_reducible rfl)
        try simp only [Act.put, List.getElem_toArray, List.getElem_cons_succ, List.getElem_cons_zero, List.setIfInBounds_toArray, List.set_cons_zero, List.set_cons_succ]
        refine wpAnyH_take (i := 5) (oi := _) (v := ?_) rfl (by kernel_rfl) (by kernel_rfl) (by kernel_rfl) (fun _ _ _ h => h) (Or.inl ⟨by rfl, ?_⟩) hHeld ?_
        rotate_left
        · (intro w' hSw; (try dsimp only at hSw); go_simp <;> with_reducible rfl)
        try simp only [Act.put, List.getElem_toArray, List.getElem_cons_succ, List.getElem_cons_zero, List.setIfInBounds_toArray, List.set_cons_zero, List.set_cons_succ]
        refine wpAnyH_take (i := 8) (oi := _) (v := ?_) rfl (by kernel_rfl) (by kernel_rfl) (by kernel_rfl) (fun _ _ _ h => h) (Or.inl ⟨by rfl, ?_⟩) hHeld ?_
        rotate_left
        · (intro w' hSw; (try dsimp only at hSw); go_simp <;> with_reducible rfl)
        try simp only [Act.put, List.getElem_toArray, List.getElem_cons_succ, List.getElem_cons_zero, List.setIfInBounds_toArray, List.set_cons_zero, List.set_cons_succ]
        refine wpAnyH_ready (rs := [4]) (by kernel_rfl) (by simp) (AllReadyH.cons (o := _) rfl (fun K hK => ?_) AllReadyH.nil)
        try simp only [Act.put, List.getElem_toArray, List.getElem_cons_succ, List.getElem_cons_zero, List.setIfInBounds_toArray, List.set_cons_zero, List.set_cons_succ]
        go_simp
        go_at_call 62
        refine CM.out.mono ?_
        rintro e w3 ⟨b, rfl, M3, hb3, d3⟩
        have b3 := b2d.trans (d3.mono b2d.size)
        have hwt := wfT_txn HT.out
        have HGQ := hid (GQ.of HQ.out.2.1)
        refine hK.out _ _ (HKP.out _ d3) (fun hHeld => ?_)
        clear hK K
        try simp only [Act.put, List.getElem_toArray, List.getElem_cons_succ, List.getElem_cons_zero, List.setIfInBounds_toArray, List.set_cons_zero, List.set_cons_succ]
        obtain ⟨f, hq, hf'⟩ := M3
        have hlk := hq.look Try.underlying78 (zeroObs _) hwt
        rcases hf' t with ⟨e1, e2⟩ | ⟨os, A5, c5, e2, e1, e3, e4⟩
        · have HA : Hid (arOf q.rs t = []) := arOf_no (gOf_none.1 e2)
          have HSO : Hid (storeB ([] : List Ob) = true) := rfl
          have CX := hid (mergeObjects_any A none c 0 q.m [] w3 ((hm0.below b3 (Nat.le_refl _)).more b3.size) (.inl rfl) (hid HQ.out.1) HSO)
          rw [e1] at hlk
          replace hlk : (Instr.lookup 78 (.map (some b)) (.int .i64 t) false).run Try.prog w3 = .ok (.slice none 0 0) w3 := hlk
          clear hf' hq e1 e2 CM
          refine wpAnyH_ready (rs := [6]) (by kernel_rfl) (by simp) (AllReadyH.cons (o := _) rfl (fun K hK => ?_) AllReadyH.nil)
          try simp only [Act.put, List.getElem_toArray, List.getElem_cons_succ, List.getElem_cons_zero, List.setIfInBounds_toArray, List.set_cons_zero, List.set_cons_succ]
          go_simp
          refine hK.out _ _ (HKP.out _ d3) (fun hHeld => ?_)
          clear hK K
          try simp only [Act.put, List.getElem_toArray, List.getElem_cons_succ, List.getElem_cons_zero, List.setIfInBounds_toArray, List.set_cons_zero, List.set_cons_succ]
          refine wpAnyH_ready (rs := [7]) (by kernel_rfl) (by simp) (AllReadyH.cons (o := _) rfl (fun K hK => ?_) AllReadyH.nil)
          try simp only [Act.put, List.getElem_toArray, List.getElem_cons_succ, List.getElem_cons_zero, List.setIfInBounds_toArray, List.set_cons_zero, List.set_cons_succ]
          go_simp
          go_at_call 82
          refine CX.out.mono ?_
          rintro e w4 ⟨A6, c6, ps, rfl, hps, HM, d4⟩
          have b4 := b3.trans (d4.mono b3.size)
          have d4' := d3.trans (d4.mono d3.size)
          have CR := hid (reachedIds_any A6 A3 c6 c3 ps fr w4 hps (hid HM.out.1) (by have := HM.out.2.1; have := (storeB_parts HSO.out).2; omega) ((hfr.below b4 (Nat.le_refl _)).more b4.size) HF h4)
          refine hK.out _ _ (HKP.out _ d4') (fun hHeld => ?_)
          clear hK K
          try simp only [Act.put, List.getElem_toArray, List.getElem_cons_succ, List.getElem_cons_zero, List.setIfInBounds_toArray, List.set_cons_zero, List.set_cons_succ]
          refine wpAnyH_ready (rs := [9]) (by kernel_rfl) (by simp) (AllReadyH.cons (o := _) rfl (fun K hK => ?_) AllReadyH.nil)
          try simp only [Act.put, List.getElem_toArray, List.getElem_cons_succ, List.getElem_cons_zero, List.setIfInBounds_toArray, List.set_cons_zero, List.set_cons_succ]
          go_simp
          go_at_call 81
          refine CR.out.mono ?_
          rintro e w5 ⟨L, u1, u2, hL, rfl, o1, o2, d5⟩
          have b5 := b4.trans (d5.mono b4.size)
          have d5' := d4'.trans (d5.mono d4'.size)
          have hM : QMis q t fr (missL ps L) := by
            rw [missL_mrg HM.out, ← HA.out]
            refine mis_of OK.out ?_
            rw [HA.out]
            exact Rc.mrg HM.out hL
          have HMM := hid hM
          clear hM hL
          refine hK.out _ _ (HKP.out _ d5') (fun hHeld => ?_)
          clear hK K
          try simp only [Act.put, List.getElem_toArray, List.getElem_cons_succ, List.getElem_cons_zero, List.setIfInBounds_toArray, List.set_cons_zero, List.set_cons_succ]
          refine wpAnyH_take (i := 10) (oi := _) (v := ?_) rfl (by kernel_rfl) (by kernel_rfl) (by kernel_rfl) (fun _ _ _ h => h) (Or.inl ⟨by rfl, ?_⟩) hHeld ?_
          rotate_left
          · (intro w' hSw; (try dsimp only at hSw); go_simp <;> with_reducible rfl)
          try simp only [Act.put, List.getElem_toArray, List.getElem_cons_succ, List.getElem_cons_zero, List.setIfInBounds_toArray, List.set_cons_zero, List.set_cons_succ]
          refine wpAnyH_take (i := 11) (oi := _) (v := ?_) rfl (by kernel_rfl) (by kernel_rfl) (by kernel_rfl) (fun _ _ _ h => h) (Or.inl ⟨by rfl, ?_⟩) hHeld ?_
          rotate_left
          · (intro w' hSw; (try dsimp only at hSw); go_simp <;> with_reducible rfl)
          try simp only [Act.put, List.getElem_toArray, List.getElem_cons_succ, List.getElem_cons_zero, List.setIfInBounds_toArray, List.set_cons_zero, List.set_cons_succ]
          refine wpAnyH_take (i := 12) (oi := _) (v := ?_) rfl (by kernel_rfl) (by kernel_rfl) (by kernel_rfl) (fun _ _ _ h => h) (Or.inl ⟨by rfl, ?_⟩) hHeld ?_
          rotate_left
          · (intro w' hSw; (try dsimp only at hSw); go_simp <;> with_reducible rfl)
          try simp only [Act.put, List.getElem_toArray, List.getElem_cons_succ, List.getElem_cons_zero, List.setIfInBounds_toArray, List.set_cons_zero, List.set_cons_succ]
          refine wpAnyH_take (i := 13) (oi := _) (v := ?_) rfl (by kernel_rfl) (by kernel_rfl) (by kernel_rfl) (fun _ _ _ h => h) (Or.inl ⟨by rfl, ?_⟩) hHeld ?_
          rotate_left
          · (intro w' hSw; (try dsimp only at hSw); go_simp <;> with_reducible rfl)
          try simp only [Act.put, List.getElem_toArray, List.getElem_cons_succ, List.getElem_cons_zero, List.setIfInBounds_toArray, List.set_cons_zero, List.set_cons_succ]
          refine wpAnyH_take (i := 14) (oi := _) (v := ?_) rfl (by kernel_rfl) (by kernel_rfl) (by kernel_rfl) (fun _ _ _ h => h) (Or.inl ⟨by rfl, ?_⟩) hHeld ?_
          rotate_left
          · (intro w' hSw; (try dsimp only at hSw); go_simp <;> with_reducible rfl)
          try simp only [Act.put, List.getElem_toArray, List.getElem_cons_succ, List.getElem_cons_zero, List.setIfInBounds_toArray, List.set_cons_zero, List.set_cons_succ]
          refine wpAnyH_done (by kernel_rfl) ?_ _
          go_wp2
          go_ret
          exact ⟨_, HMM.out, u2, rfl, o2.base b4.size, b5⟩
        · have HA : Hid (arOf q.rs t = os) := by
            show _ = _
            have := gOf_arOf q.rs t
            rw [e2] at this
            exact this.symm
          have HSO : Hid (storeB os = true) := ((HGQ.out t HT.out).2 os e2).1
          have CX := hid (mergeObjects_any A A5 c c5 q.m os w3 ((hm0.below b3 (Nat.le_refl _)).more b3.size) e4 (hid HQ.out.1) HSO)
          rw [e1] at hlk
          replace hlk : (Instr.lookup 78 (.map (some b)) (.int .i64 t) false).run Try.prog w3 = .ok (.slice A5 os.length c5) w3 := hlk
          clear hf' hq e1 e2 e3 e4 CM
          refine wpAnyH_ready (rs := [6]) (by kernel_rfl) (by simp) (AllReadyH.cons (o := _) rfl (fun K hK => ?_) AllReadyH.nil)
          try simp only [Act.put, List.getElem_toArray, List.getElem_cons_succ, List.getElem_cons_zero, List.setIfInBounds_toArray, List.set_cons_zero, List.set_cons_succ]
          go_simp
          refine hK.out _ _ (HKP.out _ d3) (fun hHeld => ?_)
          clear hK K
          try simp only [Act.put, List.getElem_toArray, List.getElem_cons_succ, List.getElem_cons_zero, List.setIfInBounds_toArray, List.set_cons_zero, List.set_cons_succ]
          refine wpAnyH_ready (rs := [7]) (by kernel_rfl) (by simp) (AllReadyH.cons (o := _) rfl (fun K hK => ?_) AllReadyH.nil)
          try simp only [Act.put, List.getElem_toArray, List.getElem_cons_succ, List.getElem_cons_zero, List.setIfInBounds_toArray, List.set_cons_zero, List.set_cons_succ]
          go_simp
          go_at_call 82
          refine CX.out.mono ?_
          rintro e w4 ⟨A6, c6, ps, rfl, hps, HM, d4⟩
          have b4 := b3.trans (d4.mono b3.size)
          have d4' := d3.trans (d4.mono d3.size)
          have CR := hid (reachedIds_any A6 A3 c6 c3 ps fr w4 hps (hid HM.out.1) (by have := HM.out.2.1; have := (storeB_parts HSO.out).2; omega) ((hfr.below b4 (Nat.le_refl _)).more b4.size) HF h4)
          refine hK.out _ _ (HKP.out _ d4') (fun hHeld => ?_)
          clear hK K
          try simp only [Act.put, List.getElem_toArray, List.getElem_cons_succ, List.getElem_cons_zero, List.setIfInBounds_toArray, List.set_cons_zero, List.set_cons_succ]
          refine wpAnyH_ready (rs := [9]) (by kernel_rfl) (by simp) (AllReadyH.cons (o := _) rfl (fun K hK => ?_) AllReadyH.nil)
          try simp only [Act.put, List.getElem_toArray, List.getElem_cons_succ, List.getElem_cons_zero, List.setIfInBounds_toArray, List.set_cons_zero, List.set_cons_succ]
          go_simp
          go_at_call 81
          refine CR.out.mono ?_
          rintro e w5 ⟨L, u1, u2, hL, rfl, o1, o2, d5⟩
          have b5 := b4.trans (d5.mono b4.size)
          have d5' := d4'.trans (d5.mono d4'.size)
          have hM : QMis q t fr (missL ps L) := by
            rw [missL_mrg HM.out, ← HA.out]
            refine mis_of OK.out ?_
            rw [HA.out]
            exact Rc.mrg HM.out hL
          have HMM := hid hM
          clear hM hL
          refine hK.out _ _ (HKP.out _ d5') (fun hHeld => ?_)
          clear hK K
          try simp only [Act.put, List.getElem_toArray, List.getElem_cons_succ, List.getElem_cons_zero, List.setIfInBounds_toArray, List.set_cons_zero, List.set_cons_succ]
          refine wpAnyH_take (i := 10) (oi := _) (v := ?_) rfl (by kernel_rfl) (by kernel_rfl) (by kernel_rfl) (fun _ _ _ h => h) (Or.inl ⟨by rfl, ?_⟩) hHeld ?_
          rotate_left
          · (intro w' hSw; (try dsimp only at hSw); go_simp <;> with_reducible rfl)
          try simp only [Act.put, List.getElem_toArray, List.getElem_cons_succ, List.getElem_cons_zero, List.setIfInBounds_toArray, List.set_cons_zero, List.set_cons_succ]
          refine wpAnyH_take (i := 11) (oi := _) (v := ?_) rfl (by kernel_rfl) (by kernel_rfl) (by kernel_rfl) (fun _ _ _ h => h) (Or.inl ⟨by rfl, ?_⟩) hHeld ?_
          rotate_left
          · (intro w' hSw; (try dsimp only at hSw); go_simp <;> with_reducible rfl)
          try simp only [Act.put, List.getElem_toArray, List.getElem_cons_succ, List.getElem_cons_zero, List.setIfInBounds_toArray, List.set_cons_zero, List.set_cons_succ]
          refine wpAnyH_take (i := 12) (oi := _) (v := ?_) rfl (by kernel_rfl) (by kernel_rfl) (by kernel_rfl) (fun _ _ _ h => h) (Or.inl ⟨by rfl, ?_⟩) hHeld ?_
          rotate_left
          · (intro w' hSw; (try dsimp only at hSw); go_simp <;> with_reducible rfl)
          try simp only [Act.put, List.getElem_toArray, List.getElem_cons_succ, List.getElem_cons_zero, List.setIfInBounds_toArray, List.set_cons_zero, List.set_cons_succ]
          refine wpAnyH_take (i := 13) (oi := _) (v := ?_) rfl (by kernel_rfl) (by kernel_rfl) (by kernel_rfl) (fun _ _ _ h => h) (Or.inl ⟨by rfl, ?_⟩) hHeld ?_
          rotate_left
          · (intro w' hSw; (try dsimp only at hSw); go_simp <;> with_reducible rfl)
          try simp only [Act.put, List.getElem_toArray, List.getElem_cons_succ, List.getElem_cons_zero, List.setIfInBounds_toArray, List.set_cons_zero, List.set_cons_succ]
          refine wpAnyH_take (i := 14) (oi := _) (v := ?_) rfl (by kernel_rfl) (by kernel_rfl) (by kernel_rfl) (fun _ _ _ h => h) (Or.inl ⟨by rfl, ?_⟩) hHeld ?_
          rotate_left
          · (intro w' hSw; (try dsimp only at hSw); go_simp <;> with_reducible rfl)
          try simp only [Act.put, List.getElem_toArray, List.getElem_cons_succ, List.getElem_cons_zero, List.setIfInBounds_toArray, List.set_cons_zero, List.set_cons_succ]
          refine wpAnyH_done (by kernel_rfl) ?_ _
          go_wp2
          go_ret
          exact ⟨_, HMM.out, u2, rfl, o2.base b4.size, b5⟩
end Go.Proofs.Ytblknnifccmpkaa
