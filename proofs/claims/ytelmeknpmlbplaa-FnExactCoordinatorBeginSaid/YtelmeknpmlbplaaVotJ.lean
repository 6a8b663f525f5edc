/- The coordinator with the slices $SA and $SB is stored as the answer, with the word $BB. -/
/- Laws on coordinators: a coordinator is boxed. -/
/-
  Walk: a vote is counted, by the program.
-/
import Derived.Test.YtelmeknpmlbplaaVotI
import Derived.Test.YtelmeknpmlbplaaCopV
import Derived.Test.YtelmeknpmlbplaaRepI
import Derived.Test.YtelmeknpmlbplaaG5C
namespace Go.Proofs.Ytelmeknpmlbplaa
open Go.RowKit Wo Pu Rf Co

set_option linter.unusedVariables false in
set_option linter.unusedSimpArgs false in
/-- Transaction n is another one, whose lists are new. -/
theorem cr_put {col : Nat → Nat} {w3 w4 : World} {B g c n N : Nat} {a b bo : Value} {q : Crd} {t : Tx} (h : OwnCr col w3 B (.agg #[.slice (some ⟨g, 0, none⟩) N c, bo]) q) (hN : N = q.ts.length) (hn : n < q.ts.length) (d : Below w3.heap.size w3 w4) (hB : B ≤ w3.heap.size) (hx : TxOf (fun _ => 0) 0 w4 w3.heap.size a b t) :
    (∃ a0 b0, w4.cell? ⟨g, n * 3, none⟩ = some a0 ∧ w4.cell? ⟨g, n * 3 + 1, none⟩ = some b0 ∧ w4.cell? ⟨g, n * 3 + 2, none⟩ = some (.int .i64 q.ts[n].d)) ∧ (∀ o, w4.frozen? ⟨g, o, none⟩ = false) ∧ (∃ cs fr, w4.heap[g]? = some (.cells cs 33 fr)) ∧ B ≤ g ∧
      ∃ col', OwnCr col' (((w4.setCell ⟨g, n * 3, none⟩ a).setCell ⟨g, n * 3 + 1, none⟩ b).setCell ⟨g, n * 3 + 2, none⟩ (.int .i64 t.d)) B (.agg #[.slice (some ⟨g, 0, none⟩) N c, bo]) ⟨q.ts.set n t, q.os⟩ := by
  subst hN
  obtain ⟨h1, h2, h3⟩ := h.parts
  obtain ⟨q0, q1, q2⟩ := h1.put hn d hB hx
  have h1' := h1
  obtain ⟨xs, r1, -⟩ := h1'
  have hrow := own_below r1 d (Nat.le_refl _)
  have hty := row_typed hrow g rfl
  have s1 := (World.ownsRow.stored hrow (n * 3) a).1
  have s2 := (World.ownsRow.stored s1 (n * 3 + 1) b).1
  have h2' := h2.below d (Nat.le_refl _)
  refine ⟨q0, q1, hty, (World.ownsRow.lt r1 g rfl).1, tint w3 col (n + 2), _, _, rfl, ?_, ?_, tint_old h2 h3⟩
  · exact q2
  · exact row_far_type (row_far_type (row_far_type h2' (by decide) (but_set _ g _ _) (row_typed hrow)) (by decide) (but_set _ g _ _) (row_typed s1)) (by decide) (but_set _ g _ _) (row_typed s2)
/- The voted transaction is stored. -/
set_option linter.unusedSimpArgs false in
set_option linter.unusedVariables false in
set_option maxRecDepth 100000 in
set_option maxHeartbeats 16000000 in
theorem implCoordinatorVote_is (x : Crd) (b : Bool) (v : Value) (q : Crd) (t s : Int) (y : Bool) (w : World) (h : Crdd w w.heap.size v q) (hf : FitC q) (hx : Counted q t s y x b) :
    Calls Try.prog 25 #[v, .int .i64 t, .int .i64 s, .bool y] w (NewCrB x b w) := by
  obtain ⟨i1, hj, hy0, hy1, hy2⟩ := info_of info_int
  obtain ⟨bv, hbv⟩ := bool_ofP' (CV q)
  obtain ⟨bi, hbi⟩ := bool_ofP' (∃ k, k < q.ts.length ∧ t = ((k : Nat) : Int))
  have HX := hid hx
  have HBV := hid hbv
  have HBI := hid hbi
  have HF := hid hf
  have CVal : Hid (∀ y, Below w.heap.size w y → Calls Try.prog 33 #[v] y (Ret (.bool bv) y)) := fun y hy => implCoordinatorValid_is bv v q y (h.on hy hy.size) hf hbv
  have CCop : Hid (∀ y, Below w.heap.size w y → Calls Try.prog 62 #[v] y (NewCr q y)) := fun y hy => crdCopied_is v q y (h.on hy hy.size) hf
  have CI : Hid (∀ A c A2 c2 y, Calls Try.prog 57 #[.agg #[.slice A q.ts.length c, .slice A2 q.os.length c2], .int .i64 t] y (Ret (.bool bi) y)) := fun A c A2 c2 y => has_is bi A A2 q.ts.length q.os.length c c2 t y hbi
  have hf1 := hf.ts
  have hf2 := hf.os
  clear hx hbv hbi
  obtain ⟨A, c, A2, c2, rfl, hT, hc, -, hc2⟩ := h
  clear hf
  unfold crV at *
  have b1 := ((Below.refl w.heap.size w).alloc (Nat.le_refl _) (.cells #[.slice A q.ts.length c, .slice A2 q.os.length c2] 26)).alloc (by simp) (.cells #[.slice none 0 0, .slice none 0 0] 26)
  have x0 := (Blk2s.new_ w 26 (.slice A q.ts.length c) (.slice A2 q.os.length c2)).alloc (.cells #[.slice none 0 0, .slice none 0 0] 26)
  have x1 := Blk2s.new_ (w.alloc (.cells #[.slice A q.ts.length c, .slice A2 q.os.length c2] 26)) 26 (.slice none 0 0) (.slice none 0 0)
  rw [World.size_alloc] at x1
  go_enter Try.func25, Try.ntmps25
  go_upto_region 1 with fail
  obtain ⟨w1, hw1⟩ : ∃ w1, (w.alloc (.cells #[.slice A q.ts.length c, .slice A2 q.os.length c2] 26)).alloc (.cells #[.slice none 0 0, .slice none 0 0] 26) = w1 := ⟨_, rfl⟩
  rw [hw1] at b1 x0 x1 ⊢
  clear hw1
  obtain ⟨y0, y1, -⟩ := id x0.reads
  go_wp2_with fail
  refine (CVal.out _ b1).mono ?_
  rintro e w2 ⟨rfl, d⟩
  replace x0 := x0.later d
  replace x1 := x1.later d
  replace b1 := b1.trans (d.mono b1.size)
  clear y0 y1
  obtain ⟨y0, y1, -⟩ := id x0.reads
  cases bv with
  | false =>
    obtain ⟨rfl, rfl⟩ := HX.out.bad_ fun e => by have := HBV.out.2 e; cases this
    clear HX CVal CCop CI
    obtain ⟨t0, t1, tf⟩ := id x1.reads
    have tf0 := tf 0
    have tf1 := tf 1
    clear tf
    obtain ⟨p0, p1, -⟩ := ((x1.set0 (.slice none 0 0)).set1 (.slice none 0 0)).reads
    have b7 := (b1.setCell (p := ⟨w.heap.size + 1, 0, none⟩) (Nat.le_succ _) (.slice none 0 0)).setCell (p := ⟨w.heap.size + 1, 1, none⟩) (Nat.le_succ _) (.slice none 0 0)
    go_wp2
    exact bodyPost_ret (v := .tuple #[.agg #[.slice none 0 0, .slice none 0 0], .bool false]) (by simp [results, Try.results25, go_sem, p0, p1]) rfl ⟨_, _, rfl, OwnCr.none_ _ _, b7⟩
  | true =>
    have HVq := hid (HBV.out.1 rfl)
    have zc := b1.size
    go_wp2_with fail
    refine (CCop.out _ b1).mono ?_
    rintro e w2 ⟨v2, col, rfl, o2, d⟩
    replace x0 := x0.later d
    replace x1 := x1.later d
    replace b1 := b1.trans (d.mono b1.size)
    clear y0 y1
    obtain ⟨y0, y1, -⟩ := id x0.reads
    obtain ⟨Ao, co, Ab, cb, rfl, -, -, -, -, -, -, -⟩ := o2.form
    unfold crV at o2 ⊢
    have HB2 : Hid (w.heap.size + 1 < w2.heap.size) := x1.lt
    replace o2 := o2.base (B' := w.heap.size) zc
    have d := (Below.refl w2.heap.size w2).alloc (Nat.le_refl _) (.cells #[.slice Ao q.ts.length co, .slice Ab q.os.length cb] 26)
    have x6 := Blk2s.new_ w2 26 (.slice Ao q.ts.length co) (.slice Ab q.os.length cb)
    replace o2 := o2.below d
    replace x0 := x0.later d
    replace x1 := x1.later d
    replace b1 := b1.trans (d.mono b1.size)
    clear y0 y1
    obtain ⟨y0, y1, -⟩ := id x0.reads
    go_upto_region 4 with fail
    obtain ⟨w3, hw3⟩ : ∃ x, w2.alloc (.cells #[.slice Ao q.ts.length co, .slice Ab q.os.length cb] 26) = x := ⟨_, rfl⟩
    obtain ⟨g, hg⟩ : ∃ x, w2.heap.size = x := ⟨_, rfl⟩
    rw [hw3] at x0 x1 b1 y0 y1 x6 o2 ⊢
    rw [hg] at x6 HB2 ⊢
    clear hw3 hg d CVal CCop
    go_wp2_with fail
    refine (CI.out _ _ _ _ _).mono ?_
    rintro e w4 ⟨rfl, d⟩
    replace x0 := x0.later d
    replace x1 := x1.later d
    replace b1 := b1.trans (d.mono b1.size)
    clear y0 y1
    obtain ⟨y0, y1, -⟩ := id x0.reads
    replace o2 := o2.below d
    replace x6 := x6.later d
    clear d CI
    cases bi with
    | false =>
      have HNo : Hid (x = q ∧ b = false) := HX.out.no_ HVq.out fun n k a => absurd (HBI.out.2 ⟨n, a.hi, a.ht⟩) (by decide)
      clear HBI
      have o9 := o2
      obtain ⟨u0, u1, -⟩ := id x6.reads
      obtain ⟨rfl, rfl⟩ := HNo.out
      clear HNo o2 HX HVq HBV HB2
      obtain ⟨t0, t1, tf⟩ := id x1.reads
      have tf0 := tf 0
      have tf1 := tf 1
      clear tf
      have o10 := (o9.keptT (by decide) (by decide) (by decide) (by decide) (but_set _ (w.heap.size + 1) 0 (.slice Ao x.ts.length co)) (blk_type x1)).keptT (by decide) (by decide) (by decide) (by decide) (but_set _ (w.heap.size + 1) 1 (.slice Ab x.os.length cb)) (blk_type (x1.set0 _))
      have b9 := (b1.setCell (p := ⟨w.heap.size + 1, 0, none⟩) (Nat.le_succ _) (.slice Ao x.ts.length co)).setCell (p := ⟨w.heap.size + 1, 1, none⟩) (Nat.le_succ _) (.slice Ab x.os.length cb)
      obtain ⟨p0, p1, -⟩ := ((x1.set0 (.slice Ao x.ts.length co)).set1 (.slice Ab x.os.length cb)).reads
      clear x0 x1 o9 b1
      go_wp2
      exact bodyPost_ret (v := .tuple #[.agg #[.slice Ao x.ts.length co, .slice Ab x.os.length cb], .bool false]) (by simp [results, Try.results25, go_sem, p0, p1]) rfl ⟨_, _, rfl, o10, b9⟩
    | true =>
      obtain ⟨n, hn, rfl⟩ := HBI.out.1 rfl
      have k0 : (0 : Int) ≤ (n : Int) := by omega
      have k1 : (n : Int) < (q.ts.length : Int) := by omega
      clear HBI
      obtain ⟨t, ad, A', c', A9, c9, ho, rfl, had, f0, f1, f2, -, -, g5, g6⟩ := hT.tx hn
      have g0 := (b1.cell had).trans f0
      have g1 := (b1.cell (p := ⟨(ad.add (n * 3)).block, (ad.add (n * 3)).off + 1, none⟩) had).trans f1
      have g2 := (b1.cell (p := ⟨(ad.add (n * 3)).block, (ad.add (n * 3)).off + 2, none⟩) had).trans f2
      have htv := HVq.out.txs t (by rw [← ho]; exact List.getElem_mem hn)
      have hps3 := (pv_few htv.parts).1
      have HUS := hid (HF.out.us t (by rw [← ho]; exact List.getElem_mem hn))
      have HVL := hid htv.len
      have HTV := hid htv
      have HO := hid ho
      have HP5 := hid g5
      have HP6 := hid g6
      have HAD := hid had
      have HG0 := hid f0
      have HG1 := hid f1
      have HG2 := hid f2
      obtain ⟨bc, hbc⟩ := bool_ofP' (s ∈ waitsD t)
      have HBC := hid hbc
      have hwl : (waitsD t).length ≤ 1048600 := by
        unfold waitsD
        by_cases hd : t.d = 0
        · rw [if_pos hd, ← waitsTo_all htv.len]
          have := waitsTo_len t t.ps.length
          omega
        · rw [if_neg hd]; simp
      have CW : Calls Try.prog 58 #[.agg #[.slice A' t.ps.length c', .slice A9 t.vs.length c9, .int .i64 t.d]] w4 (IntsOf (waitsD t) w4) := txWaits_is A' c' A9 c9 t w4 (g5.on b1) ((g6.below b1 (Nat.le_refl _)).more b1.size) (by omega) htv.len
      obtain ⟨ws, hws⟩ : ∃ ws, waitsD t = ws := ⟨_, rfl⟩
      rw [hws] at CW hwl HBC hbc
      have HWS := hid hws
      clear htv ho f0 f1 f2 g5 g6 had hws
      go_wp2_with fail
      refine CW.mono ?_
      rintro e w3 ⟨Aw, cw, rfl, ow, d⟩
      have HCC := hid (slContains_is bc Aw cw ws s w3 _ ow.row hwl hbc)
      replace x0 := x0.later d
      replace x1 := x1.later d
      replace b1 := b1.trans (d.mono b1.size)
      clear y0 y1
      obtain ⟨y0, y1, -⟩ := id x0.reads
      replace o2 := o2.below d
      replace x6 := x6.later d
      clear d CW ow g0 g1 g2 hbc hwl
      go_wp2_with fail
      refine HCC.out.mono ?_
      rintro e w6 ⟨rfl, rfl⟩
      clear HCC
      cases bc with
      | false =>
        have HNo : Hid (x = q ∧ b = false) := HX.out.no_ HVq.out fun n' k' a => by
          have e := a.ht
          have e2 : n' = n := by omega
          subst e2
          have h0 := a.d0
          have h1 := a.hs
          have h2 := a.v0
          have h3 := a.kp
          have h4 := a.hk
          simp only [HO.out] at h0 h1 h2 h3 h4
          have : s ∈ ws := by
            rw [← HWS.out]
            unfold waitsD
            rw [if_pos h0, mem_waitsT HVL.out]
            exact ⟨k', h3, h4, h1, h2⟩
          have := HBC.out.2 this
          cases this
        have o9 := o2
        obtain ⟨u0, u1, -⟩ := id x6.reads
        obtain ⟨rfl, rfl⟩ := HNo.out
        clear HNo o2 HX HVq HBV HB2
        obtain ⟨t0, t1, tf⟩ := id x1.reads
        have tf0 := tf 0
        have tf1 := tf 1
        clear tf
        have o10 := (o9.keptT (by decide) (by decide) (by decide) (by decide) (but_set _ (w.heap.size + 1) 0 (.slice Ao x.ts.length co)) (blk_type x1)).keptT (by decide) (by decide) (by decide) (by decide) (but_set _ (w.heap.size + 1) 1 (.slice Ab x.os.length cb)) (blk_type (x1.set0 _))
        have b9 := (b1.setCell (p := ⟨w.heap.size + 1, 0, none⟩) (Nat.le_succ _) (.slice Ao x.ts.length co)).setCell (p := ⟨w.heap.size + 1, 1, none⟩) (Nat.le_succ _) (.slice Ab x.os.length cb)
        obtain ⟨p0, p1, -⟩ := ((x1.set0 (.slice Ao x.ts.length co)).set1 (.slice Ab x.os.length cb)).reads
        clear x0 x1 o9 b1
        go_wp2
        exact bodyPost_ret (v := .tuple #[.agg #[.slice Ao x.ts.length co, .slice Ab x.os.length cb], .bool false]) (by simp [results, Try.results25, go_sem, p0, p1]) rfl ⟨_, _, rfl, o10, b9⟩
      | true =>
        have hmem := HBC.out.1 rfl
        rw [← HWS.out] at hmem
        have hd : t.d = 0 := by
          unfold waitsD at hmem
          by_cases hd : t.d = 0
          · exact hd
          · rw [if_neg hd] at hmem; cases hmem
        unfold waitsD at hmem
        rw [if_pos hd, mem_waitsT HVL.out] at hmem
        obtain ⟨k, hk, hkv, hks, hv0⟩ := hmem
        have haw : Awaits q (n : Int) s n k := by
          refine ⟨⟨hn, ?_, ?_, ?_⟩, rfl, ?_, ?_⟩
          · rw [HO.out]; exact hd
          · rw [HO.out]; exact hkv
          · simp only [HO.out]; exact hv0
          · rw [HO.out]; exact hk
          · simp only [HO.out]; exact hks
        obtain ⟨hxx, rfl⟩ := HX.out.yes_ HVq.out haw
        have HXX : Hid (x = if y then yesC q n k hn else noC q n k hn) := hxx
        have HSU : Hid (∀ j (h : j < t.ps.length), t.ps[j].s = s ↔ j = k) := fun j hj => ⟨fun e => parts_one HTV.out.parts hj hk (e.trans hks.symm), fun e => by subst e; exact hks⟩
        obtain ⟨gT, rfl, -⟩ := cr_head o2 hn
        have HX0 := hid x0
        have HX1 := hid x1
        have HX6 := hid x6
        have HB1 := hid b1
        have HO2 := hid o2
        have HDD := hid hd
        have HKV := hid hkv
        clear hd hv0 hks haw hxx HBC HWS HX HBV o2 x0 x1 x6 b1 zc hkv
        cases y with
        | false =>
          have CVo := hid fun (w9 : World) (hw9 : Below w.heap.size w w9) => txVoted_is A' c' A9 c9 t k s (-1) w9 ((HP5.out.more (Nat.le_refl _)).on hw9) ((HP6.out.below hw9 (Nat.le_refl _)).more hw9.size) (by omega) HVL.out HUS.out HSU.out hk
          have D : Below w3.heap.size w3 w3.drew := (Below.refl _ _).drew
          have HS : Hid (∀ x, Below w3.heap.size w3 x → x.cell? ⟨g, 0, none⟩ = some (.slice (some ⟨gT, 0, none⟩) q.ts.length co) ∧ x.cell? ⟨w.heap.size, 0, none⟩ = some (.slice (some ad) q.ts.length c) ∧ x.cell? (ad.add (n * 3)) = some (.slice A' t.ps.length c') ∧
              x.cell? ⟨(ad.add (n * 3)).block, (ad.add (n * 3)).off + 1, none⟩ = some (.slice A9 t.vs.length c9) ∧ x.cell? ⟨(ad.add (n * 3)).block, (ad.add (n * 3)).off + 2, none⟩ = some (.int .i64 t.d)) := fun x hx => by
            have h5 := HB1.out.trans (hx.mono HB1.out.size)
            exact ⟨(HX6.out.later hx).reads.1, (HX0.out.later hx).reads.1, (h5.cell HAD.out).trans HG0.out, (h5.cell (p := ⟨(ad.add (n * 3)).block, (ad.add (n * 3)).off + 1, none⟩) HAD.out).trans HG1.out, (h5.cell (p := ⟨(ad.add (n * 3)).block, (ad.add (n * 3)).off + 2, none⟩) HAD.out).trans HG2.out⟩
          go_upto_region 9 with fail
          refine wp_region_held_drew (S := fun x => x.cell? ⟨g, 0, none⟩ = some (.slice (some ⟨gT, 0, none⟩) q.ts.length co) ∧ x.cell? ⟨w.heap.size, 0, none⟩ = some (.slice (some ad) q.ts.length c) ∧ x.cell? (ad.add (n * 3)) = some (.slice A' t.ps.length c') ∧
              x.cell? ⟨(ad.add (n * 3)).block, (ad.add (n * 3)).off + 1, none⟩ = some (.slice A9 t.vs.length c9) ∧ x.cell? ⟨(ad.add (n * 3)).block, (ad.add (n * 3)).off + 2, none⟩ = some (.int .i64 t.d)) (by kernel_rfl) (HS.out _ D) (fun hHeld => ?_)
          obtain ⟨W, hW⟩ : ∃ x, w3.drew = x := ⟨_, rfl⟩
          rw [hW] at D hHeld ⊢
          clear hW
          try simp only [Act.put, List.getElem_toArray, List.getElem_cons_succ, List.getElem_cons_zero, List.setIfInBounds_toArray, List.set_cons_zero, List.set_cons_succ]
          refine wpAnyH_take (i := 0) (oi := _) (v := ?_) rfl (by kernel_rfl) (by kernel_rfl) (by kernel_rfl) (fun _ _ _ h => h) (Or.inl ⟨by rfl, ?_⟩) hHeld ?_
          rotate_left
          · (intro w' hSw; (try dsimp only at hSw); go_simp <;> with_reducible rfl)
          try simp only [Act.put, List.getElem_toArray, List.getElem_cons_succ, List.getElem_cons_zero, List.setIfInBounds_toArray, List.set_cons_zero, List.set_cons_succ]
          refine wpAnyH_take (i := 1) (oi := _) (v := ?_) rfl (by kernel_rfl) (by kernel_rfl) (by kernel_rfl) (fun _ _ _ h => h) (Or.inl ⟨by rfl, ?_⟩) hHeld ?_
          rotate_left
          · (intro w' hSw; (try dsimp only at hSw); go_simp <;> with_reducible rfl)
          try simp only [Act.put, List.getElem_toArray, List.getElem_cons_succ, List.getElem_cons_zero, List.setIfInBounds_toArray, List.set_cons_zero, List.set_cons_succ]
          refine wpAnyH_take (i := 2) (oi := _) (v := ?_) rfl (by kernel_rfl) (by kernel_rfl) (by kernel_rfl) (fun _ _ _ h => h) (Or.inl ⟨by rfl, ?_⟩) hHeld ?_
          rotate_left
          · (intro w' hSw; (try dsimp only at hSw); go_simp <;> with_reducible rfl)
          try simp only [Act.put, List.getElem_toArray, List.getElem_cons_succ, List.getElem_cons_zero, List.setIfInBounds_toArray, List.set_cons_zero, List.set_cons_succ]
          refine wpAnyH_take (i := 3) (oi := _) (v := ?_) rfl (by kernel_rfl) (by kernel_rfl) (by kernel_rfl) (fun _ _ _ h => h) (Or.inl ⟨by rfl, ?_⟩) hHeld ?_
          rotate_left
          · (intro w' hSw; (try dsimp only at hSw); go_simp <;> with_reducible rfl)
          try simp only [Act.put, List.getElem_toArray, List.getElem_cons_succ, List.getElem_cons_zero, List.setIfInBounds_toArray, List.set_cons_zero, List.set_cons_succ]
          refine wpAnyH_take (i := 4) (oi := _) (v := ?_) rfl (by kernel_rfl) (by kernel_rfl) (by kernel_rfl) (fun _ _ _ h => h) (Or.inl ⟨by rfl, ?_⟩) hHeld ?_
          rotate_left
          · (intro w' hSw; (try dsimp only at hSw); go_simp <;> with_reducible rfl)
          try simp only [Act.put, List.getElem_toArray, List.getElem_cons_succ, List.getElem_cons_zero, List.setIfInBounds_toArray, List.set_cons_zero, List.set_cons_succ]
          refine wpAnyH_take (i := 5) (oi := _) (v := ?_) rfl (by kernel_rfl) (by kernel_rfl) (by kernel_rfl) (fun _ _ _ h => h) (Or.inl ⟨by rfl, ?_⟩) hHeld ?_
          rotate_left
          · (intro w' hSw; (try dsimp only at hSw); go_simp <;> with_reducible rfl)
          try simp only [Act.put, List.getElem_toArray, List.getElem_cons_succ, List.getElem_cons_zero, List.setIfInBounds_toArray, List.set_cons_zero, List.set_cons_succ]
          refine wpAnyH_take (i := 6) (oi := _) (v := ?_) rfl (by kernel_rfl) (by kernel_rfl) (by kernel_rfl) (fun _ _ _ h => h) (Or.inl ⟨by rfl, ?_⟩) hHeld ?_
          rotate_left
          · (intro w' hSw; (try dsimp only at hSw); go_simp <;> with_reducible rfl)
          try simp only [Act.put, List.getElem_toArray, List.getElem_cons_succ, List.getElem_cons_zero, List.setIfInBounds_toArray, List.set_cons_zero, List.set_cons_succ]
          refine wpAnyH_take (i := 7) (oi := _) (v := ?_) rfl (by kernel_rfl) (by kernel_rfl) (by kernel_rfl) (fun _ _ _ h => h) (Or.inl ⟨by rfl, ?_⟩) hHeld ?_
          rotate_left
          · (intro w' hSw; (try dsimp only at hSw); go_simp <;> with_reducible rfl)
          try simp only [Act.put, List.getElem_toArray, List.getElem_cons_succ, List.getElem_cons_zero, List.setIfInBounds_toArray, List.set_cons_zero, List.set_cons_succ]
          refine wpAnyH_take (i := 8) (oi := _) (v := ?_) rfl (by kernel_rfl) (by kernel_rfl) (by kernel_rfl) (fun _ _ _ h => h) (Or.inl ⟨by rfl, ?_⟩) hHeld ?_
          rotate_left
          · (intro w' hSw; (try dsimp only at hSw); go_simp <;> with_reducible rfl)
          try simp only [Act.put, List.getElem_toArray, List.getElem_cons_succ, List.getElem_cons_zero, List.setIfInBounds_toArray, List.set_cons_zero, List.set_cons_succ]
          refine wpAnyH_take (i := 9) (oi := _) (v := ?_) rfl (by kernel_rfl) (by kernel_rfl) (by kernel_rfl) (fun _ _ _ h => h) (Or.inl ⟨by rfl, ?_⟩) hHeld ?_
          rotate_left
          · (intro w' hSw; (try dsimp only at hSw); go_simp <;> with_reducible rfl)
          try simp only [Act.put, List.getElem_toArray, List.getElem_cons_succ, List.getElem_cons_zero, List.setIfInBounds_toArray, List.set_cons_zero, List.set_cons_succ]
          refine wpAnyH_ready (rs := [10]) (by kernel_rfl) (by simp) (AllReadyH.cons (o := _) rfl (fun K hK => ?_) AllReadyH.nil)
          try simp only [Act.put, List.getElem_toArray, List.getElem_cons_succ, List.getElem_cons_zero, List.setIfInBounds_toArray, List.set_cons_zero, List.set_cons_succ]
          go_simp
          go_at_call 64
          refine (CVo.out _ (HB1.out.trans (D.mono HB1.out.size))).mono ?_
          rintro e W2 ⟨va, vb, rfl, ox, d5⟩
          replace ox := ox.base D.size
          replace D := D.trans (d5.mono D.size)
          clear d5 CVo
          refine hK.out _ _ (HS.out _ D) (fun hHeld => ?_)
          clear hK K
          try simp only [Act.put, List.getElem_toArray, List.getElem_cons_succ, List.getElem_cons_zero, List.setIfInBounds_toArray, List.set_cons_zero, List.set_cons_succ]
          refine wpAnyH_take (i := 11) (oi := _) (v := ?_) rfl (by kernel_rfl) (by kernel_rfl) (by kernel_rfl) (fun _ _ _ h => h) (Or.inl ⟨by rfl, ?_⟩) hHeld ?_
          rotate_left
          · (intro w' hSw; (try dsimp only at hSw); go_simp <;> with_reducible rfl)
          try simp only [Act.put, List.getElem_toArray, List.getElem_cons_succ, List.getElem_cons_zero, List.setIfInBounds_toArray, List.set_cons_zero, List.set_cons_succ]
          obtain ⟨⟨a0, b0, v0, v1, v2⟩, vf, ⟨cs, fr, hty⟩, hgB, col9, o9⟩ := cr_put HO2.out rfl hn D HB1.out.size ox
          have vf0 := vf (n * 3)
          have vf1 := vf (n * 3 + 1)
          have vf2 := vf (n * 3 + 2)
          obtain ⟨Ap, cp, rfl, -, -⟩ := ox.1.form
          obtain ⟨Av, cv, rfl, -, -⟩ := ox.2.1.form
          have n0 := ty_ne (HX0.out.later D) hty (by decide)
          have n1 := ty_ne (HX1.out.later D) hty (by decide)
          have n6 := ty_ne (HX6.out.later D) hty (by decide)
          have b3 := HB1.out.trans (D.mono HB1.out.size)
          have b1 := ((b3.setCell (p := ⟨gT, n * 3, none⟩) hgB (.slice Ap t.ps.length cp)).setCell (p := ⟨gT, n * 3 + 1, none⟩) hgB (.slice Av (t.vs.set k (-1)).length cv)).setCell (p := ⟨gT, n * 3 + 2, none⟩) hgB (.int .i64 (votedTx t k (-1)).d)
          have x1 := (((HX1.out.later D).far (p := ⟨gT, n * 3, none⟩) n1 (.slice Ap t.ps.length cp)).far (p := ⟨gT, n * 3 + 1, none⟩) n1 (.slice Av (t.vs.set k (-1)).length cv)).far (p := ⟨gT, n * 3 + 2, none⟩) n1 (.int .i64 (votedTx t k (-1)).d)
          have x6 := (((HX6.out.later D).far (p := ⟨gT, n * 3, none⟩) n6 (.slice Ap t.ps.length cp)).far (p := ⟨gT, n * 3 + 1, none⟩) n6 (.slice Av (t.vs.set k (-1)).length cv)).far (p := ⟨gT, n * 3 + 2, none⟩) n6 (.int .i64 (votedTx t k (-1)).d)
          have x0 := (((HX0.out.later D).far (p := ⟨gT, n * 3, none⟩) n0 (.slice Ap t.ps.length cp)).far (p := ⟨gT, n * 3 + 1, none⟩) n0 (.slice Av (t.vs.set k (-1)).length cv)).far (p := ⟨gT, n * 3 + 2, none⟩) n0 (.int .i64 (votedTx t k (-1)).d)
          have HO9 := hid o9
          clear vf hty n0 n1 n6 b3 ox o9 D
          refine wpAnyH_ready (rs := [12]) (by kernel_rfl) (by simp) (AllReadyH.cons (o := _) rfl (fun K hK => ?_) AllReadyH.nil)
          try simp only [Act.put, List.getElem_toArray, List.getElem_cons_succ, List.getElem_cons_zero, List.setIfInBounds_toArray, List.set_cons_zero, List.set_cons_succ]
          go_simp
          refine hK.out _ _ ⟨x6.reads.1, x0.reads.1, (b1.cell HAD.out).trans HG0.out, (b1.cell (p := ⟨(ad.add (n * 3)).block, (ad.add (n * 3)).off + 1, none⟩) HAD.out).trans HG1.out, (b1.cell (p := ⟨(ad.add (n * 3)).block, (ad.add (n * 3)).off + 2, none⟩) HAD.out).trans HG2.out⟩ (fun hHeld => ?_)
          clear hK K
          try simp only [Act.put, List.getElem_toArray, List.getElem_cons_succ, List.getElem_cons_zero, List.setIfInBounds_toArray, List.set_cons_zero, List.set_cons_succ]
          refine wpAnyH_done (by kernel_rfl) ?_ _
          obtain ⟨W, hW⟩ : ∃ x, ((W2.setCell ⟨gT, n * 3, none⟩ (.slice Ap t.ps.length cp)).setCell ⟨gT, n * 3 + 1, none⟩ (.slice Av (t.vs.set k (-1)).length cv)).setCell ⟨gT, n * 3 + 2, none⟩ (.int .i64 (votedTx t k (-1)).d) = x := ⟨_, rfl⟩
          have HO8 : Hid (OwnCr col9 W w.heap.size (.agg #[.slice (some ⟨gT, 0, none⟩) q.ts.length co, .slice Ab q.os.length cb]) ⟨q.ts.set n (votedTx t k (-1)), q.os⟩) := by
            rw [← hW]
            exact HO9.out
          have hW' : ((W2.setCell ⟨gT, n * 3, none⟩ (.slice Ap (votedTx t k (-1)).ps.length cp)).setCell ⟨gT, n * 3 + 1, none⟩ (.slice Av (votedTx t k (-1)).vs.length cv)).setCell ⟨gT, n * 3 + 2, none⟩ (.int .i64 (votedTx t k (-1)).d) = W := hW
          rw [hW] at x0 x1 x6 b1
          first | rw [hW'] | rw [hW]
          clear hW hW' HO9 hHeld v0 v1 v2 vf0 vf1 vf2 HX0 HX1 HX6 HB1 HO2 HP5 HP6 HUS HSU y0 y1
          obtain ⟨q4, q5, q6, -⟩ := cr_dec HO8.out (by simp) (n := n) (by simpa using hn) 0
          simp only [List.getElem_set_self] at q4
          clear q5
          obtain ⟨u0, u1, uf⟩ := id x6.reads
          have hd3 : (votedTx t k (-1)).d = 3 := by rw [no_tx HKV.out]; rfl
          rw [hd3] at q4
          have hx : x = ⟨q.ts.set n (votedTx t k (-1)), q.os⟩ := by
            rw [HXX.out, no_tx HKV.out, ← HO.out]
            rfl
          have o9 := HO8.out
          rw [← hx] at o9
          clear HXX hx HO8 hd3 uf
          obtain ⟨t0, t1, tf⟩ := id x1.reads
          have tf0 := tf 0
          have tf1 := tf 1
          clear tf
          have o10 := (o9.keptT (by decide) (by decide) (by decide) (by decide) (but_set _ (w.heap.size + 1) 0 (.slice (some ⟨gT, 0, none⟩) q.ts.length co)) (blk_type x1)).keptT (by decide) (by decide) (by decide) (by decide) (but_set _ (w.heap.size + 1) 1 (.slice Ab q.os.length cb)) (blk_type (x1.set0 _))
          have b9 := (b1.setCell (p := ⟨w.heap.size + 1, 0, none⟩) (Nat.le_succ _) (.slice (some ⟨gT, 0, none⟩) q.ts.length co)).setCell (p := ⟨w.heap.size + 1, 1, none⟩) (Nat.le_succ _) (.slice Ab q.os.length cb)
          obtain ⟨p0, p1, -⟩ := ((x1.set0 (.slice (some ⟨gT, 0, none⟩) q.ts.length co)).set1 (.slice Ab q.os.length cb)).reads
          clear x0 x1 o9 b1
          go_wp2
          exact bodyPost_ret (v := .tuple #[.agg #[.slice (some ⟨gT, 0, none⟩) q.ts.length co, .slice Ab q.os.length cb], .bool true]) (by simp [results, Try.results25, go_sem, p0, p1]) rfl ⟨_, _, rfl, o10, b9⟩
        | true =>
          have CVo := hid fun (w9 : World) (hw9 : Below w.heap.size w w9) => txVoted_is A' c' A9 c9 t k s (1) w9 ((HP5.out.more (Nat.le_refl _)).on hw9) ((HP6.out.below hw9 (Nat.le_refl _)).more hw9.size) (by omega) HVL.out HUS.out HSU.out hk
          have D : Below w3.heap.size w3 w3.drew := (Below.refl _ _).drew
          have HS : Hid (∀ x, Below w3.heap.size w3 x → x.cell? ⟨g, 0, none⟩ = some (.slice (some ⟨gT, 0, none⟩) q.ts.length co) ∧ x.cell? ⟨w.heap.size, 0, none⟩ = some (.slice (some ad) q.ts.length c) ∧ x.cell? (ad.add (n * 3)) = some (.slice A' t.ps.length c') ∧
              x.cell? ⟨(ad.add (n * 3)).block, (ad.add (n * 3)).off + 1, none⟩ = some (.slice A9 t.vs.length c9) ∧ x.cell? ⟨(ad.add (n * 3)).block, (ad.add (n * 3)).off + 2, none⟩ = some (.int .i64 t.d)) := fun x hx => by
            have h5 := HB1.out.trans (hx.mono HB1.out.size)
            exact ⟨(HX6.out.later hx).reads.1, (HX0.out.later hx).reads.1, (h5.cell HAD.out).trans HG0.out, (h5.cell (p := ⟨(ad.add (n * 3)).block, (ad.add (n * 3)).off + 1, none⟩) HAD.out).trans HG1.out, (h5.cell (p := ⟨(ad.add (n * 3)).block, (ad.add (n * 3)).off + 2, none⟩) HAD.out).trans HG2.out⟩
          go_upto_region 9 with fail
          refine wp_region_held_drew (S := fun x => x.cell? ⟨g, 0, none⟩ = some (.slice (some ⟨gT, 0, none⟩) q.ts.length co) ∧ x.cell? ⟨w.heap.size, 0, none⟩ = some (.slice (some ad) q.ts.length c) ∧ x.cell? (ad.add (n * 3)) = some (.slice A' t.ps.length c') ∧
              x.cell? ⟨(ad.add (n * 3)).block, (ad.add (n * 3)).off + 1, none⟩ = some (.slice A9 t.vs.length c9) ∧ x.cell? ⟨(ad.add (n * 3)).block, (ad.add (n * 3)).off + 2, none⟩ = some (.int .i64 t.d)) (by kernel_rfl) (HS.out _ D) (fun hHeld => ?_)
          obtain ⟨W, hW⟩ : ∃ x, w3.drew = x := ⟨_, rfl⟩
          rw [hW] at D hHeld ⊢
          clear hW
          try simp only [Act.put, List.getElem_toArray, List.getElem_cons_succ, List.getElem_cons_zero, List.setIfInBounds_toArray, List.set_cons_zero, List.set_cons_succ]
          refine wpAnyH_take (i := 0) (oi := _) (v := ?_) rfl (by kernel_rfl) (by kernel_rfl) (by kernel_rfl) (fun _ _ _ h => h) (Or.inl ⟨by rfl, ?_⟩) hHeld ?_
          rotate_left
          · (intro w' hSw; (try dsimp only at hSw); go_simp <;> with_reducible rfl)
          try simp only [Act.put, List.getElem_toArray, List.getElem_cons_succ, List.getElem_cons_zero, List.setIfInBounds_toArray, List.set_cons_zero, List.set_cons_succ]
          refine wpAnyH_take (i := 1) (oi := _) (v := ?_) rfl (by kernel_rfl) (by kernel_rfl) (by kernel_rfl) (fun _ _ _ h => h) (Or.inl ⟨by rfl, ?_⟩) hHeld ?_
          rotate_left
          · (intro w' hSw; (try dsimp only at hSw); go_simp <;> with_reducible rfl)
          try simp only [Act.put, List.getElem_toArray, List.getElem_cons_succ, List.getElem_cons_zero, List.setIfInBounds_toArray, List.set_cons_zero, List.set_cons_succ]
          refine wpAnyH_take (i := 2) (oi := _) (v := ?_) rfl (by kernel_rfl) (by kernel_rfl) (by kernel_rfl) (fun _ _ _ h => h) (Or.inl ⟨by rfl, ?_⟩) hHeld ?_
          rotate_left
          · (intro w' hSw; (try dsimp only at hSw); go_simp <;> with_reducible rfl)
          try simp only [Act.put, List.getElem_toArray, List.getElem_cons_succ, List.getElem_cons_zero, List.setIfInBounds_toArray, List.set_cons_zero, List.set_cons_succ]
          refine wpAnyH_take (i := 3) (oi := _) (v := ?_) rfl (by kernel_rfl) (by kernel_rfl) (by kernel_rfl) (fun _ _ _ h => h) (Or.inl ⟨by rfl, ?_⟩) hHeld ?_
          rotate_left
          · (intro w' hSw; (try dsimp only at hSw); go_simp <;> with_reducible rfl)
          try simp only [Act.put, List.getElem_toArray, List.getElem_cons_succ, List.getElem_cons_zero, List.setIfInBounds_toArray, List.set_cons_zero, List.set_cons_succ]
          refine wpAnyH_take (i := 4) (oi := _) (v := ?_) rfl (by kernel_rfl) (by kernel_rfl) (by kernel_rfl) (fun _ _ _ h => h) (Or.inl ⟨by rfl, ?_⟩) hHeld ?_
          rotate_left
          · (intro w' hSw; (try dsimp only at hSw); go_simp <;> with_reducible rfl)
          try simp only [Act.put, List.getElem_toArray, List.getElem_cons_succ, List.getElem_cons_zero, List.setIfInBounds_toArray, List.set_cons_zero, List.set_cons_succ]
          refine wpAnyH_take (i := 5) (oi := _) (v := ?_) rfl (by kernel_rfl) (by kernel_rfl) (by kernel_rfl) (fun _ _ _ h => h) (Or.inl ⟨by rfl, ?_⟩) hHeld ?_
          rotate_left
          · (intro w' hSw; (try dsimp only at hSw); go_simp <;> with_reducible rfl)
          try simp only [Act.put, List.getElem_toArray, List.getElem_cons_succ, List.getElem_cons_zero, List.setIfInBounds_toArray, List.set_cons_zero, List.set_cons_succ]
          refine wpAnyH_take (i := 6) (oi := _) (v := ?_) rfl (by kernel_rfl) (by kernel_rfl) (by kernel_rfl) (fun _ _ _ h => h) (Or.inl ⟨by rfl, ?_⟩) hHeld ?_
          rotate_left
          · (intro w' hSw; (try dsimp only at hSw); go_simp <;> with_reducible rfl)
          try simp only [Act.put, List.getElem_toArray, List.getElem_cons_succ, List.getElem_cons_zero, List.setIfInBounds_toArray, List.set_cons_zero, List.set_cons_succ]
          refine wpAnyH_take (i := 7) (oi := _) (v := ?_) rfl (by kernel_rfl) (by kernel_rfl) (by kernel_rfl) (fun _ _ _ h => h) (Or.inl ⟨by rfl, ?_⟩) hHeld ?_
          rotate_left
          · (intro w' hSw; (try dsimp only at hSw); go_simp <;> with_reducible rfl)
          try simp only [Act.put, List.getElem_toArray, List.getElem_cons_succ, List.getElem_cons_zero, List.setIfInBounds_toArray, List.set_cons_zero, List.set_cons_succ]
          refine wpAnyH_take (i := 8) (oi := _) (v := ?_) rfl (by kernel_rfl) (by kernel_rfl) (by kernel_rfl) (fun _ _ _ h => h) (Or.inl ⟨by rfl, ?_⟩) hHeld ?_
          rotate_left
          · (intro w' hSw; (try dsimp only at hSw); go_simp <;> with_reducible rfl)
          try simp only [Act.put, List.getElem_toArray, List.getElem_cons_succ, List.getElem_cons_zero, List.setIfInBounds_toArray, List.set_cons_zero, List.set_cons_succ]
          refine wpAnyH_take (i := 9) (oi := _) (v := ?_) rfl (by kernel_rfl) (by kernel_rfl) (by kernel_rfl) (fun _ _ _ h => h) (Or.inl ⟨by rfl, ?_⟩) hHeld ?_
          rotate_left
          · (intro w' hSw; (try dsimp only at hSw); go_simp <;> with_reducible rfl)
          try simp only [Act.put, List.getElem_toArray, List.getElem_cons_succ, List.getElem_cons_zero, List.setIfInBounds_toArray, List.set_cons_zero, List.set_cons_succ]
          refine wpAnyH_ready (rs := [10]) (by kernel_rfl) (by simp) (AllReadyH.cons (o := _) rfl (fun K hK => ?_) AllReadyH.nil)
          try simp only [Act.put, List.getElem_toArray, List.getElem_cons_succ, List.getElem_cons_zero, List.setIfInBounds_toArray, List.set_cons_zero, List.set_cons_succ]
          go_simp
          go_at_call 64
          refine (CVo.out _ (HB1.out.trans (D.mono HB1.out.size))).mono ?_
          rintro e W2 ⟨va, vb, rfl, ox, d5⟩
          replace ox := ox.base D.size
          replace D := D.trans (d5.mono D.size)
          clear d5 CVo
          refine hK.out _ _ (HS.out _ D) (fun hHeld => ?_)
          clear hK K
          try simp only [Act.put, List.getElem_toArray, List.getElem_cons_succ, List.getElem_cons_zero, List.setIfInBounds_toArray, List.set_cons_zero, List.set_cons_succ]
          refine wpAnyH_take (i := 11) (oi := _) (v := ?_) rfl (by kernel_rfl) (by kernel_rfl) (by kernel_rfl) (fun _ _ _ h => h) (Or.inl ⟨by rfl, ?_⟩) hHeld ?_
          rotate_left
          · (intro w' hSw; (try dsimp only at hSw); go_simp <;> with_reducible rfl)
          try simp only [Act.put, List.getElem_toArray, List.getElem_cons_succ, List.getElem_cons_zero, List.setIfInBounds_toArray, List.set_cons_zero, List.set_cons_succ]
          obtain ⟨⟨a0, b0, v0, v1, v2⟩, vf, ⟨cs, fr, hty⟩, hgB, col9, o9⟩ := cr_put HO2.out rfl hn D HB1.out.size ox
          have vf0 := vf (n * 3)
          have vf1 := vf (n * 3 + 1)
          have vf2 := vf (n * 3 + 2)
          obtain ⟨Ap, cp, rfl, -, -⟩ := ox.1.form
          obtain ⟨Av, cv, rfl, -, -⟩ := ox.2.1.form
          have n0 := ty_ne (HX0.out.later D) hty (by decide)
          have n1 := ty_ne (HX1.out.later D) hty (by decide)
          have n6 := ty_ne (HX6.out.later D) hty (by decide)
          have b3 := HB1.out.trans (D.mono HB1.out.size)
          have b1 := ((b3.setCell (p := ⟨gT, n * 3, none⟩) hgB (.slice Ap t.ps.length cp)).setCell (p := ⟨gT, n * 3 + 1, none⟩) hgB (.slice Av (t.vs.set k (1)).length cv)).setCell (p := ⟨gT, n * 3 + 2, none⟩) hgB (.int .i64 (votedTx t k (1)).d)
          have x1 := (((HX1.out.later D).far (p := ⟨gT, n * 3, none⟩) n1 (.slice Ap t.ps.length cp)).far (p := ⟨gT, n * 3 + 1, none⟩) n1 (.slice Av (t.vs.set k (1)).length cv)).far (p := ⟨gT, n * 3 + 2, none⟩) n1 (.int .i64 (votedTx t k (1)).d)
          have x6 := (((HX6.out.later D).far (p := ⟨gT, n * 3, none⟩) n6 (.slice Ap t.ps.length cp)).far (p := ⟨gT, n * 3 + 1, none⟩) n6 (.slice Av (t.vs.set k (1)).length cv)).far (p := ⟨gT, n * 3 + 2, none⟩) n6 (.int .i64 (votedTx t k (1)).d)
          have x0 := (((HX0.out.later D).far (p := ⟨gT, n * 3, none⟩) n0 (.slice Ap t.ps.length cp)).far (p := ⟨gT, n * 3 + 1, none⟩) n0 (.slice Av (t.vs.set k (1)).length cv)).far (p := ⟨gT, n * 3 + 2, none⟩) n0 (.int .i64 (votedTx t k (1)).d)
          have HO9 := hid o9
          clear vf hty n0 n1 n6 b3 ox o9 D
          refine wpAnyH_ready (rs := [12]) (by kernel_rfl) (by simp) (AllReadyH.cons (o := _) rfl (fun K hK => ?_) AllReadyH.nil)
          try simp only [Act.put, List.getElem_toArray, List.getElem_cons_succ, List.getElem_cons_zero, List.setIfInBounds_toArray, List.set_cons_zero, List.set_cons_succ]
          go_simp
          refine hK.out _ _ ⟨x6.reads.1, x0.reads.1, (b1.cell HAD.out).trans HG0.out, (b1.cell (p := ⟨(ad.add (n * 3)).block, (ad.add (n * 3)).off + 1, none⟩) HAD.out).trans HG1.out, (b1.cell (p := ⟨(ad.add (n * 3)).block, (ad.add (n * 3)).off + 2, none⟩) HAD.out).trans HG2.out⟩ (fun hHeld => ?_)
          clear hK K
          try simp only [Act.put, List.getElem_toArray, List.getElem_cons_succ, List.getElem_cons_zero, List.setIfInBounds_toArray, List.set_cons_zero, List.set_cons_succ]
          refine wpAnyH_done (by kernel_rfl) ?_ _
          obtain ⟨W, hW⟩ : ∃ x, ((W2.setCell ⟨gT, n * 3, none⟩ (.slice Ap t.ps.length cp)).setCell ⟨gT, n * 3 + 1, none⟩ (.slice Av (t.vs.set k (1)).length cv)).setCell ⟨gT, n * 3 + 2, none⟩ (.int .i64 (votedTx t k (1)).d) = x := ⟨_, rfl⟩
          have HO8 : Hid (OwnCr col9 W w.heap.size (.agg #[.slice (some ⟨gT, 0, none⟩) q.ts.length co, .slice Ab q.os.length cb]) ⟨q.ts.set n (votedTx t k (1)), q.os⟩) := by
            rw [← hW]
            exact HO9.out
          have hW' : ((W2.setCell ⟨gT, n * 3, none⟩ (.slice Ap (votedTx t k (1)).ps.length cp)).setCell ⟨gT, n * 3 + 1, none⟩ (.slice Av (votedTx t k (1)).vs.length cv)).setCell ⟨gT, n * 3 + 2, none⟩ (.int .i64 (votedTx t k (1)).d) = W := hW
          rw [hW] at x0 x1 x6 b1
          first | rw [hW'] | rw [hW]
          clear hW hW' HO9 hHeld v0 v1 v2 vf0 vf1 vf2 HX0 HX1 HX6 HB1 HO2 HP5 HP6 HUS HSU y0 y1
          obtain ⟨q4, q5, q6, -⟩ := cr_dec HO8.out (by simp) (n := n) (by simpa using hn) 0
          simp only [List.getElem_set_self] at q4
          clear q5
          obtain ⟨u0, u1, uf⟩ := id x6.reads
          have hyt := yes_tx HTV.out HDD.out HKV.out
          by_cases hall : (t.vs.set k 1).all (· == 1) = true
          · have hd3 : (votedTx t k 1).d = 2 := by
              rw [hyt]
              unfold yesTx
              rw [if_pos hall]
            rw [hd3] at q4
            have hx : x = ⟨q.ts.set n (votedTx t k 1), q.os ++ [(n : Int)]⟩ := by
              rw [HXX.out, hyt, if_pos trivial]
              unfold yesC
              rw [HO.out, if_pos hall]
            obtain ⟨oT, oI, oC⟩ := HO8.out.parts
            have rI := World.ownsRow.alloc oI (.cells #[.int .i64 n] 3)
            have zI := b1.size
            have HP : Hid (∀ v7 w7, w7.ownsRow w.heap.size 3 1 v7 (q.os.length + 1) (ints q.os ++ [.int .i64 n]) → (W.alloc (.cells #[.int .i64 n] 3)).grownBy w7 (Value.slice Ab q.os.length cb).ownBlock → (v7.ownBlock = (Value.slice Ab q.os.length cb).ownBlock ∨ v7.ownBlock = some (W.alloc (.cells #[.int .i64 n] 3)).heap.size) →
                ∃ A7 c7 col7, v7 = .slice A7 (q.os.length + 1) c7 ∧ (∃ v, w7.cell? ⟨g, 1, none⟩ = some v) ∧ w7.frozen? ⟨g, 1, none⟩ = false ∧
                  Blk2s (w7.setCell ⟨g, 1, none⟩ (.slice A7 (q.os.length + 1) c7)) (w.heap.size + 1) 26 (.slice none 0 0) (.slice none 0 0) ∧ Blk2s (w7.setCell ⟨g, 1, none⟩ (.slice A7 (q.os.length + 1) c7)) g 26 (.slice (some ⟨gT, 0, none⟩) q.ts.length co) (.slice A7 (q.os.length + 1) c7) ∧
                  Below w.heap.size w (w7.setCell ⟨g, 1, none⟩ (.slice A7 (q.os.length + 1) c7)) ∧ OwnCr col7 (w7.setCell ⟨g, 1, none⟩ (.slice A7 (q.os.length + 1) c7)) w.heap.size (.agg #[.slice (some ⟨gT, 0, none⟩) q.ts.length co, .slice A7 (q.os.length + 1) c7]) x) := by
              rw [hx]
              exact cr_order HO8.out x1 x6 (by have := HB2.out; omega) b1
            clear hx hd3 hyt hall HXX x1 x0 b1 oT oI oC HO8 x6
            have ui := uf 1
            clear uf
            go_upto_region 12 with (at_builtin; go_must (refine wpList_append_own_at _ rfl _ _ 24 rfl w.heap.size 3 i1 (.int .i64 0) 1 8 Try.underlying24 hj hy0 hy1 hy2 rfl (by decide) (.slice Ab q.os.length cb) q.os.length _ rfl rI ⟨W.heap.size, 0, none⟩ 1 1 [.int .i64 n] rfl rfl (cell_one_new _ _ _) (one_int _) (by unfold maxLen; omega) (by omega) (by simp; omega) ?_); intro v7 w7 hown hg _ hat; obtain ⟨A7, c7, col7, rfl, ⟨v4, t4⟩, f4, x1, x6, b1, o9⟩ := HP.out _ _ hown hg hat)
            clear HP rI hown hg u0 u1 ui q4
            obtain ⟨W3, hW⟩ : ∃ x, w7.setCell ⟨g, 1, none⟩ (.slice A7 (q.os.length + 1) c7) = x := ⟨_, rfl⟩
            rw [hW] at x1 x6 b1 o9 ⊢
            clear hW t4 f4
            obtain ⟨u0, u1, -⟩ := id x6.reads
            have x0 := trivial
            obtain ⟨t0, t1, tf⟩ := id x1.reads
            have tf0 := tf 0
            have tf1 := tf 1
            clear tf
            have o10 := (o9.keptT (by decide) (by decide) (by decide) (by decide) (but_set _ (w.heap.size + 1) 0 (.slice (some ⟨gT, 0, none⟩) q.ts.length co)) (blk_type x1)).keptT (by decide) (by decide) (by decide) (by decide) (but_set _ (w.heap.size + 1) 1 (.slice A7 (q.os.length + 1) c7)) (blk_type (x1.set0 _))
            have b9 := (b1.setCell (p := ⟨w.heap.size + 1, 0, none⟩) (Nat.le_succ _) (.slice (some ⟨gT, 0, none⟩) q.ts.length co)).setCell (p := ⟨w.heap.size + 1, 1, none⟩) (Nat.le_succ _) (.slice A7 (q.os.length + 1) c7)
            obtain ⟨p0, p1, -⟩ := ((x1.set0 (.slice (some ⟨gT, 0, none⟩) q.ts.length co)).set1 (.slice A7 (q.os.length + 1) c7)).reads
            clear x0 x1 o9 b1
            go_wp2
            exact bodyPost_ret (v := .tuple #[.agg #[.slice (some ⟨gT, 0, none⟩) q.ts.length co, .slice A7 (q.os.length + 1) c7], .bool true]) (by simp [results, Try.results25, go_sem, p0, p1]) rfl ⟨_, _, rfl, o10, b9⟩
          · have hd3 : (votedTx t k 1).d = 0 := by
              rw [hyt]
              unfold yesTx
              rw [if_neg hall]
            rw [hd3] at q4
            have hx : x = ⟨q.ts.set n (votedTx t k 1), q.os⟩ := by
              rw [HXX.out, hyt, if_pos trivial]
              unfold yesC
              rw [HO.out, if_neg hall]
            have o9 := HO8.out
            rw [← hx] at o9
            clear HXX hx HO8 hd3 uf hyt hall
            obtain ⟨t0, t1, tf⟩ := id x1.reads
            have tf0 := tf 0
            have tf1 := tf 1
            clear tf
            have o10 := (o9.keptT (by decide) (by decide) (by decide) (by decide) (but_set _ (w.heap.size + 1) 0 (.slice (some ⟨gT, 0, none⟩) q.ts.length co)) (blk_type x1)).keptT (by decide) (by decide) (by decide) (by decide) (but_set _ (w.heap.size + 1) 1 (.slice Ab q.os.length cb)) (blk_type (x1.set0 _))
            have b9 := (b1.setCell (p := ⟨w.heap.size + 1, 0, none⟩) (Nat.le_succ _) (.slice (some ⟨gT, 0, none⟩) q.ts.length co)).setCell (p := ⟨w.heap.size + 1, 1, none⟩) (Nat.le_succ _) (.slice Ab q.os.length cb)
            obtain ⟨p0, p1, -⟩ := ((x1.set0 (.slice (some ⟨gT, 0, none⟩) q.ts.length co)).set1 (.slice Ab q.os.length cb)).reads
            clear x0 x1 o9 b1
            go_wp2
            exact bodyPost_ret (v := .tuple #[.agg #[.slice (some ⟨gT, 0, none⟩) q.ts.length co, .slice Ab q.os.length cb], .bool true]) (by simp [results, Try.results25, go_sem, p0, p1]) rfl ⟨_, _, rfl, o10, b9⟩
end Go.Proofs.Ytelmeknpmlbplaa
