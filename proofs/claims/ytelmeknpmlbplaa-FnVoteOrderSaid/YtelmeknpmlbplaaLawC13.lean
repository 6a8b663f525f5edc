/- The coordinator with the slices $SA and $SB is stored as the answer, with the word $BB. -/
/- Laws on coordinators: a coordinator is boxed. -/
/-
  Walk of the law on the order of two votes.
-/
import Derived.Test.YtelmeknpmlbplaaLawCo5
namespace Go.Proofs.Ytelmeknpmlbplaa
open Go.RowKit Wo Pu Rf Co
set_option linter.unusedVariables false
set_option linter.unusedSimpArgs false

theorem counted_yes1 {q x : Crd} {t s : Int} (h : Counted q t s true x true) : ∃ n k, ∃ a : Awaits q t s n k, CV q ∧ x = yesC q n k a.hi := by
  generalize hb : true = b at h
  generalize hy : b = y at h
  cases h with
  | bad _ => subst hb; cases hy
  | no _ _ => subst hb; cases hy
  | yes n k a hv => exact ⟨n, k, a, hv, by subst hb; rfl⟩
theorem order_swap {q xs a b : Crd} {t s o : Int} (h : Counted q t s true xs true) (ha : Counted xs t o true a true) (hb : Counted q t o true b true) : Counted b t s true a true := by
  obtain ⟨n, k, A, hv, rfl⟩ := counted_yes1 h
  obtain ⟨n2, k2, A2, hv2, rfl⟩ := counted_yes1 ha
  obtain ⟨n3, k3, A3, -, rfl⟩ := counted_yes1 hb
  have e2 : n2 = n := by have := A.ht; have := A2.ht; omega
  have e3 : n3 = n := by have := A.ht; have := A3.ht; omega
  subst e2 e3
  have hi := A.hi
  have g := yesC_get (c := q) (k := k) hi
  have d2 := A2.d0
  have p2 := A2.kp
  have s2 := A2.hs
  have v2 := A2.v0
  have l2 := A2.hk
  simp only [g] at d2 p2 s2 v2 l2
  have ek : k2 = k3 := parts_one (hv.txs _ (List.getElem_mem hi)).parts p2 A3.kp (s2.trans A3.hs.symm)
  subst ek
  have hne : k ≠ k2 := by
    rintro rfl
    simp [yesTx] at v2
  have q1 : (q.ts[n3].vs.set k 1).all (· == 1) = false := by
    rw [← Bool.not_eq_true]
    intro e
    unfold yesTx at d2
    simp only [e, if_true] at d2
    omega
  have q2 : (q.ts[n3].vs.set k2 1).all (· == 1) = false := by
    rw [← Bool.not_eq_true]
    intro e
    have hk : k < (q.ts[n3].vs.set k2 1).length := by rw [List.length_set]; exact A.hk
    have h1 := List.all_eq_true.1 e _ (List.getElem_mem hk)
    rw [List.getElem_set_ne (fun e => hne e.symm), A.v0] at h1
    simp at h1
  have g3 := yesC_get (c := q) (k := k2) hi
  have hib : n3 < (yesC q n3 k2 hi).ts.length := by
    show n3 < (q.ts.set n3 _).length
    rw [List.length_set]
    exact hi
  have B : Awaits (yesC q n3 k2 hi) t s n3 k := by
    refine ⟨⟨hib, ?_, ?_, ?_⟩, A.ht, ?_, ?_⟩
    · rw [g3]
      unfold yesTx
      simp only [q2]
      rfl
    · simp only [g3]
      show k < (q.ts[n3].vs.set k2 1).length
      rw [List.length_set]
      exact A.hk
    · simp only [g3]
      exact (List.getElem_set_ne (fun e => hne e.symm) _).trans A.v0
    · simp only [g3]
      exact A.kp
    · simp only [g3]
      exact A.hs
  have := Counted.yes (y := true) n3 k B (yesC_valid hv A3.toOpen)
  rw [if_pos rfl] at this
  rw [votes_swap hi hne q1 q2]
  exact this
theorem FnVoteOrder_no (A : Option Addr) (c : Nat) (bs : List Int) (A' : Option Addr) (c' : Nat) (bs' : List Int) (w : World) (h : Code_ w A c bs) (h' : Code_ w A' c' bs') (hl : ¬ (bs.length ≤ 1048576 ∧ bs'.length ≤ 1048576)) :
    Calls Try.prog 6 #[.slice A bs.length c, .slice A' bs'.length c'] w (Ret (.bool true) w) := by
  have hc := h.2.1
  have hm := h.2.2.1
  have hc' := h'.2.1
  have hm' := h'.2.2.1
  unfold maxLen at hm hm'
  by_cases h1 : bs.length ≤ 1048576
  · have h2 : ¬ bs'.length ≤ 1048576 := fun e => hl ⟨h1, e⟩
    clear hl
    go_enter Try.func6, Try.ntmps6
    go_wp2
    go_ret
    exact .mk_ (Below.refl _ _)
  · clear hl
    go_enter Try.func6, Try.ntmps6
    go_wp2
    go_ret
    exact .mk_ (Below.refl _ _)
set_option linter.unusedSimpArgs false in
set_option linter.unusedVariables false in
set_option maxRecDepth 100000 in
set_option maxHeartbeats 16000000 in
theorem FnVoteOrder_yes (A : Option Addr) (c : Nat) (bs : List Int) (A' : Option Addr) (c' : Nat) (bs' : List Int) (w : World) (h : Code_ w A c bs) (h' : Code_ w A' c' bs') (hl : bs.length ≤ 1048576) (hl' : bs'.length ≤ 1048576) :
    Calls Try.prog 6 #[.slice A bs.length c, .slice A' bs'.length c'] w (Ret (.bool true) w) := by
  have hcc := h'.2.1
  clear h'
  go_enter Try.func6, Try.ntmps6
  go_wp2_with fail
  refine (DrawCoordinatorVote_any A c bs _ h).mono ?_
  rintro e w1 ⟨v1, q, t, s, y, rfl, s1, hs, bw⟩
  obtain ⟨xs, b, hv⟩ := counted_ex q t s y
  have HV := hid hv
  have HSM := hid hs
  have HSX := hid (cv_few hv.valid).1.fit
  have HVX := hid hv.valid
  have CI := hid fun (w9 : World) (hw9 : Below w1.heap.size w1 w9) => implCoordinatorVote_is xs b v1 q t s y w9 (s1.on hw9 hw9.size) hs.fit hv
  have CS := hid fun (w9 : World) (hw9 : Below w1.heap.size w1 w9) => specCoordinatorVote_is xs b v1 q t s y w9 (s1.on hw9 hw9.size) hs.fit hv
  clear hv hs
  obtain ⟨A1, c1, B1, k1, rfl, T1, hc1, R1, hd1⟩ := s1
  unfold crV at *
  go_upto_region 4 with fail
  have al := (Below.refl (w1).heap.size w1).alloc (Nat.le_refl _) (.cells #[.slice A1 q.ts.length c1, .slice B1 q.os.length k1] 26)
  have xn := Blk2s.new_ w1 26 (.slice A1 q.ts.length c1) (.slice B1 q.os.length k1)
  obtain ⟨w2, hw'⟩ : ∃ x, (w1).alloc (.cells #[.slice A1 q.ts.length c1, .slice B1 q.os.length k1] 26) = x := ⟨_, rfl⟩
  rw [hw'] at al xn ⊢
  clear hw'
  have x1 := xn
  have D1 := al
  obtain ⟨y1, z1, -⟩ := id x1.reads
  clear xn al
  go_wp2_with fail
  refine (CI.out _ D1).mono ?_
  rintro e w3 ⟨v3, col3, rfl, o3, d3⟩
  obtain ⟨A2, c2, B2, k2, rfl, -⟩ := o3.form
  unfold crV at o3 ⊢
  have D3 := D1.trans (d3.mono D1.size)
  have X1 := x1.later d3
  clear x1 D1 d3 y1 z1 CI
  go_upto_region 5 with fail
  have al := (Below.refl (w3).heap.size w3).alloc (Nat.le_refl _) (.cells #[.slice A2 xs.ts.length c2, .slice B2 xs.os.length k2] 26)
  have xn := Blk2s.new_ w3 26 (.slice A2 xs.ts.length c2) (.slice B2 xs.os.length k2)
  obtain ⟨w4, hw'⟩ : ∃ x, (w3).alloc (.cells #[.slice A2 xs.ts.length c2, .slice B2 xs.os.length k2] 26) = x := ⟨_, rfl⟩
  rw [hw'] at al xn ⊢
  clear hw'
  have x2 := xn
  have x1 := X1.later al
  have D4 := D3.trans (al.mono D3.size)
  have q2 := o3.below al
  obtain ⟨y1, z1, -⟩ := id x1.reads
  clear xn al X1 D3 o3
  go_wp2_with fail
  refine (CS.out _ D4).mono ?_
  rintro e w5 ⟨v5, col5, rfl, o5, d5⟩
  obtain ⟨A3, c3, B3, k3, rfl, -⟩ := o5.form
  unfold crV at o5 ⊢
  have D5 := D4.trans (d5.mono D4.size)
  have X1 := x1.later d5
  have X2 := x2.later d5
  have q3 := q2.below d5
  clear x1 x2 D4 d5 y1 z1 CS q2
  go_upto_region 6 with fail
  have al := (Below.refl (w5).heap.size w5).alloc (Nat.le_refl _) (.cells #[.slice A3 xs.ts.length c3, .slice B3 xs.os.length k3] 26)
  have xn := Blk2s.new_ w5 26 (.slice A3 xs.ts.length c3) (.slice B3 xs.os.length k3)
  obtain ⟨w6, hw'⟩ : ∃ x, (w5).alloc (.cells #[.slice A3 xs.ts.length c3, .slice B3 xs.os.length k3] 26) = x := ⟨_, rfl⟩
  rw [hw'] at al xn ⊢
  clear hw'
  have x1 := X1.later al
  have x2 := X2.later al
  have D6 := D5.trans (al.mono D5.size)
  have q4 := q3.below al
  have p4 := o5.below al
  have b6 := bw.trans (D6.mono bw.size)
  have HD6 := hid D6
  have HF : Hid (∀ x, Below w6.heap.size w6 x → (x.cell? ⟨w1.heap.size, 0, none⟩ = some (.slice A1 q.ts.length c1) ∧ x.cell? ⟨w1.heap.size, 1, none⟩ = some (.slice B1 q.os.length k1)) ∧ (x.cell? ⟨w3.heap.size, 0, none⟩ = some (.slice A2 xs.ts.length c2) ∧ x.cell? ⟨w3.heap.size, 1, none⟩ = some (.slice B2 xs.os.length k2)) ∧ (x.cell? ⟨w5.heap.size, 0, none⟩ = some (.slice A3 xs.ts.length c3) ∧ x.cell? ⟨w5.heap.size, 1, none⟩ = some (.slice B3 xs.os.length k3))) := fun x hx =>
    ⟨⟨(x1.later hx).reads.1, (x1.later hx).reads.2.1⟩, ⟨(x2.later hx).reads.1, (x2.later hx).reads.2.1⟩, (xn.later hx).reads.1, (xn.later hx).reads.2.1⟩
  have HT1 : Hid (∀ x, Below w6.heap.size w6 x → Txs x x.heap.size A1 q.ts) := fun x hx => T1.on (D6.trans (hx.mono D6.size))
  have HR1 : Hid (∀ x, Below w6.heap.size w6 x → Row x x.heap.size B1 (ints q.os)) := fun x hx => (R1.below (D6.trans (hx.mono D6.size)) (Nat.le_refl _)).more (Nat.le_trans D6.size hx.size)
  have HC1 : Hid (∀ x, Below w6.heap.size w6 x → Crdd x x.heap.size (.agg #[.slice A1 q.ts.length c1, .slice B1 q.os.length k1]) q) := fun x hx => ⟨A1, c1, B1, k1, rfl, HT1.out x hx, hc1, HR1.out x hx, hd1⟩
  have HO2 : Hid (∀ x, Below w6.heap.size w6 x → OwnCr col3 x w2.heap.size (.agg #[.slice A2 xs.ts.length c2, .slice B2 xs.os.length k2]) xs) := fun x hx => q4.below hx
  have HC2 : Hid (∀ x, Below w6.heap.size w6 x → Crdd x x.heap.size (.agg #[.slice A2 xs.ts.length c2, .slice B2 xs.os.length k2]) xs) := fun x hx => (q4.below hx).crd
  have HC3 : Hid (∀ x, Below w6.heap.size w6 x → Crdd x x.heap.size (.agg #[.slice A3 xs.ts.length c3, .slice B3 xs.os.length k3]) xs) := fun x hx => (p4.below hx).crd
  have dx := Below.refl w6.heap.size w6
  have HLT : Hid (w1.heap.size < w6.heap.size ∧ w3.heap.size < w6.heap.size ∧ w5.heap.size < w6.heap.size) := ⟨x1.lt, x2.lt, xn.lt⟩
  replace bw := b6
  clear b6 x1 x2 xn X1 X2 al D5 D6 q3 q4 p4 o5 T1 R1
  obtain ⟨⟨y1, z1⟩, ⟨y2, z2⟩, y3, z3⟩ := HF.out _ dx
  go_wp2_with fail
  refine (sameCoordinator_is _ _ xs _ (HC2.out _ dx) (HC3.out _ dx) HSX.out).mono ?_
  rintro e w7 ⟨rfl, dn⟩
  replace dx := dx.trans ((dn).mono dx.size)
  clear y1 z1 y2 z2 y3 z3 dn
  obtain ⟨⟨y1, z1⟩, ⟨y2, z2⟩, y3, z3⟩ := HF.out _ dx
  cases b with
  | false =>
    go_wp2_with fail
    refine (sameCoordinator_is _ _ xs _ (HC2.out _ dx) (HC3.out _ dx) HSX.out).mono ?_
    rintro e w8 ⟨rfl, dn⟩
    replace dx := dx.trans ((dn).mono dx.size)
    clear y1 z1 y2 z2 y3 z3 dn
    obtain ⟨⟨y1, z1⟩, ⟨y2, z2⟩, y3, z3⟩ := HF.out _ dx
    go_wp2
    go_ret
    exact .mk_ (bw.trans (dx.mono bw.size))
  | true =>
    cases y with
    | false =>
      go_wp2_with fail
      refine (sameCoordinator_is _ _ xs _ (HC2.out _ dx) (HC3.out _ dx) HSX.out).mono ?_
      rintro e w8 ⟨rfl, dn⟩
      replace dx := dx.trans ((dn).mono dx.size)
      clear y1 z1 y2 z2 y3 z3 dn
      obtain ⟨⟨y1, z1⟩, ⟨y2, z2⟩, y3, z3⟩ := HF.out _ dx
      go_wp2
      go_ret
      exact .mk_ (bw.trans (dx.mono bw.size))
    | true =>
      obtain ⟨o, ho⟩ : ∃ o : Int, ((bs'.length : Int) % 3) = o := ⟨_, rfl⟩
      obtain ⟨xa, ba, ha⟩ := counted_ex xs t o true
      obtain ⟨xb, bb, hb⟩ := counted_ex q t o true
      have HA := hid ha
      have HB := hid hb
      have HXA := hid (cv_few ha.valid).1.fit
      have HXB := hid (cv_few hb.valid).1.fit
      have CA := hid fun (w9 : World) (hw9 : Below w6.heap.size w6 w9) => implCoordinatorVote_is xa ba _ xs t o true w9 (HC2.out _ hw9) HSX.out ha
      have CB := hid fun (w9 : World) (hw9 : Below w6.heap.size w6 w9) => implCoordinatorVote_is xb bb _ q t o true w9 (HC1.out _ hw9) HSM.out.fit hb
      clear ha hb
      go_wp2_with fail
      try rw [ho]
      refine (CA.out _ dx).mono ?_
      rintro e w8 ⟨v8, col8, rfl, o8, d8⟩
      obtain ⟨A8, c8, B8, k8, rfl, -⟩ := o8.form
      unfold crV at o8 ⊢
      replace dx := dx.trans ((d8).mono dx.size)
      clear y1 z1 y2 z2 y3 z3 d8
      obtain ⟨⟨y1, z1⟩, ⟨y2, z2⟩, y3, z3⟩ := HF.out _ dx
      clear CA
      go_upto_region 10 with fail
      have al := (Below.refl (w8).heap.size w8).alloc (Nat.le_refl _) (.cells #[.slice A8 xa.ts.length c8, .slice B8 xa.os.length k8] 26)
      have xn := Blk2s.new_ w8 26 (.slice A8 xa.ts.length c8) (.slice B8 xa.os.length k8)
      obtain ⟨w9, hw'⟩ : ∃ x, (w8).alloc (.cells #[.slice A8 xa.ts.length c8, .slice B8 xa.os.length k8] 26) = x := ⟨_, rfl⟩
      rw [hw'] at al xn ⊢
      clear hw'
      have x4 := xn
      have o9 := o8.below al
      replace dx := dx.trans ((al).mono dx.size)
      clear y1 z1 y2 z2 y3 z3 al
      obtain ⟨⟨y1, z1⟩, ⟨y2, z2⟩, y3, z3⟩ := HF.out _ dx
      clear xn o8
      go_wp2_with fail
      refine (CB.out _ dx).mono ?_
      rintro e w10 ⟨v10, col10, rfl, o10, d10⟩
      obtain ⟨A9, c9, B9, k9, rfl, -⟩ := o10.form
      unfold crV at o10 ⊢
      have o11 := o9.below d10
      have x5 := x4.later d10
      replace dx := dx.trans ((d10).mono dx.size)
      clear y1 z1 y2 z2 y3 z3 d10
      obtain ⟨⟨y1, z1⟩, ⟨y2, z2⟩, y3, z3⟩ := HF.out _ dx
      clear o9 x4 CB
      go_upto_region 11 with fail
      have al := (Below.refl (w10).heap.size w10).alloc (Nat.le_refl _) (.cells #[.slice A9 xb.ts.length c9, .slice B9 xb.os.length k9] 26)
      have xn := Blk2s.new_ w10 26 (.slice A9 xb.ts.length c9) (.slice B9 xb.os.length k9)
      obtain ⟨w11, hw'⟩ : ∃ x, (w10).alloc (.cells #[.slice A9 xb.ts.length c9, .slice B9 xb.os.length k9] 26) = x := ⟨_, rfl⟩
      rw [hw'] at al xn ⊢
      clear hw'
      have x6 := x5.later al
      have x7 := xn
      have o12 := o11.below al
      have o13 := o10.below al
      replace dx := dx.trans ((al).mono dx.size)
      clear y1 z1 y2 z2 y3 z3 al
      obtain ⟨⟨y1, z1⟩, ⟨y2, z2⟩, y3, z3⟩ := HF.out _ dx
      clear x5 xn o11 o10
      cases ba with
      | false =>
        go_wp2
        go_ret
        exact .mk_ (bw.trans (dx.mono bw.size))
      | true =>
        cases bb with
        | false =>
          go_wp2
          go_ret
          exact .mk_ (bw.trans (dx.mono bw.size))
        | true =>
          have CX := hid (implCoordinatorVote_is xa true _ xb t s true w11 o13.crd HXB.out (order_swap HV.out HA.out HB.out))
          obtain ⟨y4, z4, -⟩ := id x6.reads
          obtain ⟨y5, z5, -⟩ := id x7.reads
          go_wp2_with fail
          refine CX.out.mono ?_
          rintro e w12 ⟨v12, col12, rfl, o14, d12⟩
          obtain ⟨AC, cC, BC, kC, rfl, -⟩ := o14.form
          unfold crV at o14 ⊢
          have o15 := o12.below d12
          have x8 := x6.later d12
          replace dx := dx.trans ((d12).mono dx.size)
          clear y1 z1 y2 z2 y3 z3 d12
          obtain ⟨⟨y1, z1⟩, ⟨y2, z2⟩, y3, z3⟩ := HF.out _ dx
          clear CX y4 z4 y5 z5 o12 o13 x6 x7
          go_upto_region 14 with fail
          have al := (Below.refl (w12).heap.size w12).alloc (Nat.le_refl _) (.cells #[.slice AC xa.ts.length cC, .slice BC xa.os.length kC] 26)
          have xn := Blk2s.new_ w12 26 (.slice AC xa.ts.length cC) (.slice BC xa.os.length kC)
          obtain ⟨w13, hw'⟩ : ∃ x, (w12).alloc (.cells #[.slice AC xa.ts.length cC, .slice BC xa.os.length kC] 26) = x := ⟨_, rfl⟩
          rw [hw'] at al xn ⊢
          clear hw'
          have x9 := x8.later al
          have x10 := xn
          have o16 := o15.below al
          have o17 := o14.below al
          replace dx := dx.trans ((al).mono dx.size)
          clear y1 z1 y2 z2 y3 z3 al
          obtain ⟨⟨y1, z1⟩, ⟨y2, z2⟩, y3, z3⟩ := HF.out _ dx
          clear xn x8 o15 o14
          obtain ⟨y4, z4, -⟩ := id x9.reads
          obtain ⟨y5, z5, -⟩ := id x10.reads
          go_wp2_with fail
          refine (sameCoordinator_is _ _ xa _ o17.crd o16.crd HXA.out).mono ?_
          rintro e w14 ⟨rfl, dn⟩
          replace dx := dx.trans ((dn).mono dx.size)
          clear y1 z1 y2 z2 y3 z3 dn
          obtain ⟨⟨y1, z1⟩, ⟨y2, z2⟩, y3, z3⟩ := HF.out _ dx
          clear y4 z4 y5 z5
          go_wp2
          go_ret
          exact .mk_ (bw.trans (dx.mono bw.size))
theorem FnVoteOrder_any (A : Option Addr) (c : Nat) (bs : List Int) (A' : Option Addr) (c' : Nat) (bs' : List Int) (w : World) (f1 : Row w w.heap.size A (bs.map (Value.int .u8))) (f2 : bs.length ≤ c) (f3 : c ≤ maxLen) (f4 : ∀ n ∈ bs, 0 ≤ n ∧ n < 256) (g1 : Row w w.heap.size A' (bs'.map (Value.int .u8))) (g2 : bs'.length ≤ c') (g3 : c' ≤ maxLen) (g4 : ∀ n ∈ bs', 0 ≤ n ∧ n < 256) :
    Calls Try.prog 6 #[.slice A bs.length c, .slice A' bs'.length c'] w (Ret (.bool true) w) := by
  by_cases hl : bs.length ≤ 1048576 ∧ bs'.length ≤ 1048576
  · exact FnVoteOrder_yes A c bs A' c' bs' w ⟨f1, f2, f3, f4⟩ ⟨g1, g2, g3, g4⟩ hl.1 hl.2
  · exact FnVoteOrder_no A c bs A' c' bs' w ⟨f1, f2, f3, f4⟩ ⟨g1, g2, g3, g4⟩ hl
end Go.Proofs.Ytelmeknpmlbplaa
