/- The coordinator with the slices $SA and $SB is stored as the answer, with the word $BB. -/
/- Laws on coordinators: a coordinator is boxed. -/
/-
  Walk of the law on a vote for a transaction.
-/
import Derived.Test.YtimdkddkgbmecaaLawCo5
namespace Go.Proofs.Ytimdkddkgbmecaa
open Go.RowKit Wo Pu Rf Co

theorem counted_yes_ {q x : Crd} {t s : Int} {y b : Bool} (h : Counted q t s y x b) (hy : y = true) (hb : b = true) : ∃ n k, ∃ a : Awaits q t s n k, CV q ∧ x = yesC q n k a.hi := by
  cases h with
  | bad _ => cases hb
  | no _ _ => cases hb
  | yes n k a hv =>
    subst hy
    exact ⟨n, k, a, hv, rfl⟩
theorem own_ne {a b : Nat} (h : a ≠ b) : some a ≠ (Value.slice (some ⟨b, 0, none⟩) 0 0).ownBlock := fun e => h (by simpa [Value.ownBlock] using e)
theorem op_append_row3 {P : Program} (w : World) {o : Oper} {a : Act} {K : Act → World → Prop} {Q : Exit → Act → World → Prop} (s x : Operand) (t : TypeId)
    (ho : o.op = .call { callee := .builtin .append, args := #[s, x], argTypes := #[t, t] })
    (base : Nat) (e : TypeId) (i : TypeInfo) (z : Value) (size bytes : Nat) (ht : P.underlying t = some (.slice e)) (hi : P.info? e = some i) (hz : i.zero = some z)
    (hsize : i.size = size) (hby : i.bytes = bytes) (hzs : z.cells.size = size) (hsz : 0 < size)
    (v : Value) (n : Nat) (xs : List Value) (hs : a.eval s = v) (hown : w.ownsRow base e size v n xs)
    (B : Nat) (A : Option Addr) (m c : Nat) (news : List Value) (hx : a.eval x = .slice A m c) (hr : Row w B A news) (hl : news.length = m * size) (h1 : ∀ u ∈ news, u.oneCell' = true)
    (h63 : n + m ≤ maxLen) (hbytes : (n + m) * bytes ≤ 140737488355328) (hbase : base ≤ w.heap.size)
    (h : ∀ v' w', w'.ownsRow base e size v' (n + m) (xs ++ news) → w.grownBy w' v.ownBlock → K (a.put o.dst v') w') : Oper.wp P o a w K Q := by
  have := op_append_row2 (P := P) (o := { o with guard := none }) (Q := Q) w rfl s x t ho base e i z size bytes ht hi hz hsize hby hzs hsz v n xs hs hown B A m c news hx hr hl h1 h63 hbytes hbase h
  unfold Oper.wp at this ⊢
  exact this
/- Among the two buildings: an empty slice .. -/
/- .. and the one of the transaction's number. -/
/- The order of before. -/
/- .. with the number; then the comparisons. -/
theorem FnVoteYes_no (A : Option Addr) (c : Nat) (bs : List Int) (w : World) (h : Code_ w A c bs) (hl : ¬ bs.length ≤ 1048576) :
    Calls Try.prog 5 #[.slice A bs.length c] w (Ret (.bool true) w) := by
  have hc := h.2.1
  have hm := h.2.2.1
  unfold maxLen at hm
  go_enter Try.func5, Try.ntmps5
  go_wp2
  go_ret
  exact .mk_ (Below.refl _ _)
set_option linter.unusedSimpArgs false in
set_option linter.unusedVariables false in
set_option maxRecDepth 100000 in
set_option maxHeartbeats 16000000 in
theorem FnVoteYes_yes (A : Option Addr) (c : Nat) (bs : List Int) (w : World) (h : Code_ w A c bs) (hl : bs.length ≤ 1048576) :
    Calls Try.prog 5 #[.slice A bs.length c] w (Ret (.bool true) w) := by
  obtain ⟨i1, hj, hy0, hy1, hy2⟩ := info_of info_int
  go_enter Try.func5, Try.ntmps5
  go_wp2_with fail
  refine (DrawCoordinatorVote_any A c bs _ h).mono ?_
  rintro e w1 ⟨v1, q, t, s, y, rfl, s1, hs, bw⟩
  obtain ⟨xs, b, hv⟩ := counted_ex q t s y
  have HV := hid hv
  have HSM := hid hs
  have HSX := hid (cv_few hv.valid).1.fit
  have HVX := hid hv.valid
  have CI := hid fun (w9 : World) (hw9 : Below w1.heap.size w1 w9) => implCoordinatorVote_is xs b v1 q t s y w9 (s1.on hw9 hw9.size) hs.fit hv
  have CS := hid fun (w9 : World) (hw9 : Below w1.heap.size w1 w9) => specCoordinatorVote_is xs b v1 q t s y w9 (s1.on hw9 hw9.size) hs.fit hv
  clear hv hs
  obtain ⟨A1, c1, B1, k1, rfl, T1, hc1, R1, hd1⟩ := s1
  unfold crV at *
  go_upto_region 4 with fail
  have al := (Below.refl (w1).heap.size w1).alloc (Nat.le_refl _) (.cells #[.slice A1 q.ts.length c1, .slice B1 q.os.length k1] 26)
  have xn := Blk2s.new_ w1 26 (.slice A1 q.ts.length c1) (.slice B1 q.os.length k1)
  obtain ⟨w2, hw'⟩ : ∃ x, (w1).alloc (.cells #[.slice A1 q.ts.length c1, .slice B1 q.os.length k1] 26) = x := ⟨_, rfl⟩
  rw [hw'] at al xn ⊢
  clear hw'
  have x1 := xn
  have D1 := al
  obtain ⟨y1, z1, -⟩ := id x1.reads
  clear xn al
  go_wp2_with fail
  refine (CI.out _ D1).mono ?_
  rintro e w3 ⟨v3, col3, rfl, o3, d3⟩
  obtain ⟨A2, c2, B2, k2, rfl, -⟩ := o3.form
  unfold crV at o3 ⊢
  have D3 := D1.trans (d3.mono D1.size)
  have X1 := x1.later d3
  clear x1 D1 d3 y1 z1 CI
  go_upto_region 5 with fail
  have al := (Below.refl (w3).heap.size w3).alloc (Nat.le_refl _) (.cells #[.slice A2 xs.ts.length c2, .slice B2 xs.os.length k2] 26)
  have xn := Blk2s.new_ w3 26 (.slice A2 xs.ts.length c2) (.slice B2 xs.os.length k2)
  obtain ⟨w4, hw'⟩ : ∃ x, (w3).alloc (.cells #[.slice A2 xs.ts.length c2, .slice B2 xs.os.length k2] 26) = x := ⟨_, rfl⟩
  rw [hw'] at al xn ⊢
  clear hw'
  have x2 := xn
  have x1 := X1.later al
  have D4 := D3.trans (al.mono D3.size)
  have q2 := o3.below al
  obtain ⟨y1, z1, -⟩ := id x1.reads
  clear xn al X1 D3 o3
  go_wp2_with fail
  refine (CS.out _ D4).mono ?_
  rintro e w5 ⟨v5, col5, rfl, o5, d5⟩
  obtain ⟨A3, c3, B3, k3, rfl, -⟩ := o5.form
  unfold crV at o5 ⊢
  have D5 := D4.trans (d5.mono D4.size)
  have X1 := x1.later d5
  have X2 := x2.later d5
  have q3 := q2.below d5
  clear x1 x2 D4 d5 y1 z1 CS q2
  go_upto_region 6 with fail
  have al := (Below.refl (w5).heap.size w5).alloc (Nat.le_refl _) (.cells #[.slice A3 xs.ts.length c3, .slice B3 xs.os.length k3] 26)
  have xn := Blk2s.new_ w5 26 (.slice A3 xs.ts.length c3) (.slice B3 xs.os.length k3)
  obtain ⟨w6, hw'⟩ : ∃ x, (w5).alloc (.cells #[.slice A3 xs.ts.length c3, .slice B3 xs.os.length k3] 26) = x := ⟨_, rfl⟩
  rw [hw'] at al xn ⊢
  clear hw'
  have x1 := X1.later al
  have x2 := X2.later al
  have D6 := D5.trans (al.mono D5.size)
  have q4 := q3.below al
  have p4 := o5.below al
  have b6 := bw.trans (D6.mono bw.size)
  have HD6 := hid D6
  have HF : Hid (∀ x, Below w6.heap.size w6 x → (x.cell? ⟨w1.heap.size, 0, none⟩ = some (.slice A1 q.ts.length c1) ∧ x.cell? ⟨w1.heap.size, 1, none⟩ = some (.slice B1 q.os.length k1)) ∧ (x.cell? ⟨w3.heap.size, 0, none⟩ = some (.slice A2 xs.ts.length c2) ∧ x.cell? ⟨w3.heap.size, 1, none⟩ = some (.slice B2 xs.os.length k2)) ∧ (x.cell? ⟨w5.heap.size, 0, none⟩ = some (.slice A3 xs.ts.length c3) ∧ x.cell? ⟨w5.heap.size, 1, none⟩ = some (.slice B3 xs.os.length k3))) := fun x hx =>
    ⟨⟨(x1.later hx).reads.1, (x1.later hx).reads.2.1⟩, ⟨(x2.later hx).reads.1, (x2.later hx).reads.2.1⟩, (xn.later hx).reads.1, (xn.later hx).reads.2.1⟩
  have HT1 : Hid (∀ x, Below w6.heap.size w6 x → Txs x x.heap.size A1 q.ts) := fun x hx => T1.on (D6.trans (hx.mono D6.size))
  have HR1 : Hid (∀ x, Below w6.heap.size w6 x → Row x x.heap.size B1 (ints q.os)) := fun x hx => (R1.below (D6.trans (hx.mono D6.size)) (Nat.le_refl _)).more (Nat.le_trans D6.size hx.size)
  have HC1 : Hid (∀ x, Below w6.heap.size w6 x → Crdd x x.heap.size (.agg #[.slice A1 q.ts.length c1, .slice B1 q.os.length k1]) q) := fun x hx => ⟨A1, c1, B1, k1, rfl, HT1.out x hx, hc1, HR1.out x hx, hd1⟩
  have HO2 : Hid (∀ x, Below w6.heap.size w6 x → OwnCr col3 x w2.heap.size (.agg #[.slice A2 xs.ts.length c2, .slice B2 xs.os.length k2]) xs) := fun x hx => q4.below hx
  have HC2 : Hid (∀ x, Below w6.heap.size w6 x → Crdd x x.heap.size (.agg #[.slice A2 xs.ts.length c2, .slice B2 xs.os.length k2]) xs) := fun x hx => (q4.below hx).crd
  have HC3 : Hid (∀ x, Below w6.heap.size w6 x → Crdd x x.heap.size (.agg #[.slice A3 xs.ts.length c3, .slice B3 xs.os.length k3]) xs) := fun x hx => (p4.below hx).crd
  have dx := Below.refl w6.heap.size w6
  have HLT : Hid (w1.heap.size < w6.heap.size ∧ w3.heap.size < w6.heap.size ∧ w5.heap.size < w6.heap.size) := ⟨x1.lt, x2.lt, xn.lt⟩
  replace bw := b6
  clear b6 x1 x2 xn X1 X2 al D5 D6 q3 q4 p4 o5 T1 R1
  obtain ⟨⟨y1, z1⟩, ⟨y2, z2⟩, y3, z3⟩ := HF.out _ dx
  go_wp2_with fail
  refine (sameCoordinator_is _ _ xs _ (HC2.out _ dx) (HC3.out _ dx) HSX.out).mono ?_
  rintro e w7 ⟨rfl, dn⟩
  replace dx := dx.trans ((dn).mono dx.size)
  clear y1 z1 y2 z2 y3 z3 dn
  obtain ⟨⟨y1, z1⟩, ⟨y2, z2⟩, y3, z3⟩ := HF.out _ dx
  cases b with
  | false =>
    go_wp2_with fail
    refine (sameCoordinator_is _ _ xs _ (HC2.out _ dx) (HC3.out _ dx) HSX.out).mono ?_
    rintro e w8 ⟨rfl, dn⟩
    replace dx := dx.trans ((dn).mono dx.size)
    clear y1 z1 y2 z2 y3 z3 dn
    obtain ⟨⟨y1, z1⟩, ⟨y2, z2⟩, y3, z3⟩ := HF.out _ dx
    go_wp2
    go_ret
    exact .mk_ (bw.trans (dx.mono bw.size))
  | true =>
    cases y with
    | false =>
      go_wp2_with fail
      refine (sameCoordinator_is _ _ xs _ (HC2.out _ dx) (HC3.out _ dx) HSX.out).mono ?_
      rintro e w8 ⟨rfl, dn⟩
      replace dx := dx.trans ((dn).mono dx.size)
      clear y1 z1 y2 z2 y3 z3 dn
      obtain ⟨⟨y1, z1⟩, ⟨y2, z2⟩, y3, z3⟩ := HF.out _ dx
      go_wp2
      go_ret
      exact .mk_ (bw.trans (dx.mono bw.size))
    | true =>
      obtain ⟨n, k, a, hvq, hx⟩ := counted_yes_ HV.out rfl rfl
      have ht := a.ht
      have hn := a.hi
      have hd0 : q.ts[n].d = 0 := a.d0
      have hkv : k < q.ts[n].vs.length := a.hk
      have hv0 : q.ts[n].vs[k] = 0 := a.v0
      have hkp : k < q.ts[n].ps.length := a.kp
      have hks : q.ts[n].ps[k].s = s := a.hs
      replace hx : xs = yesC q n k hn := hx
      clear a
      have htv := hvq.txs _ (List.getElem_mem hn)
      have hnx : n < xs.ts.length := by rw [hx]; simpa [yesC] using hn
      have hxn : xs.ts[n]'hnx = yesTx q.ts[n] k := by subst hx; exact yesC_get hn
      have hps := (HSM.out.ps _ (List.getElem_mem hn)).1
      have hqo := HSM.out.os
      have hxo : xs.os.length ≤ 14 := by
        rw [hx]
        unfold yesC
        show (if _ then _ else _ : List Int).length ≤ 14
        split
        · rw [List.length_append, List.length_singleton]; omega
        · omega
      obtain ⟨gT, rfl, -⟩ := cr_head (HO2.out _ dx) hnx
      obtain ⟨zs, hzs⟩ : ∃ zs, waitsT q.ts[n] = zs := ⟨_, rfl⟩
      have hall := all_one htv hd0 hkv hv0
      have hwv := waits_vote htv.len hkv hv0
      have hwg := waits_gone htv hkp
      have hzl : zs.length ≤ 3 := by
        rw [← hzs, ← waitsTo_all htv.len]
        have := waitsTo_len q.ts[n] q.ts[n].ps.length
        omega
      rw [hks] at hwg
      rw [hzs] at hall hwv
      have CW1 := hid (implCoordinatorWaits_is zs _ q (n : Int) w7 (HC1.out _ dx) HSM.out.fit (.inl ⟨n, hn, hvq, rfl, hd0, hzs.symm⟩))
      have HX := hid hx
      have HXN := hid hxn
      have HOL : Hid (xs.os.length ≤ maxLen) := by show _ ≤ _; unfold maxLen; omega
      subst ht
      have HALL := hid hall
      have HWV := hid hwv
      have HWG := hid hwg
      have i0 : (0 : Int) ≤ (n : Int) := by omega
      have i2 : (n : Int) < (xs.ts.length : Int) := by omega
      have HGD : Hid (∀ dd, xs.ts[n].d = dd → ∀ y, Below w6.heap.size w6 y → y.cell? ⟨gT, n * 3 + 2, none⟩ = some (.int .i64 dd)) := fun dd hdd y hy => by
        obtain ⟨t2, ad2, A', c', A9, c9, ho, hA, had, g0, g1, g2, -⟩ := (crd_parts (HC2.out y hy)).1.tx hnx
        injection hA with hA
        subst hA
        have e : (⟨gT, 0, none⟩ : Addr).add (n * 3) = ⟨gT, n * 3, none⟩ := by unfold Addr.add; split <;> simp_all
        rw [e] at g2
        rw [← hdd, ho]
        exact g2
      have CVI := hid fun (y : World) (hy : Below w6.heap.size w6 y) => implCoordinatorValid_is true _ xs y (HC2.out y hy) HSX.out ⟨fun _ => HVX.out, fun _ => rfl⟩
      clear hx hxn hall hwv hwg hzs HV htv hd0 hv0 hks
      go_wp2_with fail
      refine CW1.out.mono ?_
      rintro e w8 ⟨Aw, cw, rfl, ow, d⟩
      replace dx := dx.trans ((d).mono dx.size)
      clear y1 z1 y2 z2 y3 z3 d
      obtain ⟨⟨y1, z1⟩, ⟨y2, z2⟩, y3, z3⟩ := HF.out _ dx
      clear CW1 ow
      by_cases h1 : 1 < zs.length
      · have e0 : decide ((1 : Int) < (zs.length : Int)) = true := decide_eq_true (by omega)
        have e1 : decide (1 < zs.length) = true := decide_eq_true h1
        have hna : ¬ (q.ts[n].vs.set k 1).all (· == 1) = true := fun e => by have := HALL.out.1 e; omega
        have hdd : xs.ts[n].d = 0 := by rw [HXN.out]; unfold yesTx; rw [if_neg hna]
        have hos : xs.os = q.os := by rw [HX.out]; unfold yesC; rw [if_neg hna]
        obtain ⟨zw, hz2⟩ : ∃ zw, waitsT (yesTx q.ts[n] k) = zw := ⟨_, rfl⟩
        have hl2 := HWV.out
        have hg2 := HWG.out
        rw [hz2] at hl2 hg2
        have CW2 := hid fun (y : World) (hy : Below w6.heap.size w6 y) => implCoordinatorWaits_is zw _ xs (n : Int) y (HC2.out y hy) HSX.out (.inl ⟨n, hnx, HVX.out, rfl, hdd, by rw [HXN.out, hz2]⟩)
        have CM := hid fun (y : World) (hy : Below w6.heap.size w6 y) => (by
          have r2 := (crd_parts (HC2.out y hy)).2.1
          rw [hos] at r2
          rw [hos]
          exact sameInts_ret B2 B1 k2 k1 q.os y _ _ r2 (HR1.out y hy) (by unfold maxLen; omega) : Calls Try.prog 20 #[.slice B2 xs.os.length k2, .slice B1 q.os.length k1] y (Ret (.bool true) y))
        have hwr : IntKind.i64.wrap ((zs.length : Int) - 1) = (zw.length : Int) := by rw [IntWalk.i64_in _ (by omega)]; omega
        have g2 := HGD.out 0 hdd _ dx
        have e2 : (false = true) ↔ s ∈ zw := ⟨fun e => (by cases e), fun e => absurd e hg2⟩
        have HE2 := hid e2
        have hz3 : zw.length ≤ 1048600 := by omega
        clear hna hdd hos hl2 hg2 hz2 e2 h1 HALL HWV HWG HX HXN
        go_wp2_with fail
        refine (CW2.out _ dx).mono ?_
        rintro e w9 ⟨A2w, c2w, rfl, ow, d⟩
        replace dx := dx.trans ((d).mono dx.size)
        clear y1 z1 y2 z2 y3 z3 d
        obtain ⟨⟨y1, z1⟩, ⟨y2, z2⟩, y3, z3⟩ := HF.out _ dx
        clear ow g2
        go_wp2_with fail
        refine (CM.out _ dx).mono ?_
        rintro e w10 ⟨rfl, d⟩
        replace dx := dx.trans ((d).mono dx.size)
        clear y1 z1 y2 z2 y3 z3 d
        obtain ⟨⟨y1, z1⟩, ⟨y2, z2⟩, y3, z3⟩ := HF.out _ dx
        clear CM
        go_wp2_with fail
        refine (CW2.out _ dx).mono ?_
        rintro e w11 ⟨A3w, c3w, rfl, ow, d⟩
        have CH := hid (hasInt_is false A3w c3w zw s w11 _ ow.row hz3 HE2.out)
        replace dx := dx.trans ((d).mono dx.size)
        clear y1 z1 y2 z2 y3 z3 d
        obtain ⟨⟨y1, z1⟩, ⟨y2, z2⟩, y3, z3⟩ := HF.out _ dx
        clear CW2 ow
        go_wp2_with fail
        refine CH.out.mono ?_
        rintro e w12 ⟨rfl, rfl⟩
        clear CH
        go_wp2
        go_ret
        exact .mk_ (bw.trans (dx.mono bw.size))
      · have e0 : decide ((1 : Int) < (zs.length : Int)) = false := decide_eq_false (by omega)
        have e1 : decide (1 < zs.length) = false := decide_eq_false h1
        have ha : (q.ts[n].vs.set k 1).all (· == 1) = true := HALL.out.2 (by have := HWV.out; omega)
        have hdd : xs.ts[n].d = 2 := by rw [HXN.out]; unfold yesTx; rw [if_pos ha]
        have HOS : Hid (xs.os = q.os ++ [(n : Int)]) := by show _ = _; rw [HX.out]; unfold yesC; rw [if_pos ha]
        have HS : Hid (∀ x, Below w8.heap.size w8 x → (x.cell? ⟨w3.heap.size, 0, none⟩ = some (.slice (some ⟨gT, 0, none⟩) xs.ts.length c2) ∧ x.cell? ⟨w3.heap.size, 1, none⟩ = some (.slice B2 xs.os.length k2) ∧ x.cell? ⟨w1.heap.size, 1, none⟩ = some (.slice B1 q.os.length k1) ∧ x.cell? ⟨gT, n * 3 + 2, none⟩ = some (.int .i64 2))) := fun x hx => by
          have hx6 := dx.trans (hx.mono dx.size)
          obtain ⟨⟨-, p1⟩, ⟨p2, p3⟩, -, -⟩ := HF.out x hx6
          exact ⟨p2, p3, p1, HGD.out 2 hdd x hx6⟩
        have HRB : Hid (∀ x, Below w8.heap.size w8 x → Row x w8.heap.size B1 (ints q.os)) := fun x hx => (HR1.out _ dx).below hx (Nat.le_refl _)
        have HRO : Hid (∀ x, Below w8.heap.size w8 x → Row x x.heap.size B2 (ints xs.os)) := fun x hx => (crd_parts (HC2.out x (dx.trans (hx.mono dx.size)))).2.1
        clear ha hdd h1 HALL HWV HWG HX HXN
        go_upto_region 11 with fail
        have D : Below w8.heap.size w8 w8.drew := (Below.refl _ _).drew
        refine wp_region_held_drew (S := fun x => x.cell? ⟨w3.heap.size, 0, none⟩ = some (.slice (some ⟨gT, 0, none⟩) xs.ts.length c2) ∧ x.cell? ⟨w3.heap.size, 1, none⟩ = some (.slice B2 xs.os.length k2) ∧ x.cell? ⟨w1.heap.size, 1, none⟩ = some (.slice B1 q.os.length k1) ∧ x.cell? ⟨gT, n * 3 + 2, none⟩ = some (.int .i64 2)) (by kernel_rfl) (HS.out _ D) (fun hHeld => ?_)
        obtain ⟨W, hW⟩ : ∃ x, w8.drew = x := ⟨_, rfl⟩
        rw [hW] at D hHeld ⊢
        clear hW y1 z1 y2 z2 y3 z3 e0 e1
        try simp only [Act.put, List.getElem_toArray, List.getElem_cons_succ, List.getElem_cons_zero, List.setIfInBounds_toArray, List.set_cons_zero, List.set_cons_succ]
        refine wpAnyH_take (i := 0) (oi := _) (v := ?_) rfl (by kernel_rfl) (by kernel_rfl) (by kernel_rfl) (fun _ _ _ h => h) (Or.inl ⟨by rfl, ?_⟩) hHeld ?_
        rotate_left
        · (intro w' hSw; (try dsimp only at hSw); go_simp <;> with_reducible rfl)
        try simp only [Act.put, List.getElem_toArray, List.getElem_cons_succ, List.getElem_cons_zero, List.setIfInBounds_toArray, List.set_cons_zero, List.set_cons_succ]
        refine wpAnyH_take (i := 1) (oi := _) (v := ?_) rfl (by kernel_rfl) (by kernel_rfl) (by kernel_rfl) (fun _ _ _ h => h) (Or.inl ⟨by rfl, ?_⟩) hHeld ?_
        rotate_left
        · (intro w' hSw; (try dsimp only at hSw); go_simp <;> with_reducible rfl)
        try simp only [Act.put, List.getElem_toArray, List.getElem_cons_succ, List.getElem_cons_zero, List.setIfInBounds_toArray, List.set_cons_zero, List.set_cons_succ]
        refine wpAnyH_take (i := 2) (oi := _) (v := ?_) rfl (by kernel_rfl) (by kernel_rfl) (by kernel_rfl) (fun _ _ _ h => h) (Or.inl ⟨by rfl, ?_⟩) hHeld ?_
        rotate_left
        · (intro w' hSw; (try dsimp only at hSw); go_simp <;> with_reducible rfl)
        try simp only [Act.put, List.getElem_toArray, List.getElem_cons_succ, List.getElem_cons_zero, List.setIfInBounds_toArray, List.set_cons_zero, List.set_cons_succ]
        refine wpAnyH_take (i := 3) (oi := _) (v := ?_) rfl (by kernel_rfl) (by kernel_rfl) (by kernel_rfl) (fun _ _ _ h => h) (Or.inl ⟨by rfl, ?_⟩) hHeld ?_
        rotate_left
        · (intro w' hSw; (try dsimp only at hSw); go_simp <;> with_reducible rfl)
        try simp only [Act.put, List.getElem_toArray, List.getElem_cons_succ, List.getElem_cons_zero, List.setIfInBounds_toArray, List.set_cons_zero, List.set_cons_succ]
        refine wpAnyH_take (i := 4) (oi := _) (v := ?_) rfl (by kernel_rfl) (by kernel_rfl) (by kernel_rfl) (fun _ _ _ h => h) (Or.inl ⟨by rfl, ?_⟩) hHeld ?_
        rotate_left
        · (intro w' hSw; (try dsimp only at hSw); go_simp <;> with_reducible rfl)
        try simp only [Act.put, List.getElem_toArray, List.getElem_cons_succ, List.getElem_cons_zero, List.setIfInBounds_toArray, List.set_cons_zero, List.set_cons_succ]
        refine wpAnyH_take (i := 5) (oi := _) (v := ?_) rfl (by kernel_rfl) (by kernel_rfl) (by kernel_rfl) (fun _ _ _ h => h) (Or.inl ⟨by rfl, ?_⟩) hHeld ?_
        rotate_left
        · (intro w' hSw; (try dsimp only at hSw); go_simp <;> with_reducible rfl)
        try simp only [Act.put, List.getElem_toArray, List.getElem_cons_succ, List.getElem_cons_zero, List.setIfInBounds_toArray, List.set_cons_zero, List.set_cons_succ]
        refine wpAnyH_take (i := 6) (oi := _) (v := ?_) rfl (by kernel_rfl) (by kernel_rfl) (by kernel_rfl) (fun _ _ _ h => h) (Or.inl ⟨by rfl, ?_⟩) hHeld ?_
        rotate_left
        · (intro w' hSw; (try dsimp only at hSw); go_simp <;> with_reducible rfl)
        try simp only [Act.put, List.getElem_toArray, List.getElem_cons_succ, List.getElem_cons_zero, List.setIfInBounds_toArray, List.set_cons_zero, List.set_cons_succ]
        refine wpAnyH_take (i := 7) (oi := _) (v := ?_) rfl (by kernel_rfl) (by kernel_rfl) (by kernel_rfl) (fun _ _ _ h => h) (Or.inl ⟨by rfl, ?_⟩) hHeld ?_
        rotate_left
        · (intro w' hSw; (try dsimp only at hSw); go_simp <;> with_reducible rfl)
        try simp only [Act.put, List.getElem_toArray, List.getElem_cons_succ, List.getElem_cons_zero, List.setIfInBounds_toArray, List.set_cons_zero, List.set_cons_succ]
        refine wpAnyH_take (i := 8) (oi := _) (v := ?_) rfl (by kernel_rfl) (by kernel_rfl) (by kernel_rfl) (fun _ _ _ h => h) (Or.inl ⟨by rfl, ?_⟩) hHeld ?_
        rotate_left
        · (intro w' hSw; (try dsimp only at hSw); go_simp <;> with_reducible rfl)
        try simp only [Act.put, List.getElem_toArray, List.getElem_cons_succ, List.getElem_cons_zero, List.setIfInBounds_toArray, List.set_cons_zero, List.set_cons_succ]
        refine wpAnyH_take (i := 9) (oi := _) (v := ?_) rfl (by kernel_rfl) (by kernel_rfl) (by kernel_rfl) (fun _ _ _ h => h) (Or.inl ⟨by rfl, ?_⟩) hHeld ?_
        rotate_left
        · (intro w' hSw; (try dsimp only at hSw); go_simp <;> with_reducible rfl)
        try simp only [Act.put, List.getElem_toArray, List.getElem_cons_succ, List.getElem_cons_zero, List.setIfInBounds_toArray, List.set_cons_zero, List.set_cons_succ]
        refine wpAnyH_take (i := 11) (oi := _) (v := ?_) rfl (by kernel_rfl) (by kernel_rfl) (by kernel_rfl) (fun _ _ _ h => h) (Or.inl ⟨by rfl, ?_⟩) hHeld ?_
        rotate_left
        · (intro w' hSw; (try dsimp only at hSw); go_simp <;> with_reducible rfl)
        try simp only [Act.put, List.getElem_toArray, List.getElem_cons_succ, List.getElem_cons_zero, List.setIfInBounds_toArray, List.set_cons_zero, List.set_cons_succ]
        refine wpAnyH_take (i := 12) (oi := _) (v := ?_) rfl (by kernel_rfl) (by kernel_rfl) (by kernel_rfl) (fun _ _ _ h => h) (Or.inl ⟨by rfl, ?_⟩) hHeld ?_
        rotate_left
        · (intro w' hSw; (try dsimp only at hSw); go_simp <;> with_reducible rfl)
        try simp only [Act.put, List.getElem_toArray, List.getElem_cons_succ, List.getElem_cons_zero, List.setIfInBounds_toArray, List.set_cons_zero, List.set_cons_succ]
        refine wpAnyH_take (i := 14) (oi := _) (v := ?_) rfl (by kernel_rfl) (by kernel_rfl) (by kernel_rfl) (fun _ _ _ h => h) (Or.inl ⟨by rfl, ?_⟩) hHeld ?_
        rotate_left
        · (intro w' hSw; (try dsimp only at hSw); go_simp <;> with_reducible rfl)
        try simp only [Act.put, List.getElem_toArray, List.getElem_cons_succ, List.getElem_cons_zero, List.setIfInBounds_toArray, List.set_cons_zero, List.set_cons_succ]
        refine wpAnyH_ready (rs := [10, 15]) (by kernel_rfl) (by simp) (AllReadyH.cons (o := _) rfl (fun K hK => ?_) (AllReadyH.cons (o := _) rfl (fun K hK => ?_) AllReadyH.nil))
        · skip
          try simp only [Act.put, List.getElem_toArray, List.getElem_cons_succ, List.getElem_cons_zero, List.setIfInBounds_toArray, List.set_cons_zero, List.set_cons_succ]
          have al := (Below.refl W.heap.size W).alloc (Nat.le_refl _) (.cells #[] 3)
          have nE : (W.alloc (.cells #[] 3)).ownsRow w8.heap.size 3 1 (.slice (some ⟨W.heap.size, 0, none⟩) 0 0) 0 [] := nil_own D.size _ _
          try have hNE := own_ne (Nat.ne_of_lt lN)
          try replace hN := (heap_alloc_old W (.cells #[] 3) lN).trans hN
          try replace lN := Nat.lt_of_lt_of_le lN al.size
          replace D := D.trans (al.mono D.size)
          go_simp
          obtain ⟨gE, hgE⟩ : ∃ x, W.heap.size = x := ⟨_, rfl⟩
          obtain ⟨W, hW2⟩ : ∃ x, W.alloc (.cells #[] 3) = x := ⟨_, rfl⟩
          have lE : gE < W.heap.size := by rw [← hW2, ← hgE]; simp
          rw [hgE, hW2] at nE
          rw [hgE, hW2]
          rw [hW2] at D
          try rw [hW2] at hN lN
          try rw [hgE] at hNE
          clear hW2 hgE al
          refine hK.out _ _ (HS.out _ D) (fun hHeld => ?_)
          clear hK K
          try simp only [Act.put, List.getElem_toArray, List.getElem_cons_succ, List.getElem_cons_zero, List.setIfInBounds_toArray, List.set_cons_zero, List.set_cons_succ]
          refine wpAnyH_ready (rs := [13, 15]) (by kernel_rfl) (by simp) (AllReadyH.cons (o := _) rfl (fun K hK => ?_) (AllReadyH.cons (o := _) rfl (fun K hK => ?_) AllReadyH.nil))
          · skip
            try simp only [Act.put, List.getElem_toArray, List.getElem_cons_succ, List.getElem_cons_zero, List.setIfInBounds_toArray, List.set_cons_zero, List.set_cons_succ]
            rw [if_pos (by rfl)]
            refine op_append_row3 _ _ _ 24 (by rfl) w8.heap.size 3 i1 (.int .i64 0) 1 8 Try.underlying24 hj hy0 hy1 hy2 rfl (by decide) (.slice (some ⟨gE, 0, none⟩) 0 0) 0 [] (by rfl) nE w8.heap.size B1 q.os.length k1 (ints q.os) (by rfl) (HRB.out _ D) (by rw [ints_length]; omega) (ints_cells _) (by unfold maxLen; omega) (by omega) D.size ?_
            intro vA W hown hg
            rw [Nat.zero_add, List.nil_append] at hown
            have oA : OwnI W w8.heap.size vA q.os := hown
            obtain ⟨AA, cA, rfl, -, -⟩ := oA.form
            try replace hN := (hg.block gN lN hNE).trans hN
            try replace lN := Nat.lt_of_lt_of_le lN hg.size
            replace D := D.grown hg D.size (fun j hj => (World.ownsRow.lt nE j hj).1)
            clear hown hg nE
            refine hK.out _ _ (HS.out _ D) (fun hHeld => ?_)
            clear hK K
            try simp only [Act.put, List.getElem_toArray, List.getElem_cons_succ, List.getElem_cons_zero, List.setIfInBounds_toArray, List.set_cons_zero, List.set_cons_succ]
            refine wpAnyH_ready (rs := [15]) (by kernel_rfl) (by simp) (AllReadyH.cons (o := _) rfl (fun K hK => ?_) AllReadyH.nil)
            try simp only [Act.put, List.getElem_toArray, List.getElem_cons_succ, List.getElem_cons_zero, List.setIfInBounds_toArray, List.set_cons_zero, List.set_cons_succ]
            have al := (Below.refl W.heap.size W).alloc (Nat.le_refl _) (.cells #[.int .i64 n] 3)
            have hN : (W.alloc (.cells #[.int .i64 n] 3)).heap[W.heap.size]? = some (.cells #[.int .i64 n] 3 (0, 0)) := heap_alloc_new W _
            try have hNE := own_ne (Nat.ne_of_gt lE)
            try replace nE := World.ownsRow.alloc nE (.cells #[.int .i64 n] 3)
            try replace oA := OwnI.below oA al (Nat.le_refl _)
            replace D := D.trans (al.mono D.size)
            go_simp
            obtain ⟨gN, hgN⟩ : ∃ x, W.heap.size = x := ⟨_, rfl⟩
            obtain ⟨W, hW2⟩ : ∃ x, W.alloc (.cells #[.int .i64 n] 3) = x := ⟨_, rfl⟩
            have lN : gN < W.heap.size := by rw [← hW2, ← hgN]; simp
            rw [hgN, hW2] at hN
            rw [hgN, hW2]
            rw [hW2] at D
            try rw [hW2] at nE
            try rw [hW2] at oA
            try rw [hgN] at hNE
            clear hW2 hgN al
            refine hK.out _ _ (HS.out _ D) (fun hHeld => ?_)
            clear hK K
            try simp only [Act.put, List.getElem_toArray, List.getElem_cons_succ, List.getElem_cons_zero, List.setIfInBounds_toArray, List.set_cons_zero, List.set_cons_succ]
            refine wpAnyH_ready (rs := [16]) (by kernel_rfl) (by simp) (AllReadyH.cons (o := _) rfl (fun K hK => ?_) AllReadyH.nil)
            try simp only [Act.put, List.getElem_toArray, List.getElem_cons_succ, List.getElem_cons_zero, List.setIfInBounds_toArray, List.set_cons_zero, List.set_cons_succ]
            rw [if_pos (by rfl)]
            have rN : Row W W.heap.size (some ⟨gN, 0, none⟩) [.int .i64 (n : Int)] := .inr ⟨_, rfl, lN, World.news_of_block (cs := #[.int .i64 (n : Int)]) hN⟩
            refine op_append_row3 _ _ _ 24 (by rfl) w8.heap.size 3 i1 (.int .i64 0) 1 8 Try.underlying24 hj hy0 hy1 hy2 rfl (by decide) (.slice AA q.os.length cA) q.os.length (ints q.os) (by rfl) oA W.heap.size (some ⟨gN, 0, none⟩) 1 1 [.int .i64 (n : Int)] (by rfl) rN rfl (one_int _) (by unfold maxLen; omega) (by omega) D.size ?_
            intro vB W hown hg
            have oB : OwnI W w8.heap.size vB (q.os ++ [(n : Int)]) := OwnI.app hown
            rw [← HOS.out] at oB
            obtain ⟨AB, cB, rfl, -, -⟩ := oB.form
            replace D := D.grown hg D.size (fun j hj => (World.ownsRow.lt oA j hj).1)
            clear hown hg oA rN hN lN
            refine hK.out _ _ (HS.out _ D) (fun hHeld => ?_)
            clear hK K
            try simp only [Act.put, List.getElem_toArray, List.getElem_cons_succ, List.getElem_cons_zero, List.setIfInBounds_toArray, List.set_cons_zero, List.set_cons_succ]
            refine wpAnyH_ready (rs := [17]) (by kernel_rfl) (by simp) (AllReadyH.cons (o := _) rfl (fun K hK => ?_) AllReadyH.nil)
            try simp only [Act.put, List.getElem_toArray, List.getElem_cons_succ, List.getElem_cons_zero, List.setIfInBounds_toArray, List.set_cons_zero, List.set_cons_succ]
            go_simp
            have CM := sameInts_ret B2 AB k2 cB xs.os W _ _ (HRO.out _ D) oB.row HOL.out
            go_at_call 20
            refine CM.mono ?_
            rintro e W ⟨rfl, d⟩
            replace D := D.trans (d.mono D.size)
            clear CM d oB
            refine hK.out _ _ (HS.out _ D) (fun hHeld => ?_)
            clear hK K
            try simp only [Act.put, List.getElem_toArray, List.getElem_cons_succ, List.getElem_cons_zero, List.setIfInBounds_toArray, List.set_cons_zero, List.set_cons_succ]
            refine wpAnyH_take (i := 18) (oi := _) (v := ?_) rfl (by kernel_rfl) (by kernel_rfl) (by kernel_rfl) (fun _ _ _ h => h) (Or.inl ⟨by rfl, ?_⟩) hHeld ?_
            rotate_left
            · (intro w' hSw; (try dsimp only at hSw); go_simp <;> with_reducible rfl)
            try simp only [Act.put, List.getElem_toArray, List.getElem_cons_succ, List.getElem_cons_zero, List.setIfInBounds_toArray, List.set_cons_zero, List.set_cons_succ]
            refine wpAnyH_take (i := 19) (oi := _) (v := ?_) rfl (by kernel_rfl) (by kernel_rfl) (by kernel_rfl) (fun _ _ _ h => h) (Or.inl ⟨by rfl, ?_⟩) hHeld ?_
            rotate_left
            · (intro w' hSw; (try dsimp only at hSw); go_simp <;> with_reducible rfl)
            try simp only [Act.put, List.getElem_toArray, List.getElem_cons_succ, List.getElem_cons_zero, List.setIfInBounds_toArray, List.set_cons_zero, List.set_cons_succ]
            refine wpAnyH_take (i := 20) (oi := _) (v := ?_) rfl (by kernel_rfl) (by kernel_rfl) (by kernel_rfl) (fun _ _ _ h => h) (Or.inl ⟨by rfl, ?_⟩) hHeld ?_
            rotate_left
            · (intro w' hSw; (try dsimp only at hSw); go_simp <;> with_reducible rfl)
            try simp only [Act.put, List.getElem_toArray, List.getElem_cons_succ, List.getElem_cons_zero, List.setIfInBounds_toArray, List.set_cons_zero, List.set_cons_succ]
            refine wpAnyH_ready (rs := [21]) (by kernel_rfl) (by simp) (AllReadyH.cons (o := _) rfl (fun K hK => ?_) AllReadyH.nil)
            try simp only [Act.put, List.getElem_toArray, List.getElem_cons_succ, List.getElem_cons_zero, List.setIfInBounds_toArray, List.set_cons_zero, List.set_cons_succ]
            go_simp
            go_at_call 22
            refine (CVI.out _ (dx.trans (D.mono dx.size))).mono ?_
            rintro e W ⟨rfl, d⟩
            replace D := D.trans (d.mono D.size)
            clear d
            refine hK.out _ _ (HS.out _ D) (fun hHeld => ?_)
            clear hK K
            try simp only [Act.put, List.getElem_toArray, List.getElem_cons_succ, List.getElem_cons_zero, List.setIfInBounds_toArray, List.set_cons_zero, List.set_cons_succ]
            refine wpAnyH_take (i := 22) (oi := _) (v := ?_) rfl (by kernel_rfl) (by kernel_rfl) (by kernel_rfl) (fun _ _ _ h => h) (Or.inl ⟨by rfl, ?_⟩) hHeld ?_
            rotate_left
            · (intro w' hSw; (try dsimp only at hSw); go_simp <;> with_reducible rfl)
            try simp only [Act.put, List.getElem_toArray, List.getElem_cons_succ, List.getElem_cons_zero, List.setIfInBounds_toArray, List.set_cons_zero, List.set_cons_succ]
            refine wpAnyH_take (i := 23) (oi := _) (v := ?_) rfl (by kernel_rfl) (by kernel_rfl) (by kernel_rfl) (fun _ _ _ h => h) (Or.inl ⟨by rfl, ?_⟩) hHeld ?_
            rotate_left
            · (intro w' hSw; (try dsimp only at hSw); go_simp <;> with_reducible rfl)
            try simp only [Act.put, List.getElem_toArray, List.getElem_cons_succ, List.getElem_cons_zero, List.setIfInBounds_toArray, List.set_cons_zero, List.set_cons_succ]
            refine wpAnyH_done (by kernel_rfl) ?_ _
            clear hHeld
            replace dx := dx.trans (D.mono dx.size)
            go_wp2
            go_ret
            exact .mk_ (bw.trans (dx.mono bw.size))
          · skip
            try simp only [Act.put, List.getElem_toArray, List.getElem_cons_succ, List.getElem_cons_zero, List.setIfInBounds_toArray, List.set_cons_zero, List.set_cons_succ]
            have al := (Below.refl W.heap.size W).alloc (Nat.le_refl _) (.cells #[.int .i64 n] 3)
            have hN : (W.alloc (.cells #[.int .i64 n] 3)).heap[W.heap.size]? = some (.cells #[.int .i64 n] 3 (0, 0)) := heap_alloc_new W _
            try have hNE := own_ne (Nat.ne_of_gt lE)
            try replace nE := World.ownsRow.alloc nE (.cells #[.int .i64 n] 3)
            try replace oA := OwnI.below oA al (Nat.le_refl _)
            replace D := D.trans (al.mono D.size)
            go_simp
            obtain ⟨gN, hgN⟩ : ∃ x, W.heap.size = x := ⟨_, rfl⟩
            obtain ⟨W, hW2⟩ : ∃ x, W.alloc (.cells #[.int .i64 n] 3) = x := ⟨_, rfl⟩
            have lN : gN < W.heap.size := by rw [← hW2, ← hgN]; simp
            rw [hgN, hW2] at hN
            rw [hgN, hW2]
            rw [hW2] at D
            try rw [hW2] at nE
            try rw [hW2] at oA
            try rw [hgN] at hNE
            clear hW2 hgN al
            refine hK.out _ _ (HS.out _ D) (fun hHeld => ?_)
            clear hK K
            try simp only [Act.put, List.getElem_toArray, List.getElem_cons_succ, List.getElem_cons_zero, List.setIfInBounds_toArray, List.set_cons_zero, List.set_cons_succ]
            refine wpAnyH_ready (rs := [13]) (by kernel_rfl) (by simp) (AllReadyH.cons (o := _) rfl (fun K hK => ?_) AllReadyH.nil)
            try simp only [Act.put, List.getElem_toArray, List.getElem_cons_succ, List.getElem_cons_zero, List.setIfInBounds_toArray, List.set_cons_zero, List.set_cons_succ]
            rw [if_pos (by rfl)]
            refine op_append_row3 _ _ _ 24 (by rfl) w8.heap.size 3 i1 (.int .i64 0) 1 8 Try.underlying24 hj hy0 hy1 hy2 rfl (by decide) (.slice (some ⟨gE, 0, none⟩) 0 0) 0 [] (by rfl) nE w8.heap.size B1 q.os.length k1 (ints q.os) (by rfl) (HRB.out _ D) (by rw [ints_length]; omega) (ints_cells _) (by unfold maxLen; omega) (by omega) D.size ?_
            intro vA W hown hg
            rw [Nat.zero_add, List.nil_append] at hown
            have oA : OwnI W w8.heap.size vA q.os := hown
            obtain ⟨AA, cA, rfl, -, -⟩ := oA.form
            try replace hN := (hg.block gN lN hNE).trans hN
            try replace lN := Nat.lt_of_lt_of_le lN hg.size
            replace D := D.grown hg D.size (fun j hj => (World.ownsRow.lt nE j hj).1)
            clear hown hg nE
            refine hK.out _ _ (HS.out _ D) (fun hHeld => ?_)
            clear hK K
            try simp only [Act.put, List.getElem_toArray, List.getElem_cons_succ, List.getElem_cons_zero, List.setIfInBounds_toArray, List.set_cons_zero, List.set_cons_succ]
            refine wpAnyH_ready (rs := [16]) (by kernel_rfl) (by simp) (AllReadyH.cons (o := _) rfl (fun K hK => ?_) AllReadyH.nil)
            try simp only [Act.put, List.getElem_toArray, List.getElem_cons_succ, List.getElem_cons_zero, List.setIfInBounds_toArray, List.set_cons_zero, List.set_cons_succ]
            rw [if_pos (by rfl)]
            have rN : Row W W.heap.size (some ⟨gN, 0, none⟩) [.int .i64 (n : Int)] := .inr ⟨_, rfl, lN, World.news_of_block (cs := #[.int .i64 (n : Int)]) hN⟩
            refine op_append_row3 _ _ _ 24 (by rfl) w8.heap.size 3 i1 (.int .i64 0) 1 8 Try.underlying24 hj hy0 hy1 hy2 rfl (by decide) (.slice AA q.os.length cA) q.os.length (ints q.os) (by rfl) oA W.heap.size (some ⟨gN, 0, none⟩) 1 1 [.int .i64 (n : Int)] (by rfl) rN rfl (one_int _) (by unfold maxLen; omega) (by omega) D.size ?_
            intro vB W hown hg
            have oB : OwnI W w8.heap.size vB (q.os ++ [(n : Int)]) := OwnI.app hown
            rw [← HOS.out] at oB
            obtain ⟨AB, cB, rfl, -, -⟩ := oB.form
            replace D := D.grown hg D.size (fun j hj => (World.ownsRow.lt oA j hj).1)
            clear hown hg oA rN hN lN
            refine hK.out _ _ (HS.out _ D) (fun hHeld => ?_)
            clear hK K
            try simp only [Act.put, List.getElem_toArray, List.getElem_cons_succ, List.getElem_cons_zero, List.setIfInBounds_toArray, List.set_cons_zero, List.set_cons_succ]
            refine wpAnyH_ready (rs := [17]) (by kernel_rfl) (by simp) (AllReadyH.cons (o := _) rfl (fun K hK => ?_) AllReadyH.nil)
            try simp only [Act.put, List.getElem_toArray, List.getElem_cons_succ, List.getElem_cons_zero, List.setIfInBounds_toArray, List.set_cons_zero, List.set_cons_succ]
            go_simp
            have CM := sameInts_ret B2 AB k2 cB xs.os W _ _ (HRO.out _ D) oB.row HOL.out
            go_at_call 20
            refine CM.mono ?_
            rintro e W ⟨rfl, d⟩
            replace D := D.trans (d.mono D.size)
            clear CM d oB
            refine hK.out _ _ (HS.out _ D) (fun hHeld => ?_)
            clear hK K
            try simp only [Act.put, List.getElem_toArray, List.getElem_cons_succ, List.getElem_cons_zero, List.setIfInBounds_toArray, List.set_cons_zero, List.set_cons_succ]
            refine wpAnyH_take (i := 18) (oi := _) (v := ?_) rfl (by kernel_rfl) (by kernel_rfl) (by kernel_rfl) (fun _ _ _ h => h) (Or.inl ⟨by rfl, ?_⟩) hHeld ?_
            rotate_left
            · (intro w' hSw; (try dsimp only at hSw); go_simp <;> with_reducible rfl)
            try simp only [Act.put, List.getElem_toArray, List.getElem_cons_succ, List.getElem_cons_zero, List.setIfInBounds_toArray, List.set_cons_zero, List.set_cons_succ]
            refine wpAnyH_take (i := 19) (oi := _) (v := ?_) rfl (by kernel_rfl) (by kernel_rfl) (by kernel_rfl) (fun _ _ _ h => h) (Or.inl ⟨by rfl, ?_⟩) hHeld ?_
            rotate_left
            · (intro w' hSw; (try dsimp only at hSw); go_simp <;> with_reducible rfl)
            try simp only [Act.put, List.getElem_toArray, List.getElem_cons_succ, List.getElem_cons_zero, List.setIfInBounds_toArray, List.set_cons_zero, List.set_cons_succ]
            refine wpAnyH_take (i := 20) (oi := _) (v := ?_) rfl (by kernel_rfl) (by kernel_rfl) (by kernel_rfl) (fun _ _ _ h => h) (Or.inl ⟨by rfl, ?_⟩) hHeld ?_
            rotate_left
            · (intro w' hSw; (try dsimp only at hSw); go_simp <;> with_reducible rfl)
            try simp only [Act.put, List.getElem_toArray, List.getElem_cons_succ, List.getElem_cons_zero, List.setIfInBounds_toArray, List.set_cons_zero, List.set_cons_succ]
            refine wpAnyH_ready (rs := [21]) (by kernel_rfl) (by simp) (AllReadyH.cons (o := _) rfl (fun K hK => ?_) AllReadyH.nil)
            try simp only [Act.put, List.getElem_toArray, List.getElem_cons_succ, List.getElem_cons_zero, List.setIfInBounds_toArray, List.set_cons_zero, List.set_cons_succ]
            go_simp
            go_at_call 22
            refine (CVI.out _ (dx.trans (D.mono dx.size))).mono ?_
            rintro e W ⟨rfl, d⟩
            replace D := D.trans (d.mono D.size)
            clear d
            refine hK.out _ _ (HS.out _ D) (fun hHeld => ?_)
            clear hK K
            try simp only [Act.put, List.getElem_toArray, List.getElem_cons_succ, List.getElem_cons_zero, List.setIfInBounds_toArray, List.set_cons_zero, List.set_cons_succ]
            refine wpAnyH_take (i := 22) (oi := _) (v := ?_) rfl (by kernel_rfl) (by kernel_rfl) (by kernel_rfl) (fun _ _ _ h => h) (Or.inl ⟨by rfl, ?_⟩) hHeld ?_
            rotate_left
            · (intro w' hSw; (try dsimp only at hSw); go_simp <;> with_reducible rfl)
            try simp only [Act.put, List.getElem_toArray, List.getElem_cons_succ, List.getElem_cons_zero, List.setIfInBounds_toArray, List.set_cons_zero, List.set_cons_succ]
            refine wpAnyH_take (i := 23) (oi := _) (v := ?_) rfl (by kernel_rfl) (by kernel_rfl) (by kernel_rfl) (fun _ _ _ h => h) (Or.inl ⟨by rfl, ?_⟩) hHeld ?_
            rotate_left
            · (intro w' hSw; (try dsimp only at hSw); go_simp <;> with_reducible rfl)
            try simp only [Act.put, List.getElem_toArray, List.getElem_cons_succ, List.getElem_cons_zero, List.setIfInBounds_toArray, List.set_cons_zero, List.set_cons_succ]
            refine wpAnyH_done (by kernel_rfl) ?_ _
            clear hHeld
            replace dx := dx.trans (D.mono dx.size)
            go_wp2
            go_ret
            exact .mk_ (bw.trans (dx.mono bw.size))
        · skip
          try simp only [Act.put, List.getElem_toArray, List.getElem_cons_succ, List.getElem_cons_zero, List.setIfInBounds_toArray, List.set_cons_zero, List.set_cons_succ]
          have al := (Below.refl W.heap.size W).alloc (Nat.le_refl _) (.cells #[.int .i64 n] 3)
          have hN : (W.alloc (.cells #[.int .i64 n] 3)).heap[W.heap.size]? = some (.cells #[.int .i64 n] 3 (0, 0)) := heap_alloc_new W _
          try have hNE := own_ne (Nat.ne_of_gt lE)
          try replace nE := World.ownsRow.alloc nE (.cells #[.int .i64 n] 3)
          try replace oA := OwnI.below oA al (Nat.le_refl _)
          replace D := D.trans (al.mono D.size)
          go_simp
          obtain ⟨gN, hgN⟩ : ∃ x, W.heap.size = x := ⟨_, rfl⟩
          obtain ⟨W, hW2⟩ : ∃ x, W.alloc (.cells #[.int .i64 n] 3) = x := ⟨_, rfl⟩
          have lN : gN < W.heap.size := by rw [← hW2, ← hgN]; simp
          rw [hgN, hW2] at hN
          rw [hgN, hW2]
          rw [hW2] at D
          try rw [hW2] at nE
          try rw [hW2] at oA
          try rw [hgN] at hNE
          clear hW2 hgN al
          refine hK.out _ _ (HS.out _ D) (fun hHeld => ?_)
          clear hK K
          try simp only [Act.put, List.getElem_toArray, List.getElem_cons_succ, List.getElem_cons_zero, List.setIfInBounds_toArray, List.set_cons_zero, List.set_cons_succ]
          refine wpAnyH_ready (rs := [10]) (by kernel_rfl) (by simp) (AllReadyH.cons (o := _) rfl (fun K hK => ?_) AllReadyH.nil)
          try simp only [Act.put, List.getElem_toArray, List.getElem_cons_succ, List.getElem_cons_zero, List.setIfInBounds_toArray, List.set_cons_zero, List.set_cons_succ]
          have al := (Below.refl W.heap.size W).alloc (Nat.le_refl _) (.cells #[] 3)
          have nE : (W.alloc (.cells #[] 3)).ownsRow w8.heap.size 3 1 (.slice (some ⟨W.heap.size, 0, none⟩) 0 0) 0 [] := nil_own D.size _ _
          try have hNE := own_ne (Nat.ne_of_lt lN)
          try replace hN := (heap_alloc_old W (.cells #[] 3) lN).trans hN
          try replace lN := Nat.lt_of_lt_of_le lN al.size
          replace D := D.trans (al.mono D.size)
          go_simp
          obtain ⟨gE, hgE⟩ : ∃ x, W.heap.size = x := ⟨_, rfl⟩
          obtain ⟨W, hW2⟩ : ∃ x, W.alloc (.cells #[] 3) = x := ⟨_, rfl⟩
          have lE : gE < W.heap.size := by rw [← hW2, ← hgE]; simp
          rw [hgE, hW2] at nE
          rw [hgE, hW2]
          rw [hW2] at D
          try rw [hW2] at hN lN
          try rw [hgE] at hNE
          clear hW2 hgE al
          refine hK.out _ _ (HS.out _ D) (fun hHeld => ?_)
          clear hK K
          try simp only [Act.put, List.getElem_toArray, List.getElem_cons_succ, List.getElem_cons_zero, List.setIfInBounds_toArray, List.set_cons_zero, List.set_cons_succ]
          refine wpAnyH_ready (rs := [13]) (by kernel_rfl) (by simp) (AllReadyH.cons (o := _) rfl (fun K hK => ?_) AllReadyH.nil)
          try simp only [Act.put, List.getElem_toArray, List.getElem_cons_succ, List.getElem_cons_zero, List.setIfInBounds_toArray, List.set_cons_zero, List.set_cons_succ]
          rw [if_pos (by rfl)]
          refine op_append_row3 _ _ _ 24 (by rfl) w8.heap.size 3 i1 (.int .i64 0) 1 8 Try.underlying24 hj hy0 hy1 hy2 rfl (by decide) (.slice (some ⟨gE, 0, none⟩) 0 0) 0 [] (by rfl) nE w8.heap.size B1 q.os.length k1 (ints q.os) (by rfl) (HRB.out _ D) (by rw [ints_length]; omega) (ints_cells _) (by unfold maxLen; omega) (by omega) D.size ?_
          intro vA W hown hg
          rw [Nat.zero_add, List.nil_append] at hown
          have oA : OwnI W w8.heap.size vA q.os := hown
          obtain ⟨AA, cA, rfl, -, -⟩ := oA.form
          try replace hN := (hg.block gN lN hNE).trans hN
          try replace lN := Nat.lt_of_lt_of_le lN hg.size
          replace D := D.grown hg D.size (fun j hj => (World.ownsRow.lt nE j hj).1)
          clear hown hg nE
          refine hK.out _ _ (HS.out _ D) (fun hHeld => ?_)
          clear hK K
          try simp only [Act.put, List.getElem_toArray, List.getElem_cons_succ, List.getElem_cons_zero, List.setIfInBounds_toArray, List.set_cons_zero, List.set_cons_succ]
          refine wpAnyH_ready (rs := [16]) (by kernel_rfl) (by simp) (AllReadyH.cons (o := _) rfl (fun K hK => ?_) AllReadyH.nil)
          try simp only [Act.put, List.getElem_toArray, List.getElem_cons_succ, List.getElem_cons_zero, List.setIfInBounds_toArray, List.set_cons_zero, List.set_cons_succ]
          rw [if_pos (by rfl)]
          have rN : Row W W.heap.size (some ⟨gN, 0, none⟩) [.int .i64 (n : Int)] := .inr ⟨_, rfl, lN, World.news_of_block (cs := #[.int .i64 (n : Int)]) hN⟩
          refine op_append_row3 _ _ _ 24 (by rfl) w8.heap.size 3 i1 (.int .i64 0) 1 8 Try.underlying24 hj hy0 hy1 hy2 rfl (by decide) (.slice AA q.os.length cA) q.os.length (ints q.os) (by rfl) oA W.heap.size (some ⟨gN, 0, none⟩) 1 1 [.int .i64 (n : Int)] (by rfl) rN rfl (one_int _) (by unfold maxLen; omega) (by omega) D.size ?_
          intro vB W hown hg
          have oB : OwnI W w8.heap.size vB (q.os ++ [(n : Int)]) := OwnI.app hown
          rw [← HOS.out] at oB
          obtain ⟨AB, cB, rfl, -, -⟩ := oB.form
          replace D := D.grown hg D.size (fun j hj => (World.ownsRow.lt oA j hj).1)
          clear hown hg oA rN hN lN
          refine hK.out _ _ (HS.out _ D) (fun hHeld => ?_)
          clear hK K
          try simp only [Act.put, List.getElem_toArray, List.getElem_cons_succ, List.getElem_cons_zero, List.setIfInBounds_toArray, List.set_cons_zero, List.set_cons_succ]
          refine wpAnyH_ready (rs := [17]) (by kernel_rfl) (by simp) (AllReadyH.cons (o := _) rfl (fun K hK => ?_) AllReadyH.nil)
          try simp only [Act.put, List.getElem_toArray, List.getElem_cons_succ, List.getElem_cons_zero, List.setIfInBounds_toArray, List.set_cons_zero, List.set_cons_succ]
          go_simp
          have CM := sameInts_ret B2 AB k2 cB xs.os W _ _ (HRO.out _ D) oB.row HOL.out
          go_at_call 20
          refine CM.mono ?_
          rintro e W ⟨rfl, d⟩
          replace D := D.trans (d.mono D.size)
          clear CM d oB
          refine hK.out _ _ (HS.out _ D) (fun hHeld => ?_)
          clear hK K
          try simp only [Act.put, List.getElem_toArray, List.getElem_cons_succ, List.getElem_cons_zero, List.setIfInBounds_toArray, List.set_cons_zero, List.set_cons_succ]
          refine wpAnyH_take (i := 18) (oi := _) (v := ?_) rfl (by kernel_rfl) (by kernel_rfl) (by kernel_rfl) (fun _ _ _ h => h) (Or.inl ⟨by rfl, ?_⟩) hHeld ?_
          rotate_left
          · (intro w' hSw; (try dsimp only at hSw); go_simp <;> with_reducible rfl)
          try simp only [Act.put, List.getElem_toArray, List.getElem_cons_succ, List.getElem_cons_zero, List.setIfInBounds_toArray, List.set_cons_zero, List.set_cons_succ]
          refine wpAnyH_take (i := 19) (oi := _) (v := ?_) rfl (by kernel_rfl) (by kernel_rfl) (by kernel_rfl) (fun _ _ _ h => h) (Or.inl ⟨by rfl, ?_⟩) hHeld ?_
          rotate_left
          · (intro w' hSw; (try dsimp only at hSw); go_simp <;> with_reducible rfl)
          try simp only [Act.put, List.getElem_toArray, List.getElem_cons_succ, List.getElem_cons_zero, List.setIfInBounds_toArray, List.set_cons_zero, List.set_cons_succ]
          refine wpAnyH_take (i := 20) (oi := _) (v := ?_) rfl (by kernel_rfl) (by kernel_rfl) (by kernel_rfl) (fun _ _ _ h => h) (Or.inl ⟨by rfl, ?_⟩) hHeld ?_
          rotate_left
          · (intro w' hSw; (try dsimp only at hSw); go_simp <;> with_reducible rfl)
          try simp only [Act.put, List.getElem_toArray, List.getElem_cons_succ, List.getElem_cons_zero, List.setIfInBounds_toArray, List.set_cons_zero, List.set_cons_succ]
          refine wpAnyH_ready (rs := [21]) (by kernel_rfl) (by simp) (AllReadyH.cons (o := _) rfl (fun K hK => ?_) AllReadyH.nil)
          try simp only [Act.put, List.getElem_toArray, List.getElem_cons_succ, List.getElem_cons_zero, List.setIfInBounds_toArray, List.set_cons_zero, List.set_cons_succ]
          go_simp
          go_at_call 22
          refine (CVI.out _ (dx.trans (D.mono dx.size))).mono ?_
          rintro e W ⟨rfl, d⟩
          replace D := D.trans (d.mono D.size)
          clear d
          refine hK.out _ _ (HS.out _ D) (fun hHeld => ?_)
          clear hK K
          try simp only [Act.put, List.getElem_toArray, List.getElem_cons_succ, List.getElem_cons_zero, List.setIfInBounds_toArray, List.set_cons_zero, List.set_cons_succ]
          refine wpAnyH_take (i := 22) (oi := _) (v := ?_) rfl (by kernel_rfl) (by kernel_rfl) (by kernel_rfl) (fun _ _ _ h => h) (Or.inl ⟨by rfl, ?_⟩) hHeld ?_
          rotate_left
          · (intro w' hSw; (try dsimp only at hSw); go_simp <;> with_reducible rfl)
          try simp only [Act.put, List.getElem_toArray, List.getElem_cons_succ, List.getElem_cons_zero, List.setIfInBounds_toArray, List.set_cons_zero, List.set_cons_succ]
          refine wpAnyH_take (i := 23) (oi := _) (v := ?_) rfl (by kernel_rfl) (by kernel_rfl) (by kernel_rfl) (fun _ _ _ h => h) (Or.inl ⟨by rfl, ?_⟩) hHeld ?_
          rotate_left
          · (intro w' hSw; (try dsimp only at hSw); go_simp <;> with_reducible rfl)
          try simp only [Act.put, List.getElem_toArray, List.getElem_cons_succ, List.getElem_cons_zero, List.setIfInBounds_toArray, List.set_cons_zero, List.set_cons_succ]
          refine wpAnyH_done (by kernel_rfl) ?_ _
          clear hHeld
          replace dx := dx.trans (D.mono dx.size)
          go_wp2
          go_ret
          exact .mk_ (bw.trans (dx.mono bw.size))
theorem FnVoteYes_any (A : Option Addr) (c : Nat) (bs : List Int) (w : World) (f1 : Row w w.heap.size A (bs.map (Value.int .u8))) (f2 : bs.length ≤ c) (f3 : c ≤ maxLen) (f4 : ∀ n ∈ bs, 0 ≤ n ∧ n < 256) :
    Calls Try.prog 5 #[.slice A bs.length c] w (Ret (.bool true) w) := by
  by_cases hl : bs.length ≤ 1048576
  · exact FnVoteYes_yes A c bs w ⟨f1, f2, f3, f4⟩ hl
  · exact FnVoteYes_no A c bs w ⟨f1, f2, f3, f4⟩ hl
end Go.Proofs.Ytimdkddkgbmecaa
