/- The coordinator with the slices $SA and $SB is stored as the answer, with the word $BB. -/
/- Laws on coordinators: a coordinator is boxed. -/
/-
  Walk of the law on a new transaction.
-/
import Derived.Test.YtimdkddkgbmecaaLawCo4
namespace Go.Proofs.Ytimdkddkgbmecaa
open Go.RowKit Wo Pu Rf Co

theorem Txs.pre {w : World} {B : Nat} {A : Option Addr} {ts us : List Tx} (h : Txs w B A (ts ++ us)) : Txs w B A ts := by
  rcases h with h | ⟨ad, e, hb, hh⟩
  · exact .inl (List.append_eq_nil_iff.1 h).1
  · refine .inr ⟨ad, e, hb, fun k hk => ?_⟩
    have := hh k (by rw [List.length_append]; omega)
    rw [List.getElem_append_left hk] at this
    exact this
theorem crd_caps {x : World} {B n m c k : Nat} {A A2 : Option Addr} {q : Crd} (h : Crdd x B (.agg #[.slice A n c, .slice A2 m k]) q) : n ≤ c ∧ m ≤ k := by
  obtain ⟨A', c', A3, c3, e, -, h1, -, h2⟩ := h
  unfold crV at e
  injection e with e
  have e := congrArg Array.toList e
  simp at e
  obtain ⟨⟨rfl, rfl, rfl⟩, rfl, rfl, rfl⟩ := e
  exact ⟨h1, h2⟩
theorem begun_yes {q x : Crd} {ps : List Part} (h : Begun q ps x true) : CV q ∧ PartsV ps ∧ q.ts.length < 12 ∧ x = newC q ps := by
  generalize hb : true = b at h
  cases h with
  | bad _ => cases hb
  | full _ _ _ => cases hb
  | yes h1 h2 h3 => exact ⟨h1, h2, h3, rfl⟩
theorem FnBegin_no (A : Option Addr) (c : Nat) (bs : List Int) (w : World) (h : Code_ w A c bs) (hl : ¬ bs.length ≤ 1048576) :
    Calls Try.prog 3 #[.slice A bs.length c] w (Ret (.bool true) w) := by
  have hc := h.2.1
  have hm := h.2.2.1
  unfold maxLen at hm
  go_enter Try.func3, Try.ntmps3
  go_wp2
  go_ret
  exact .mk_ (Below.refl _ _)
set_option linter.unusedSimpArgs false in
set_option linter.unusedVariables false in
set_option maxRecDepth 100000 in
set_option maxHeartbeats 8000000 in
theorem FnBegin_yes (A : Option Addr) (c : Nat) (bs : List Int) (w : World) (h : Code_ w A c bs) (hl : bs.length ≤ 1048576) :
    Calls Try.prog 3 #[.slice A bs.length c] w (Ret (.bool true) w) := by
  obtain ⟨i1, hj, hy0, hy1, hy2⟩ := info_of info_int
  go_enter Try.func3, Try.ntmps3
  go_wp2_with fail
  refine (DrawCoordinatorBegin_any A c bs _ h).mono ?_
  rintro e w1 ⟨v1, q, Ap, cp, ps, rfl, s1, hs, hp, hpl, hpu, hpc, bw⟩
  obtain ⟨xs, b, hv⟩ := begun_ex q ps
  have HV := hid hv
  have HSM := hid hs
  have HSP := hid hpu
  have HSX := hid (cv_few hv.valid).1.fit
  have HVX := hid hv.valid
  have HP := hid fun (w9 : World) (hw9 : Below w1.heap.size w1 w9) => (hp.on hw9 : Parts w9 w9.heap.size Ap ps)
  have CI := hid fun (w9 : World) (hw9 : Below w1.heap.size w1 w9) => implCoordinatorBegin_is xs b v1 q Ap cp ps w9 (s1.on hw9 hw9.size) hs.fit (hp.on hw9) (by omega) (fun p hp => by have := hpu p hp; omega) hv
  have CS := hid fun (w9 : World) (hw9 : Below w1.heap.size w1 w9) => specCoordinatorBegin_is xs b v1 q Ap cp ps w9 (s1.on hw9 hw9.size) hs.fit (hp.on hw9) (by omega) (fun p hp => by have := hpu p hp; omega) hv
  clear hv hs hp hpu
  obtain ⟨A1, c1, B1, k1, rfl, T1, hc1, R1, hd1⟩ := s1
  unfold crV at *
  go_upto_region 4 with fail
  have al := (Below.refl (w1).heap.size w1).alloc (Nat.le_refl _) (.cells #[.slice A1 q.ts.length c1, .slice B1 q.os.length k1] 26)
  have xn := Blk2s.new_ w1 26 (.slice A1 q.ts.length c1) (.slice B1 q.os.length k1)
  obtain ⟨w2, hw'⟩ : ∃ x, (w1).alloc (.cells #[.slice A1 q.ts.length c1, .slice B1 q.os.length k1] 26) = x := ⟨_, rfl⟩
  rw [hw'] at al xn ⊢
  clear hw'
  have x1 := xn
  have D1 := al
  obtain ⟨y1, z1, -⟩ := id x1.reads
  clear xn al
  go_wp2_with fail
  refine (CI.out _ D1).mono ?_
  rintro e w3 ⟨v3, col3, rfl, o3, d3⟩
  obtain ⟨A2, c2, B2, k2, rfl, -⟩ := o3.form
  unfold crV at o3 ⊢
  have D3 := D1.trans (d3.mono D1.size)
  have X1 := x1.later d3
  clear x1 D1 d3 y1 z1 CI
  go_upto_region 5 with fail
  have al := (Below.refl (w3).heap.size w3).alloc (Nat.le_refl _) (.cells #[.slice A2 xs.ts.length c2, .slice B2 xs.os.length k2] 26)
  have xn := Blk2s.new_ w3 26 (.slice A2 xs.ts.length c2) (.slice B2 xs.os.length k2)
  obtain ⟨w4, hw'⟩ : ∃ x, (w3).alloc (.cells #[.slice A2 xs.ts.length c2, .slice B2 xs.os.length k2] 26) = x := ⟨_, rfl⟩
  rw [hw'] at al xn ⊢
  clear hw'
  have x2 := xn
  have x1 := X1.later al
  have D4 := D3.trans (al.mono D3.size)
  have q2 := o3.below al
  obtain ⟨y1, z1, -⟩ := id x1.reads
  clear xn al X1 D3 o3
  go_wp2_with fail
  refine (CS.out _ D4).mono ?_
  rintro e w5 ⟨v5, col5, rfl, o5, d5⟩
  obtain ⟨A3, c3, B3, k3, rfl, -⟩ := o5.form
  unfold crV at o5 ⊢
  have D5 := D4.trans (d5.mono D4.size)
  have X1 := x1.later d5
  have X2 := x2.later d5
  have q3 := q2.below d5
  clear x1 x2 D4 d5 y1 z1 CS q2
  go_upto_region 6 with fail
  have al := (Below.refl (w5).heap.size w5).alloc (Nat.le_refl _) (.cells #[.slice A3 xs.ts.length c3, .slice B3 xs.os.length k3] 26)
  have xn := Blk2s.new_ w5 26 (.slice A3 xs.ts.length c3) (.slice B3 xs.os.length k3)
  obtain ⟨w6, hw'⟩ : ∃ x, (w5).alloc (.cells #[.slice A3 xs.ts.length c3, .slice B3 xs.os.length k3] 26) = x := ⟨_, rfl⟩
  rw [hw'] at al xn ⊢
  clear hw'
  have x1 := X1.later al
  have x2 := X2.later al
  have D6 := D5.trans (al.mono D5.size)
  have q4 := q3.below al
  have p4 := o5.below al
  have b6 := bw.trans (D6.mono bw.size)
  have HD6 := hid D6
  have HF : Hid (∀ x, Below w6.heap.size w6 x → (x.cell? ⟨w1.heap.size, 0, none⟩ = some (.slice A1 q.ts.length c1) ∧ x.cell? ⟨w1.heap.size, 1, none⟩ = some (.slice B1 q.os.length k1)) ∧ (x.cell? ⟨w3.heap.size, 0, none⟩ = some (.slice A2 xs.ts.length c2) ∧ x.cell? ⟨w3.heap.size, 1, none⟩ = some (.slice B2 xs.os.length k2)) ∧ (x.cell? ⟨w5.heap.size, 0, none⟩ = some (.slice A3 xs.ts.length c3) ∧ x.cell? ⟨w5.heap.size, 1, none⟩ = some (.slice B3 xs.os.length k3))) := fun x hx =>
    ⟨⟨(x1.later hx).reads.1, (x1.later hx).reads.2.1⟩, ⟨(x2.later hx).reads.1, (x2.later hx).reads.2.1⟩, (xn.later hx).reads.1, (xn.later hx).reads.2.1⟩
  have HT1 : Hid (∀ x, Below w6.heap.size w6 x → Txs x x.heap.size A1 q.ts) := fun x hx => T1.on (D6.trans (hx.mono D6.size))
  have HR1 : Hid (∀ x, Below w6.heap.size w6 x → Row x x.heap.size B1 (ints q.os)) := fun x hx => (R1.below (D6.trans (hx.mono D6.size)) (Nat.le_refl _)).more (Nat.le_trans D6.size hx.size)
  have HC1 : Hid (∀ x, Below w6.heap.size w6 x → Crdd x x.heap.size (.agg #[.slice A1 q.ts.length c1, .slice B1 q.os.length k1]) q) := fun x hx => ⟨A1, c1, B1, k1, rfl, HT1.out x hx, hc1, HR1.out x hx, hd1⟩
  have HO2 : Hid (∀ x, Below w6.heap.size w6 x → OwnCr col3 x w2.heap.size (.agg #[.slice A2 xs.ts.length c2, .slice B2 xs.os.length k2]) xs) := fun x hx => q4.below hx
  have HC2 : Hid (∀ x, Below w6.heap.size w6 x → Crdd x x.heap.size (.agg #[.slice A2 xs.ts.length c2, .slice B2 xs.os.length k2]) xs) := fun x hx => (q4.below hx).crd
  have HC3 : Hid (∀ x, Below w6.heap.size w6 x → Crdd x x.heap.size (.agg #[.slice A3 xs.ts.length c3, .slice B3 xs.os.length k3]) xs) := fun x hx => (p4.below hx).crd
  have dx := Below.refl w6.heap.size w6
  have HLT : Hid (w1.heap.size < w6.heap.size ∧ w3.heap.size < w6.heap.size ∧ w5.heap.size < w6.heap.size) := ⟨x1.lt, x2.lt, xn.lt⟩
  replace bw := b6
  clear b6 x1 x2 xn X1 X2 al D5 D6 q3 q4 p4 o5 T1 R1
  obtain ⟨⟨y1, z1⟩, ⟨y2, z2⟩, y3, z3⟩ := HF.out _ dx
  go_wp2_with fail
  refine (sameCoordinator_is _ _ xs _ (HC2.out _ dx) (HC3.out _ dx) HSX.out).mono ?_
  rintro e w7 ⟨rfl, dn⟩
  replace dx := dx.trans ((dn).mono dx.size)
  clear y1 z1 y2 z2 y3 z3 dn
  obtain ⟨⟨y1, z1⟩, ⟨y2, z2⟩, y3, z3⟩ := HF.out _ dx
  cases b with
  | false =>
    go_wp2_with fail
    refine (sameCoordinator_is _ _ xs _ (HC2.out _ dx) (HC3.out _ dx) HSX.out).mono ?_
    rintro e w8 ⟨rfl, dn⟩
    replace dx := dx.trans ((dn).mono dx.size)
    clear y1 z1 y2 z2 y3 z3 dn
    obtain ⟨⟨y1, z1⟩, ⟨y2, z2⟩, y3, z3⟩ := HF.out _ dx
    go_wp2
    go_ret
    exact .mk_ (bw.trans (dx.mono bw.size))
  | true =>
    obtain ⟨hvq, hvp, h12, hx⟩ := begun_yes HV.out
    have hos : xs.os = q.os := by rw [hx]; rfl
    have hts : xs.ts = q.ts ++ [fresh ps] := by rw [hx]; rfl
    have hxl : xs.ts.length = q.ts.length + 1 := by rw [hts]; simp
    have hw : IntKind.i64.wrap ((xs.ts.length : Int) - 1) = (q.ts.length : Int) := by
      rw [IntWalk.i64_in _ (by omega)]; omega
    have hcap := (crd_caps (HC2.out _ dx)).1
    have HTS := hid hts
    have HOS := hid hos
    have HXL := hid hxl
    have HVP := hid hvp
    have HVQ := hid hvq
    clear hx hvq hvp hts hos HV
    obtain ⟨gT, rfl, -⟩ := cr_head (HO2.out _ dx) (n := 0) (by omega)
    have al := (Below.refl w7.heap.size w7).alloc (Nat.le_refl _) (.cells #[] 3)
    have o1 := OwnI.nil_new (w := w7) (B := w7.heap.size) (Nat.le_refl _)
    have H12 := hid h12
    clear h12 hxl
    go_wp2_with fail
    go_loopw [10, 11] (fun o i wr => ∃ (k : Nat) (ys : List Int) (Ao : Option Addr) (co : Nat), k ≤ ps.length ∧ i = .int .i64 k ∧ o = .slice Ao ys.length co ∧ Hid (ys = (ps.map Part.s).take k) ∧ OwnI wr w7.heap.size (.slice Ao ys.length co) ys ∧ Below w7.heap.size w7 wr) (fun _ i _ => ps.length - (intOf i).toNat)
    case atStart => exact ⟨0, [], _, _, Nat.zero_le _, rfl, rfl, by rw [List.take_zero]; rfl, o1, al⟩
    case round =>
      obtain ⟨k, ys, Ao, co, hk, rfl, rfl, HY, oy, hb⟩ := hrel
      clear o1 al
      have hz := hb.size
      have dr := dx.trans (hb.mono dx.size)
      by_cases hlt : k < ps.length
      · obtain ⟨p, ad8, A5, c5, hop, rfl, hbp, p0, p1, -, -⟩ := (HP.out _ (HD6.out.trans (dr.mono HD6.out.size))).part hlt
        have i0 : (0 : Int) ≤ (k : Int) := by omega
        have i2 : (k : Int) < (ps.length : Int) := by omega
        have hyl : ys.length ≤ 5 := by rw [HY.out, List.length_take, List.length_map]; omega
        have HN : Hid (ys ++ [p.s] = (ps.map Part.s).take (k + 1)) := by
          show _ = _
          rw [List.take_succ_eq_append_getElem (by simpa using hlt), ← HY.out]
          simp [hop]
        have oA := World.ownsRow.alloc oy (.cells #[.int .i64 p.s] 3)
        have al := (Below.refl wr.heap.size wr).alloc (Nat.le_refl _) (.cells #[.int .i64 p.s] 3)
        have hb10 := hb.trans (al.mono hz)
        clear HY oy hop al dr
        go_wp2_with (at_builtin; go_must (refine wpList_append_row _ rfl _ _ 24 rfl w7.heap.size 3 i1 (.int .i64 0) 1 8 Try.underlying24 hj hy0 hy1 hy2 rfl (by decide) _ ys.length _ rfl oA (wr.heap.size + 1) (some ⟨wr.heap.size, 0, none⟩) 1 1 [.int .i64 p.s] rfl (.inr ⟨_, rfl, Nat.lt_succ_self _, cell_one_new _ _ _⟩) rfl (one_int _) (by unfold maxLen; omega) (by omega) hb10.size ?_); intro v8 w8 hown hg; have o8 : OwnI w8 w7.heap.size v8 (ys ++ [p.s]) := OwnI.app hown; obtain ⟨A8, c8, rfl, -, -⟩ := o8.form; have b8 := hb10.grown hg hb10.size (fun j hj => (World.ownsRow.lt oA j hj).1))
        go_roundw
        case rel => exact ⟨k + 1, ys ++ [p.s], A8, c8, by omega, by go_num, by rw [List.length_append]; rfl, HN, o8, b8⟩
        case measure => simp [intOf]; omega
      · have hk' : k = ps.length := by omega
        subst hk'
        have hys : ys = ps.map Part.s := by rw [HY.out, List.take_of_length_le (by simp)]
        have HYS := hid hys
        have HYL : Hid (ys.length ≤ 5) := by show _ ≤ _; rw [hys, List.length_map]; omega
        clear HY dr hys
        have hb' := hb
        replace dx := dx.trans ((hb').mono dx.size)
        clear y1 z1 y2 z2 y3 z3 hb'
        obtain ⟨⟨y1, z1⟩, ⟨y2, z2⟩, y3, z3⟩ := HF.out _ dx
        go_upto_region 15 with fail
        have al := (Below.refl (wr).heap.size wr).alloc (Nat.le_refl _) (.cells #[.slice (some ⟨gT, 0, none⟩) xs.ts.length c2, .slice B2 xs.os.length k2] 26)
        have xn := Blk2s.new_ wr 26 (.slice (some ⟨gT, 0, none⟩) xs.ts.length c2) (.slice B2 xs.os.length k2)
        obtain ⟨w9, hw'⟩ : ∃ x, (wr).alloc (.cells #[.slice (some ⟨gT, 0, none⟩) xs.ts.length c2, .slice B2 xs.os.length k2] 26) = x := ⟨_, rfl⟩
        rw [hw'] at al xn ⊢
        clear hw'
        have x12 := xn
        have hg9 : w6.heap.size ≤ wr.heap.size := dx.size
        have oz := oy.below al (Nat.le_refl _)
        have hlt9 : w1.heap.size < wr.heap.size ∧ w3.heap.size < wr.heap.size := ⟨Nat.lt_of_lt_of_le HLT.out.1 hg9, Nat.lt_of_lt_of_le HLT.out.2.1 hg9⟩
        replace dx := dx.trans ((al).mono dx.size)
        clear y1 z1 y2 z2 y3 z3 al
        obtain ⟨⟨y1, z1⟩, ⟨y2, z2⟩, y3, z3⟩ := HF.out _ dx
        obtain ⟨u0, u1, uf⟩ := id x12.reads
        have uf0 := uf 0
        have q0 : (0 : Int) ≤ (q.ts.length : Int) := by omega
        have q1 : (q.ts.length : Int) ≤ (c2 : Int) := by have := HXL.out; omega
        have q2 : (q.ts.length : Int) < (xs.ts.length : Int) := by have := HXL.out; omega
        have d10 := (Below.refl w6.heap.size w9).setCell (p := ⟨wr.heap.size, 0, none⟩) hg9 (.slice (some ⟨gT, 0, none⟩) q.ts.length c2)
        clear xn uf oy hb
        go_upto_region 16 with fail
        have x13 := x12.set0 (.slice (some ⟨gT, 0, none⟩) q.ts.length c2)
        have o13 : OwnI _ w7.heap.size (.slice Ao ys.length co) ys := row_far_type oz (by decide) (but_set w9 wr.heap.size 0 (.slice (some ⟨gT, 0, none⟩) q.ts.length c2)) (blk_type x12)
        obtain ⟨W9, hW9⟩ : ∃ x, w9.setCell ⟨wr.heap.size, 0, none⟩ (.slice (some ⟨gT, 0, none⟩) q.ts.length c2) = x := ⟨_, rfl⟩
        rw [hW9] at d10 x13 o13 ⊢
        replace dx := dx.trans d10
        clear hW9 d10 oz x12 u0 u1 uf0 y1 z1 y2 z2 y3 z3
        obtain ⟨⟨y1, z1⟩, ⟨y2, z2⟩, y3, z3⟩ := HF.out _ dx
        have hnx : q.ts.length < xs.ts.length := by have := HXL.out; omega
        have hfr : xs.ts[q.ts.length] = fresh ps := by
          simp only [HTS.out]
          simp
        have HGG : Hid (∀ y, Below w6.heap.size w6 y → ∃ A' c', y.cell? ⟨gT, q.ts.length * 3, none⟩ = some (.slice A' ps.length c') ∧ y.cell? ⟨gT, q.ts.length * 3 + 2, none⟩ = some (.int .i64 0) ∧ Parts y y.heap.size A' ps) := fun y hy => by
          obtain ⟨t2, ad2, A', c', A9, c9, ho, hA, had, g0, g1, g2, -, -, g5, g6⟩ := (crd_parts (HC2.out y hy)).1.tx hnx
          injection hA with hA
          subst hA
          have e : (⟨gT, 0, none⟩ : Addr).add (q.ts.length * 3) = ⟨gT, q.ts.length * 3, none⟩ := by unfold Addr.add; split <;> simp_all
          rw [e] at g0 g2
          rw [hfr] at ho
          subst ho
          exact ⟨A', c', g0, g2, g5⟩
        have CW := hid fun (y : World) (hy : Below w6.heap.size w6 y) => implCoordinatorWaits_is ys _ xs (q.ts.length : Int) y (HC2.out y hy) HSX.out (.inl ⟨q.ts.length, hnx, HVX.out, rfl, by rw [hfr]; rfl, by rw [hfr, waits_fresh]; exact HYS.out⟩)
        have CX := hid fun (y : World) (hy : Below w6.heap.size w6 y) => (by
          have h2 := crd_parts (HC2.out y hy)
          have h3 := crd_caps (HC2.out y hy)
          have h4 : Txs y y.heap.size (some ⟨gT, 0, none⟩) q.ts := Txs.pre (us := [fresh ps]) (by rw [← HTS.out]; exact h2.1)
          have h5 := h2.2.1
          have h6 := h3.2
          have h7 := h3.1
          rw [HOS.out] at h5 h6 ⊢
          exact ⟨some ⟨gT, 0, none⟩, c2, B2, k2, rfl, h4, by have := HXL.out; omega, h5, h6⟩ : Crdd y y.heap.size (.agg #[.slice (some ⟨gT, 0, none⟩) q.ts.length c2, .slice B2 xs.os.length k2]) q)
        have CVI := hid fun (y : World) (hy : Below w6.heap.size w6 y) => implCoordinatorValid_is true _ xs y (HC2.out y hy) HSX.out ⟨fun _ => HVX.out, fun _ => rfl⟩
        obtain ⟨A', c', g0, g2, g5⟩ := HGG.out _ dx
        have CSP := hid (sameParts_is A' Ap c' cp ps W9 g5 (HP.out _ (HD6.out.trans (dx.mono HD6.out.size))) (by omega) (fun p hp => by have := HSP.out p hp; omega))
        clear hfr hnx g2
        go_wp2_with fail
        refine CSP.out.mono ?_
        rintro e w11 ⟨rfl, d⟩
        have x14 := x13.later d
        have o14 := o13.below d (Nat.le_refl _)
        replace dx := dx.trans ((d).mono dx.size)
        clear y1 z1 y2 z2 y3 z3 d
        obtain ⟨⟨y1, z1⟩, ⟨y2, z2⟩, y3, z3⟩ := HF.out _ dx
        clear CSP g0 g5 x13 o13
        obtain ⟨A'', c'', g0, g2, g5⟩ := HGG.out _ dx
        go_wp2_with fail
        refine (CW.out _ dx).mono ?_
        rintro e w12 ⟨Aw, cw, rfl, ow, d⟩
        have x15 := x14.later d
        have o15 := o14.below d (Nat.le_refl _)
        replace dx := dx.trans ((d).mono dx.size)
        clear y1 z1 y2 z2 y3 z3 d
        obtain ⟨⟨y1, z1⟩, ⟨y2, z2⟩, y3, z3⟩ := HF.out _ dx
        clear CW g0 g2 g5 x14 o14
        have CM := hid (sameInts_ret Aw Ao cw co ys w12 _ _ ow.row o15.row (by have := HYL.out; unfold maxLen; omega))
        clear ow o15
        go_wp2_with fail
        refine CM.out.mono ?_
        rintro e w13 ⟨rfl, d⟩
        have x16 := x15.later d
        replace dx := dx.trans ((d).mono dx.size)
        clear y1 z1 y2 z2 y3 z3 d
        obtain ⟨⟨y1, z1⟩, ⟨y2, z2⟩, y3, z3⟩ := HF.out _ dx
        clear CM x15
        obtain ⟨u0, u1, -⟩ := id x16.reads
        go_wp2_with fail
        refine (sameCoordinator_is _ _ q _ (CX.out _ dx) (HC1.out _ dx) HSM.out.fit).mono ?_
        rintro e w14 ⟨rfl, d⟩
        replace dx := dx.trans ((d).mono dx.size)
        clear y1 z1 y2 z2 y3 z3 d
        obtain ⟨⟨y1, z1⟩, ⟨y2, z2⟩, y3, z3⟩ := HF.out _ dx
        clear u0 u1 x16
        go_wp2_with fail
        refine (CVI.out _ dx).mono ?_
        rintro e w15 ⟨rfl, d⟩
        replace dx := dx.trans ((d).mono dx.size)
        clear y1 z1 y2 z2 y3 z3 d
        obtain ⟨⟨y1, z1⟩, ⟨y2, z2⟩, y3, z3⟩ := HF.out _ dx
        go_wp2
        go_ret
        exact .mk_ (bw.trans (dx.mono bw.size))
theorem FnBegin_any (A : Option Addr) (c : Nat) (bs : List Int) (w : World) (f1 : Row w w.heap.size A (bs.map (Value.int .u8))) (f2 : bs.length ≤ c) (f3 : c ≤ maxLen) (f4 : ∀ n ∈ bs, 0 ≤ n ∧ n < 256) :
    Calls Try.prog 3 #[.slice A bs.length c] w (Ret (.bool true) w) := by
  by_cases hl : bs.length ≤ 1048576
  · exact FnBegin_yes A c bs w ⟨f1, f2, f3, f4⟩ hl
  · exact FnBegin_no A c bs w ⟨f1, f2, f3, f4⟩ hl
end Go.Proofs.Ytimdkddkgbmecaa
