/- The coordinator with the slices $SA and $SB is stored as the answer, with the word $BB. -/
/- Laws on coordinators: a coordinator is boxed. -/
/-
  Walks of laws on refused votes, votes against, late transactions.
-/
import Derived.Test.YtimdkddkgbmecaaLawCo1
import Derived.Test.YtimdkddkgbmecaaWatJ
import Derived.Test.YtimdkddkgbmecaaHasK
namespace Go.Proofs.Ytimdkddkgbmecaa
open Go.RowKit Wo Pu Rf Co

set_option linter.unusedVariables false in
set_option linter.unusedSimpArgs false in
theorem late_again {q x : Crd} {t : Int} {b : Bool} (h : Late q t x b) (hv : CV q) : Late x t x false := by
  cases b with
  | true => exact .no h.valid (late_once h)
  | false => cases h with
    | bad h => exact absurd hv h
    | no h1 h2 => exact .no h1 h2
set_option linter.unusedVariables false in
set_option linter.unusedSimpArgs false in
theorem counted_iff {q x : Crd} {t s : Int} {y b : Bool} (h : Counted q t s y x b) (hv : CV q) : (b = true ↔ ∃ n k, Awaits q t s n k) ∧ (b = false → x = q) := by
  cases h with
  | bad h => exact absurd hv h
  | no _ h => exact ⟨⟨fun e => (by cases e), fun ⟨n, k, a⟩ => absurd a (h n k)⟩, fun _ => rfl⟩
  | yes n k a _ => exact ⟨⟨fun _ => ⟨n, k, a⟩, fun _ => rfl⟩, fun e => (by cases e)⟩
set_option linter.unusedVariables false in
set_option linter.unusedSimpArgs false in
theorem counted_no {q x : Crd} {t s : Int} (h : Counted q t s false x true) : ∃ n, ∃ hn : n < q.ts.length, ∃ k, t = (n : Int) ∧ x = noC q n k hn := by
  obtain ⟨x', hx⟩ : ∃ x', x' = x := ⟨x, rfl⟩
  generalize hb : true = b at h
  generalize hy : false = y at h
  cases h with
  | bad _ => cases hb
  | no _ _ => cases hb
  | yes n k a _ => subst hy; exact ⟨n, a.hi, k, a.ht, rfl⟩
theorem FnVoteRefused_no (A : Option Addr) (c : Nat) (bs : List Int) (w : World) (h : Code_ w A c bs) (hl : ¬ bs.length ≤ 1048576) :
    Calls Try.prog 9 #[.slice A bs.length c] w (Ret (.bool true) w) := by
  have hc := h.2.1
  have hm := h.2.2.1
  unfold maxLen at hm
  go_enter Try.func9, Try.ntmps9
  go_wp2
  go_ret
  exact .mk_ (Below.refl _ _)
set_option linter.unusedSimpArgs false in
set_option linter.unusedVariables false in
set_option maxRecDepth 100000 in
set_option maxHeartbeats 8000000 in
theorem FnVoteRefused_yes (A : Option Addr) (c : Nat) (bs : List Int) (w : World) (h : Code_ w A c bs) (hl : bs.length ≤ 1048576) :
    Calls Try.prog 9 #[.slice A bs.length c] w (Ret (.bool true) w) := by
  go_enter Try.func9, Try.ntmps9
  go_wp2_with fail
  refine (DrawCoordinatorVote_any A c bs _ h).mono ?_
  rintro e w1 ⟨v1, q, t, s, y, rfl, s1, hs, bw⟩
  obtain ⟨xs, b, hv⟩ := counted_ex q t s y
  have HV := hid hv
  have HSM := hid hs
  have HSX := hid (cv_few hv.valid).1.fit
  have HVX := hid hv.valid
  have CI := hid fun (w9 : World) (hw9 : Below w1.heap.size w1 w9) => implCoordinatorVote_is xs b v1 q t s y w9 (s1.on hw9 hw9.size) hs.fit hv
  have CS := hid fun (w9 : World) (hw9 : Below w1.heap.size w1 w9) => specCoordinatorVote_is xs b v1 q t s y w9 (s1.on hw9 hw9.size) hs.fit hv
  clear hv hs
  obtain ⟨A1, c1, B1, k1, rfl, T1, hc1, R1, hd1⟩ := s1
  unfold crV at *
  go_upto_region 4 with fail
  have al := (Below.refl (w1).heap.size w1).alloc (Nat.le_refl _) (.cells #[.slice A1 q.ts.length c1, .slice B1 q.os.length k1] 26)
  have xn := Blk2s.new_ w1 26 (.slice A1 q.ts.length c1) (.slice B1 q.os.length k1)
  obtain ⟨w2, hw'⟩ : ∃ x, (w1).alloc (.cells #[.slice A1 q.ts.length c1, .slice B1 q.os.length k1] 26) = x := ⟨_, rfl⟩
  rw [hw'] at al xn ⊢
  clear hw'
  have x1 := xn
  have D1 := al
  obtain ⟨y1, z1, -⟩ := id x1.reads
  clear xn al
  go_wp2_with fail
  refine (CI.out _ D1).mono ?_
  rintro e w3 ⟨v3, col3, rfl, o3, d3⟩
  obtain ⟨A2, c2, B2, k2, rfl, -⟩ := o3.form
  unfold crV at o3 ⊢
  have D3 := D1.trans (d3.mono D1.size)
  have X1 := x1.later d3
  clear x1 D1 d3 y1 z1 CI
  go_upto_region 5 with fail
  have al := (Below.refl (w3).heap.size w3).alloc (Nat.le_refl _) (.cells #[.slice A2 xs.ts.length c2, .slice B2 xs.os.length k2] 26)
  have xn := Blk2s.new_ w3 26 (.slice A2 xs.ts.length c2) (.slice B2 xs.os.length k2)
  obtain ⟨w4, hw'⟩ : ∃ x, (w3).alloc (.cells #[.slice A2 xs.ts.length c2, .slice B2 xs.os.length k2] 26) = x := ⟨_, rfl⟩
  rw [hw'] at al xn ⊢
  clear hw'
  have x2 := xn
  have x1 := X1.later al
  have D4 := D3.trans (al.mono D3.size)
  have q2 := o3.below al
  obtain ⟨y1, z1, -⟩ := id x1.reads
  clear xn al X1 D3 o3
  go_wp2_with fail
  refine (CS.out _ D4).mono ?_
  rintro e w5 ⟨v5, col5, rfl, o5, d5⟩
  obtain ⟨A3, c3, B3, k3, rfl, -⟩ := o5.form
  unfold crV at o5 ⊢
  have D5 := D4.trans (d5.mono D4.size)
  have X1 := x1.later d5
  have X2 := x2.later d5
  have q3 := q2.below d5
  clear x1 x2 D4 d5 y1 z1 CS q2
  go_upto_region 6 with fail
  have al := (Below.refl (w5).heap.size w5).alloc (Nat.le_refl _) (.cells #[.slice A3 xs.ts.length c3, .slice B3 xs.os.length k3] 26)
  have xn := Blk2s.new_ w5 26 (.slice A3 xs.ts.length c3) (.slice B3 xs.os.length k3)
  obtain ⟨w6, hw'⟩ : ∃ x, (w5).alloc (.cells #[.slice A3 xs.ts.length c3, .slice B3 xs.os.length k3] 26) = x := ⟨_, rfl⟩
  rw [hw'] at al xn ⊢
  clear hw'
  have x1 := X1.later al
  have x2 := X2.later al
  have D6 := D5.trans (al.mono D5.size)
  have q4 := q3.below al
  have p4 := o5.below al
  have b6 := bw.trans (D6.mono bw.size)
  have HF : Hid (∀ x, Below w6.heap.size w6 x → (x.cell? ⟨w1.heap.size, 0, none⟩ = some (.slice A1 q.ts.length c1) ∧ x.cell? ⟨w1.heap.size, 1, none⟩ = some (.slice B1 q.os.length k1)) ∧ (x.cell? ⟨w3.heap.size, 0, none⟩ = some (.slice A2 xs.ts.length c2) ∧ x.cell? ⟨w3.heap.size, 1, none⟩ = some (.slice B2 xs.os.length k2)) ∧ (x.cell? ⟨w5.heap.size, 0, none⟩ = some (.slice A3 xs.ts.length c3) ∧ x.cell? ⟨w5.heap.size, 1, none⟩ = some (.slice B3 xs.os.length k3))) := fun x hx =>
    ⟨⟨(x1.later hx).reads.1, (x1.later hx).reads.2.1⟩, ⟨(x2.later hx).reads.1, (x2.later hx).reads.2.1⟩, (xn.later hx).reads.1, (xn.later hx).reads.2.1⟩
  have HT1 : Hid (∀ x, Below w6.heap.size w6 x → Txs x x.heap.size A1 q.ts) := fun x hx => T1.on (D6.trans (hx.mono D6.size))
  have HR1 : Hid (∀ x, Below w6.heap.size w6 x → Row x x.heap.size B1 (ints q.os)) := fun x hx => (R1.below (D6.trans (hx.mono D6.size)) (Nat.le_refl _)).more (Nat.le_trans D6.size hx.size)
  have HC1 : Hid (∀ x, Below w6.heap.size w6 x → Crdd x x.heap.size (.agg #[.slice A1 q.ts.length c1, .slice B1 q.os.length k1]) q) := fun x hx => ⟨A1, c1, B1, k1, rfl, HT1.out x hx, hc1, HR1.out x hx, hd1⟩
  have HO2 : Hid (∀ x, Below w6.heap.size w6 x → OwnCr col3 x w2.heap.size (.agg #[.slice A2 xs.ts.length c2, .slice B2 xs.os.length k2]) xs) := fun x hx => q4.below hx
  have HC2 : Hid (∀ x, Below w6.heap.size w6 x → Crdd x x.heap.size (.agg #[.slice A2 xs.ts.length c2, .slice B2 xs.os.length k2]) xs) := fun x hx => (q4.below hx).crd
  have HC3 : Hid (∀ x, Below w6.heap.size w6 x → Crdd x x.heap.size (.agg #[.slice A3 xs.ts.length c3, .slice B3 xs.os.length k3]) xs) := fun x hx => (p4.below hx).crd
  have dx := Below.refl w6.heap.size w6
  have HLT : Hid (w1.heap.size < w6.heap.size ∧ w3.heap.size < w6.heap.size ∧ w5.heap.size < w6.heap.size) := ⟨x1.lt, x2.lt, xn.lt⟩
  replace bw := b6
  clear b6 x1 x2 xn X1 X2 al D5 D6 q3 q4 p4 o5 T1 R1
  obtain ⟨⟨y1, z1⟩, ⟨y2, z2⟩, y3, z3⟩ := HF.out _ dx
  go_wp2_with fail
  refine (sameCoordinator_is _ _ xs _ (HC2.out _ dx) (HC3.out _ dx) HSX.out).mono ?_
  rintro e w7 ⟨rfl, dn⟩
  replace dx := dx.trans ((dn).mono dx.size)
  clear y1 z1 y2 z2 y3 z3 dn
  obtain ⟨⟨y1, z1⟩, ⟨y2, z2⟩, y3, z3⟩ := HF.out _ dx
  obtain ⟨bv, hbv⟩ := bool_ofP' (CV q)
  have HBV := hid hbv
  have CVS := hid (specCoordinatorValid_is bv _ q w7 (HC1.out _ dx) HSM.out.fit hbv)
  clear hbv
  go_wp2_with fail
  refine CVS.out.mono ?_
  rintro e w8 ⟨rfl, dn⟩
  replace dx := dx.trans ((dn).mono dx.size)
  clear y1 z1 y2 z2 y3 z3 dn
  obtain ⟨⟨y1, z1⟩, ⟨y2, z2⟩, y3, z3⟩ := HF.out _ dx
  clear CVS
  cases bv with
  | false =>
    go_wp2_with fail
    refine (sameCoordinator_is _ _ xs _ (HC2.out _ dx) (HC3.out _ dx) HSX.out).mono ?_
    rintro e w9 ⟨rfl, dn⟩
    replace dx := dx.trans ((dn).mono dx.size)
    clear y1 z1 y2 z2 y3 z3 dn
    obtain ⟨⟨y1, z1⟩, ⟨y2, z2⟩, y3, z3⟩ := HF.out _ dx
    go_wp2
    go_ret
    exact .mk_ (bw.trans (dx.mono bw.size))
  | true =>
    have HVq := hid (HBV.out.1 rfl)
    obtain ⟨zs, hz⟩ := waits_ex q t
    have HI := hid (counted_iff HV.out HVq.out)
    have HA := hid (awaits_iff (s := s) HVq.out hz)
    have CW := hid (implCoordinatorWaits_is zs _ q t w8 (HC1.out _ dx) HSM.out.fit hz)
    have hzl : zs.length ≤ 1048600 := by
      rcases hz with ⟨n, h1, h2, h3, h4, h5⟩ | ⟨-, h5⟩
      · rw [h5]
        have htv := h2.txs _ (List.getElem_mem h1)
        rw [← waitsTo_all htv.len]
        have := waitsTo_len q.ts[n] q.ts[n].ps.length
        have := (HSM.out.ps _ (List.getElem_mem h1)).1
        omega
      · rw [h5]; simp
    clear hz HBV
    go_wp2_with fail
    refine CW.out.mono ?_
    rintro e w9 ⟨Aw, cw, rfl, ow, d9⟩
    have CH := hid (hasInt_is b Aw cw zs s w9 _ ow.row hzl (by rw [HI.out.1, HA.out]))
    replace dx := dx.trans ((d9).mono dx.size)
    clear y1 z1 y2 z2 y3 z3 d9
    obtain ⟨⟨y1, z1⟩, ⟨y2, z2⟩, y3, z3⟩ := HF.out _ dx
    clear CW ow hzl HA
    go_wp2_with fail
    refine CH.out.mono ?_
    rintro e w10 ⟨rfl, rfl⟩
    clear CH
    cases b with
    | true =>
      go_wp2
      go_ret
      exact .mk_ (bw.trans (dx.mono bw.size))
    | false =>
      obtain rfl := HI.out.2 rfl
      go_wp2_with fail
      refine (sameCoordinator_is _ _ xs _ (HC2.out _ dx) (HC1.out _ dx) HSX.out).mono ?_
      rintro e w11 ⟨rfl, dn⟩
      replace dx := dx.trans ((dn).mono dx.size)
      clear y1 z1 y2 z2 y3 z3 dn
      obtain ⟨⟨y1, z1⟩, ⟨y2, z2⟩, y3, z3⟩ := HF.out _ dx
      go_wp2
      go_ret
      exact .mk_ (bw.trans (dx.mono bw.size))
theorem FnVoteRefused_any (A : Option Addr) (c : Nat) (bs : List Int) (w : World) (f1 : Row w w.heap.size A (bs.map (Value.int .u8))) (f2 : bs.length ≤ c) (f3 : c ≤ maxLen) (f4 : ∀ n ∈ bs, 0 ≤ n ∧ n < 256) :
    Calls Try.prog 9 #[.slice A bs.length c] w (Ret (.bool true) w) := by
  by_cases hl : bs.length ≤ 1048576
  · exact FnVoteRefused_yes A c bs w ⟨f1, f2, f3, f4⟩ hl
  · exact FnVoteRefused_no A c bs w ⟨f1, f2, f3, f4⟩ hl
/- The second timeout, and the comparisons. -/
theorem FnTimeoutLate_no (A : Option Addr) (c : Nat) (bs : List Int) (w : World) (h : Code_ w A c bs) (hl : ¬ bs.length ≤ 1048576) :
    Calls Try.prog 11 #[.slice A bs.length c] w (Ret (.bool true) w) := by
  have hc := h.2.1
  have hm := h.2.2.1
  unfold maxLen at hm
  go_enter Try.func11, Try.ntmps11
  go_wp2
  go_ret
  exact .mk_ (Below.refl _ _)
set_option linter.unusedSimpArgs false in
set_option linter.unusedVariables false in
set_option maxRecDepth 100000 in
set_option maxHeartbeats 8000000 in
theorem FnTimeoutLate_yes (A : Option Addr) (c : Nat) (bs : List Int) (w : World) (h : Code_ w A c bs) (hl : bs.length ≤ 1048576) :
    Calls Try.prog 11 #[.slice A bs.length c] w (Ret (.bool true) w) := by
  go_enter Try.func11, Try.ntmps11
  go_wp2_with fail
  refine (DrawCoordinatorTimeout_any A c bs _ h).mono ?_
  rintro e w1 ⟨v1, q, t, rfl, s1, hs, bw⟩
  obtain ⟨xs, b, hv⟩ := late_ex q t
  have HV := hid hv
  have HSM := hid hs
  have HSX := hid (cv_few hv.valid).1.fit
  have HVX := hid hv.valid
  have CI := hid fun (w9 : World) (hw9 : Below w1.heap.size w1 w9) => implCoordinatorTimeout_is xs b v1 q t w9 (s1.on hw9 hw9.size) hs.fit hv
  have CS := hid fun (w9 : World) (hw9 : Below w1.heap.size w1 w9) => specCoordinatorTimeout_is xs b v1 q t w9 (s1.on hw9 hw9.size) hs.fit hv
  clear hv hs
  obtain ⟨A1, c1, B1, k1, rfl, T1, hc1, R1, hd1⟩ := s1
  unfold crV at *
  go_upto_region 4 with fail
  have al := (Below.refl (w1).heap.size w1).alloc (Nat.le_refl _) (.cells #[.slice A1 q.ts.length c1, .slice B1 q.os.length k1] 26)
  have xn := Blk2s.new_ w1 26 (.slice A1 q.ts.length c1) (.slice B1 q.os.length k1)
  obtain ⟨w2, hw'⟩ : ∃ x, (w1).alloc (.cells #[.slice A1 q.ts.length c1, .slice B1 q.os.length k1] 26) = x := ⟨_, rfl⟩
  rw [hw'] at al xn ⊢
  clear hw'
  have x1 := xn
  have D1 := al
  obtain ⟨y1, z1, -⟩ := id x1.reads
  clear xn al
  go_wp2_with fail
  refine (CI.out _ D1).mono ?_
  rintro e w3 ⟨v3, col3, rfl, o3, d3⟩
  obtain ⟨A2, c2, B2, k2, rfl, -⟩ := o3.form
  unfold crV at o3 ⊢
  have D3 := D1.trans (d3.mono D1.size)
  have X1 := x1.later d3
  clear x1 D1 d3 y1 z1 CI
  go_upto_region 5 with fail
  have al := (Below.refl (w3).heap.size w3).alloc (Nat.le_refl _) (.cells #[.slice A2 xs.ts.length c2, .slice B2 xs.os.length k2] 26)
  have xn := Blk2s.new_ w3 26 (.slice A2 xs.ts.length c2) (.slice B2 xs.os.length k2)
  obtain ⟨w4, hw'⟩ : ∃ x, (w3).alloc (.cells #[.slice A2 xs.ts.length c2, .slice B2 xs.os.length k2] 26) = x := ⟨_, rfl⟩
  rw [hw'] at al xn ⊢
  clear hw'
  have x2 := xn
  have x1 := X1.later al
  have D4 := D3.trans (al.mono D3.size)
  have q2 := o3.below al
  obtain ⟨y1, z1, -⟩ := id x1.reads
  clear xn al X1 D3 o3
  go_wp2_with fail
  refine (CS.out _ D4).mono ?_
  rintro e w5 ⟨v5, col5, rfl, o5, d5⟩
  obtain ⟨A3, c3, B3, k3, rfl, -⟩ := o5.form
  unfold crV at o5 ⊢
  have D5 := D4.trans (d5.mono D4.size)
  have X1 := x1.later d5
  have X2 := x2.later d5
  have q3 := q2.below d5
  clear x1 x2 D4 d5 y1 z1 CS q2
  go_upto_region 6 with fail
  have al := (Below.refl (w5).heap.size w5).alloc (Nat.le_refl _) (.cells #[.slice A3 xs.ts.length c3, .slice B3 xs.os.length k3] 26)
  have xn := Blk2s.new_ w5 26 (.slice A3 xs.ts.length c3) (.slice B3 xs.os.length k3)
  obtain ⟨w6, hw'⟩ : ∃ x, (w5).alloc (.cells #[.slice A3 xs.ts.length c3, .slice B3 xs.os.length k3] 26) = x := ⟨_, rfl⟩
  rw [hw'] at al xn ⊢
  clear hw'
  have x1 := X1.later al
  have x2 := X2.later al
  have D6 := D5.trans (al.mono D5.size)
  have q4 := q3.below al
  have p4 := o5.below al
  have b6 := bw.trans (D6.mono bw.size)
  have HF : Hid (∀ x, Below w6.heap.size w6 x → (x.cell? ⟨w1.heap.size, 0, none⟩ = some (.slice A1 q.ts.length c1) ∧ x.cell? ⟨w1.heap.size, 1, none⟩ = some (.slice B1 q.os.length k1)) ∧ (x.cell? ⟨w3.heap.size, 0, none⟩ = some (.slice A2 xs.ts.length c2) ∧ x.cell? ⟨w3.heap.size, 1, none⟩ = some (.slice B2 xs.os.length k2)) ∧ (x.cell? ⟨w5.heap.size, 0, none⟩ = some (.slice A3 xs.ts.length c3) ∧ x.cell? ⟨w5.heap.size, 1, none⟩ = some (.slice B3 xs.os.length k3))) := fun x hx =>
    ⟨⟨(x1.later hx).reads.1, (x1.later hx).reads.2.1⟩, ⟨(x2.later hx).reads.1, (x2.later hx).reads.2.1⟩, (xn.later hx).reads.1, (xn.later hx).reads.2.1⟩
  have HT1 : Hid (∀ x, Below w6.heap.size w6 x → Txs x x.heap.size A1 q.ts) := fun x hx => T1.on (D6.trans (hx.mono D6.size))
  have HR1 : Hid (∀ x, Below w6.heap.size w6 x → Row x x.heap.size B1 (ints q.os)) := fun x hx => (R1.below (D6.trans (hx.mono D6.size)) (Nat.le_refl _)).more (Nat.le_trans D6.size hx.size)
  have HC1 : Hid (∀ x, Below w6.heap.size w6 x → Crdd x x.heap.size (.agg #[.slice A1 q.ts.length c1, .slice B1 q.os.length k1]) q) := fun x hx => ⟨A1, c1, B1, k1, rfl, HT1.out x hx, hc1, HR1.out x hx, hd1⟩
  have HO2 : Hid (∀ x, Below w6.heap.size w6 x → OwnCr col3 x w2.heap.size (.agg #[.slice A2 xs.ts.length c2, .slice B2 xs.os.length k2]) xs) := fun x hx => q4.below hx
  have HC2 : Hid (∀ x, Below w6.heap.size w6 x → Crdd x x.heap.size (.agg #[.slice A2 xs.ts.length c2, .slice B2 xs.os.length k2]) xs) := fun x hx => (q4.below hx).crd
  have HC3 : Hid (∀ x, Below w6.heap.size w6 x → Crdd x x.heap.size (.agg #[.slice A3 xs.ts.length c3, .slice B3 xs.os.length k3]) xs) := fun x hx => (p4.below hx).crd
  have dx := Below.refl w6.heap.size w6
  have HLT : Hid (w1.heap.size < w6.heap.size ∧ w3.heap.size < w6.heap.size ∧ w5.heap.size < w6.heap.size) := ⟨x1.lt, x2.lt, xn.lt⟩
  replace bw := b6
  clear b6 x1 x2 xn X1 X2 al D5 D6 q3 q4 p4 o5 T1 R1
  obtain ⟨⟨y1, z1⟩, ⟨y2, z2⟩, y3, z3⟩ := HF.out _ dx
  go_wp2_with fail
  refine (sameCoordinator_is _ _ xs _ (HC2.out _ dx) (HC3.out _ dx) HSX.out).mono ?_
  rintro e w7 ⟨rfl, dn⟩
  replace dx := dx.trans ((dn).mono dx.size)
  clear y1 z1 y2 z2 y3 z3 dn
  obtain ⟨⟨y1, z1⟩, ⟨y2, z2⟩, y3, z3⟩ := HF.out _ dx
  obtain ⟨bv, hbv⟩ := bool_ofP' (CV q)
  have HBV := hid hbv
  have CVS := hid (specCoordinatorValid_is bv _ q w7 (HC1.out _ dx) HSM.out.fit hbv)
  clear hbv
  go_wp2_with fail
  refine CVS.out.mono ?_
  rintro e w8 ⟨rfl, dn⟩
  replace dx := dx.trans ((dn).mono dx.size)
  clear y1 z1 y2 z2 y3 z3 dn
  obtain ⟨⟨y1, z1⟩, ⟨y2, z2⟩, y3, z3⟩ := HF.out _ dx
  clear CVS
  cases bv with
  | false =>
    go_wp2_with fail
    refine (sameCoordinator_is _ _ xs _ (HC2.out _ dx) (HC3.out _ dx) HSX.out).mono ?_
    rintro e w9 ⟨rfl, dn⟩
    replace dx := dx.trans ((dn).mono dx.size)
    clear y1 z1 y2 z2 y3 z3 dn
    obtain ⟨⟨y1, z1⟩, ⟨y2, z2⟩, y3, z3⟩ := HF.out _ dx
    go_wp2
    go_ret
    exact .mk_ (bw.trans (dx.mono bw.size))
  | true =>
    have HVq := hid (HBV.out.1 rfl)
    have CT := hid fun (w9 : World) (hw9 : Below w6.heap.size w6 w9) => implCoordinatorTimeout_is xs false _ xs t w9 (HC2.out _ hw9) HSX.out (late_again HV.out HVq.out)
    have HB : Hid (b = true ↔ ∃ n, ∃ h : n < q.ts.length, t = (n : Int) ∧ q.ts[n].d = 0) := by
      show _ ↔ _
      have hv := HV.out
      cases hv with
      | bad h => exact absurd HVq.out h
      | no _ h => exact ⟨fun e => by (cases e), fun ⟨n, h1, h2, h3⟩ => absurd h3 (h n h1 h2)⟩
      | yes n h1 h2 h3 _ => exact ⟨fun _ => ⟨n, h1, h2, h3⟩, fun _ => rfl⟩
    obtain ⟨bo, hbo⟩ : ∃ bo : Bool, bo = b := ⟨_, rfl⟩
    by_cases h0 : 0 ≤ t
    · obtain ⟨n, rfl⟩ := Int.eq_ofNat_of_zero_le h0
      by_cases h1 : n < q.ts.length
      · obtain ⟨t2, ad2, A', c', A9, c9, ho, rfl, had, g0, g1, g2, -⟩ := (HT1.out _ dx).tx h1
        have k0 : (0 : Int) ≤ (n : Int) := by omega
        have k1 : (n : Int) < (q.ts.length : Int) := by omega
        have e0 : (t2.d == 0) = b := by
          rw [Bool.eq_iff_iff, HB.out, beq_iff_eq]
          constructor
          · exact fun e => ⟨n, h1, rfl, by rw [ho]; exact e⟩
          · rintro ⟨m, h2, h3, h4⟩
            have : m = n := by omega
            subst this
            rw [ho] at h4
            exact h4
        clear HB h0 HV HBV
        go_wp2_with fail
        refine (CT.out _ dx).mono ?_
        rintro e w9 ⟨v9, col9, rfl, o9, d9⟩
        obtain ⟨A8, c8, B8, k8, rfl, -⟩ := o9.form
        unfold crV at o9 ⊢
        replace dx := dx.trans ((d9).mono dx.size)
        clear y1 z1 y2 z2 y3 z3 d9
        obtain ⟨⟨y1, z1⟩, ⟨y2, z2⟩, y3, z3⟩ := HF.out _ dx
        go_upto_region 10 with fail
        have al := (Below.refl (w9).heap.size w9).alloc (Nat.le_refl _) (.cells #[.slice A8 xs.ts.length c8, .slice B8 xs.os.length k8] 26)
        have xn := Blk2s.new_ w9 26 (.slice A8 xs.ts.length c8) (.slice B8 xs.os.length k8)
        obtain ⟨w10, hw'⟩ : ∃ x, (w9).alloc (.cells #[.slice A8 xs.ts.length c8, .slice B8 xs.os.length k8] 26) = x := ⟨_, rfl⟩
        rw [hw'] at al xn ⊢
        clear hw'
        have o10 := o9.below al
        have x4 := xn
        replace dx := dx.trans ((al).mono dx.size)
        clear y1 z1 y2 z2 y3 z3 al
        obtain ⟨⟨y1, z1⟩, ⟨y2, z2⟩, y3, z3⟩ := HF.out _ dx
        clear xn o9 CT
        obtain ⟨y4, z4, -⟩ := id x4.reads
        go_wp2_with fail
        refine (sameCoordinator_is _ _ xs _ o10.crd (HC2.out _ dx) HSX.out).mono ?_
        rintro e w11 ⟨rfl, dn⟩
        replace dx := dx.trans ((dn).mono dx.size)
        clear y1 z1 y2 z2 y3 z3 dn
        obtain ⟨⟨y1, z1⟩, ⟨y2, z2⟩, y3, z3⟩ := HF.out _ dx
        clear y4 z4
        go_wp2
        go_ret
        exact .mk_ (bw.trans (dx.mono bw.size))
      · have e0 : b = false := by
          rw [← Bool.not_eq_true, HB.out]
          rintro ⟨m, h2, h3, h4⟩
          omega
        have k0 : decide ((0 : Int) ≤ (n : Int)) = true := decide_eq_true (by omega)
        have k1 : decide ((n : Int) < (q.ts.length : Int)) = false := decide_eq_false (by omega)
        have k2 : decide (n < q.ts.length) = false := decide_eq_false h1
        subst e0
        clear HB h0 HV HBV h1
        go_wp2_with fail
        refine (CT.out _ dx).mono ?_
        rintro e w9 ⟨v9, col9, rfl, o9, d9⟩
        obtain ⟨A8, c8, B8, k8, rfl, -⟩ := o9.form
        unfold crV at o9 ⊢
        replace dx := dx.trans ((d9).mono dx.size)
        clear y1 z1 y2 z2 y3 z3 d9
        obtain ⟨⟨y1, z1⟩, ⟨y2, z2⟩, y3, z3⟩ := HF.out _ dx
        go_upto_region 10 with fail
        have al := (Below.refl (w9).heap.size w9).alloc (Nat.le_refl _) (.cells #[.slice A8 xs.ts.length c8, .slice B8 xs.os.length k8] 26)
        have xn := Blk2s.new_ w9 26 (.slice A8 xs.ts.length c8) (.slice B8 xs.os.length k8)
        obtain ⟨w10, hw'⟩ : ∃ x, (w9).alloc (.cells #[.slice A8 xs.ts.length c8, .slice B8 xs.os.length k8] 26) = x := ⟨_, rfl⟩
        rw [hw'] at al xn ⊢
        clear hw'
        have o10 := o9.below al
        have x4 := xn
        replace dx := dx.trans ((al).mono dx.size)
        clear y1 z1 y2 z2 y3 z3 al
        obtain ⟨⟨y1, z1⟩, ⟨y2, z2⟩, y3, z3⟩ := HF.out _ dx
        clear xn o9 CT
        obtain ⟨y4, z4, -⟩ := id x4.reads
        go_wp2_with fail
        refine (sameCoordinator_is _ _ xs _ o10.crd (HC2.out _ dx) HSX.out).mono ?_
        rintro e w11 ⟨rfl, dn⟩
        replace dx := dx.trans ((dn).mono dx.size)
        clear y1 z1 y2 z2 y3 z3 dn
        obtain ⟨⟨y1, z1⟩, ⟨y2, z2⟩, y3, z3⟩ := HF.out _ dx
        clear y4 z4
        go_wp2
        go_ret
        exact .mk_ (bw.trans (dx.mono bw.size))
    · have e0 : b = false := by
        rw [← Bool.not_eq_true, HB.out]
        rintro ⟨m, h2, h3, h4⟩
        omega
      have k0 : decide ((0 : Int) ≤ t) = false := decide_eq_false h0
      subst e0
      clear HB h0 HV HBV
      go_wp2_with fail
      refine (CT.out _ dx).mono ?_
      rintro e w9 ⟨v9, col9, rfl, o9, d9⟩
      obtain ⟨A8, c8, B8, k8, rfl, -⟩ := o9.form
      unfold crV at o9 ⊢
      replace dx := dx.trans ((d9).mono dx.size)
      clear y1 z1 y2 z2 y3 z3 d9
      obtain ⟨⟨y1, z1⟩, ⟨y2, z2⟩, y3, z3⟩ := HF.out _ dx
      go_upto_region 10 with fail
      have al := (Below.refl (w9).heap.size w9).alloc (Nat.le_refl _) (.cells #[.slice A8 xs.ts.length c8, .slice B8 xs.os.length k8] 26)
      have xn := Blk2s.new_ w9 26 (.slice A8 xs.ts.length c8) (.slice B8 xs.os.length k8)
      obtain ⟨w10, hw'⟩ : ∃ x, (w9).alloc (.cells #[.slice A8 xs.ts.length c8, .slice B8 xs.os.length k8] 26) = x := ⟨_, rfl⟩
      rw [hw'] at al xn ⊢
      clear hw'
      have o10 := o9.below al
      have x4 := xn
      replace dx := dx.trans ((al).mono dx.size)
      clear y1 z1 y2 z2 y3 z3 al
      obtain ⟨⟨y1, z1⟩, ⟨y2, z2⟩, y3, z3⟩ := HF.out _ dx
      clear xn o9 CT
      obtain ⟨y4, z4, -⟩ := id x4.reads
      go_wp2_with fail
      refine (sameCoordinator_is _ _ xs _ o10.crd (HC2.out _ dx) HSX.out).mono ?_
      rintro e w11 ⟨rfl, dn⟩
      replace dx := dx.trans ((dn).mono dx.size)
      clear y1 z1 y2 z2 y3 z3 dn
      obtain ⟨⟨y1, z1⟩, ⟨y2, z2⟩, y3, z3⟩ := HF.out _ dx
      clear y4 z4
      go_wp2
      go_ret
      exact .mk_ (bw.trans (dx.mono bw.size))
theorem FnTimeoutLate_any (A : Option Addr) (c : Nat) (bs : List Int) (w : World) (f1 : Row w w.heap.size A (bs.map (Value.int .u8))) (f2 : bs.length ≤ c) (f3 : c ≤ maxLen) (f4 : ∀ n ∈ bs, 0 ≤ n ∧ n < 256) :
    Calls Try.prog 11 #[.slice A bs.length c] w (Ret (.bool true) w) := by
  by_cases hl : bs.length ≤ 1048576
  · exact FnTimeoutLate_yes A c bs w ⟨f1, f2, f3, f4⟩ hl
  · exact FnTimeoutLate_no A c bs w ⟨f1, f2, f3, f4⟩ hl
end Go.Proofs.Ytimdkddkgbmecaa
