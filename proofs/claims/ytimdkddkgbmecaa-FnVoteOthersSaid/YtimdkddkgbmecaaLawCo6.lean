/- The coordinator with the slices $SA and $SB is stored as the answer, with the word $BB. -/
/- Laws on coordinators: a coordinator is boxed. -/
/-
  Walk of the law on the other transactions.
-/
import Derived.Test.YtimdkddkgbmecaaLawCo4
namespace Go.Proofs.Ytimdkddkgbmecaa
open Go.RowKit Wo Pu Rf Co

theorem counted_others {q x : Crd} {t s : Int} {y : Bool} (h : Counted q t s y x true) : x.ts.length = q.ts.length ∧ ∀ i (h1 : i < q.ts.length) (h2 : i < x.ts.length), (i : Int) ≠ t → x.ts[i] = q.ts[i] := by
  generalize hb : true = b at h
  cases h with
  | bad _ => cases hb
  | no _ _ => cases hb
  | yes n k a _ =>
    have ht := a.ht
    cases y with
    | true =>
      refine ⟨by simp [yesC], fun i h1 h2 hne => ?_⟩
      have : n ≠ i := fun e => hne (by rw [← e]; exact ht.symm)
      simp only [if_true, yesC]
      exact List.getElem_set_ne this _
    | false =>
      refine ⟨by simp [noC], fun i h1 h2 hne => ?_⟩
      have : n ≠ i := fun e => hne (by rw [← e]; exact ht.symm)
      simp only [Bool.false_eq_true, if_false, noC]
      exact List.getElem_set_ne this _
theorem FnVoteOthers_no (A : Option Addr) (c : Nat) (bs : List Int) (w : World) (h : Code_ w A c bs) (hl : ¬ bs.length ≤ 1048576) :
    Calls Try.prog 8 #[.slice A bs.length c] w (Ret (.bool true) w) := by
  have hc := h.2.1
  have hm := h.2.2.1
  unfold maxLen at hm
  go_enter Try.func8, Try.ntmps8
  go_wp2
  go_ret
  exact .mk_ (Below.refl _ _)
set_option linter.unusedSimpArgs false in
set_option linter.unusedVariables false in
set_option maxRecDepth 100000 in
set_option maxHeartbeats 8000000 in
theorem FnVoteOthers_yes (A : Option Addr) (c : Nat) (bs : List Int) (w : World) (h : Code_ w A c bs) (hl : bs.length ≤ 1048576) :
    Calls Try.prog 8 #[.slice A bs.length c] w (Ret (.bool true) w) := by
  go_enter Try.func8, Try.ntmps8
  go_wp2_with fail
  refine (DrawCoordinatorVote_any A c bs _ h).mono ?_
  rintro e w1 ⟨v1, q, t, s, y, rfl, s1, hs, bw⟩
  obtain ⟨xs, b, hv⟩ := counted_ex q t s y
  have HV := hid hv
  have HSM := hid hs
  have HSX := hid (cv_few hv.valid).1.fit
  have HVX := hid hv.valid
  have CI := hid fun (w9 : World) (hw9 : Below w1.heap.size w1 w9) => implCoordinatorVote_is xs b v1 q t s y w9 (s1.on hw9 hw9.size) hs.fit hv
  have CS := hid fun (w9 : World) (hw9 : Below w1.heap.size w1 w9) => specCoordinatorVote_is xs b v1 q t s y w9 (s1.on hw9 hw9.size) hs.fit hv
  clear hv hs
  obtain ⟨A1, c1, B1, k1, rfl, T1, hc1, R1, hd1⟩ := s1
  unfold crV at *
  go_upto_region 4 with fail
  have al := (Below.refl (w1).heap.size w1).alloc (Nat.le_refl _) (.cells #[.slice A1 q.ts.length c1, .slice B1 q.os.length k1] 26)
  have xn := Blk2s.new_ w1 26 (.slice A1 q.ts.length c1) (.slice B1 q.os.length k1)
  obtain ⟨w2, hw'⟩ : ∃ x, (w1).alloc (.cells #[.slice A1 q.ts.length c1, .slice B1 q.os.length k1] 26) = x := ⟨_, rfl⟩
  rw [hw'] at al xn ⊢
  clear hw'
  have x1 := xn
  have D1 := al
  obtain ⟨y1, z1, -⟩ := id x1.reads
  clear xn al
  go_wp2_with fail
  refine (CI.out _ D1).mono ?_
  rintro e w3 ⟨v3, col3, rfl, o3, d3⟩
  obtain ⟨A2, c2, B2, k2, rfl, -⟩ := o3.form
  unfold crV at o3 ⊢
  have D3 := D1.trans (d3.mono D1.size)
  have X1 := x1.later d3
  clear x1 D1 d3 y1 z1 CI
  go_upto_region 5 with fail
  have al := (Below.refl (w3).heap.size w3).alloc (Nat.le_refl _) (.cells #[.slice A2 xs.ts.length c2, .slice B2 xs.os.length k2] 26)
  have xn := Blk2s.new_ w3 26 (.slice A2 xs.ts.length c2) (.slice B2 xs.os.length k2)
  obtain ⟨w4, hw'⟩ : ∃ x, (w3).alloc (.cells #[.slice A2 xs.ts.length c2, .slice B2 xs.os.length k2] 26) = x := ⟨_, rfl⟩
  rw [hw'] at al xn ⊢
  clear hw'
  have x2 := xn
  have x1 := X1.later al
  have D4 := D3.trans (al.mono D3.size)
  have q2 := o3.below al
  obtain ⟨y1, z1, -⟩ := id x1.reads
  clear xn al X1 D3 o3
  go_wp2_with fail
  refine (CS.out _ D4).mono ?_
  rintro e w5 ⟨v5, col5, rfl, o5, d5⟩
  obtain ⟨A3, c3, B3, k3, rfl, -⟩ := o5.form
  unfold crV at o5 ⊢
  have D5 := D4.trans (d5.mono D4.size)
  have X1 := x1.later d5
  have X2 := x2.later d5
  have q3 := q2.below d5
  clear x1 x2 D4 d5 y1 z1 CS q2
  go_upto_region 6 with fail
  have al := (Below.refl (w5).heap.size w5).alloc (Nat.le_refl _) (.cells #[.slice A3 xs.ts.length c3, .slice B3 xs.os.length k3] 26)
  have xn := Blk2s.new_ w5 26 (.slice A3 xs.ts.length c3) (.slice B3 xs.os.length k3)
  obtain ⟨w6, hw'⟩ : ∃ x, (w5).alloc (.cells #[.slice A3 xs.ts.length c3, .slice B3 xs.os.length k3] 26) = x := ⟨_, rfl⟩
  rw [hw'] at al xn ⊢
  clear hw'
  have x1 := X1.later al
  have x2 := X2.later al
  have D6 := D5.trans (al.mono D5.size)
  have q4 := q3.below al
  have p4 := o5.below al
  have b6 := bw.trans (D6.mono bw.size)
  have HD6 := hid D6
  have HF : Hid (∀ x, Below w6.heap.size w6 x → (x.cell? ⟨w1.heap.size, 0, none⟩ = some (.slice A1 q.ts.length c1) ∧ x.cell? ⟨w1.heap.size, 1, none⟩ = some (.slice B1 q.os.length k1)) ∧ (x.cell? ⟨w3.heap.size, 0, none⟩ = some (.slice A2 xs.ts.length c2) ∧ x.cell? ⟨w3.heap.size, 1, none⟩ = some (.slice B2 xs.os.length k2)) ∧ (x.cell? ⟨w5.heap.size, 0, none⟩ = some (.slice A3 xs.ts.length c3) ∧ x.cell? ⟨w5.heap.size, 1, none⟩ = some (.slice B3 xs.os.length k3))) := fun x hx =>
    ⟨⟨(x1.later hx).reads.1, (x1.later hx).reads.2.1⟩, ⟨(x2.later hx).reads.1, (x2.later hx).reads.2.1⟩, (xn.later hx).reads.1, (xn.later hx).reads.2.1⟩
  have HT1 : Hid (∀ x, Below w6.heap.size w6 x → Txs x x.heap.size A1 q.ts) := fun x hx => T1.on (D6.trans (hx.mono D6.size))
  have HR1 : Hid (∀ x, Below w6.heap.size w6 x → Row x x.heap.size B1 (ints q.os)) := fun x hx => (R1.below (D6.trans (hx.mono D6.size)) (Nat.le_refl _)).more (Nat.le_trans D6.size hx.size)
  have HC1 : Hid (∀ x, Below w6.heap.size w6 x → Crdd x x.heap.size (.agg #[.slice A1 q.ts.length c1, .slice B1 q.os.length k1]) q) := fun x hx => ⟨A1, c1, B1, k1, rfl, HT1.out x hx, hc1, HR1.out x hx, hd1⟩
  have HO2 : Hid (∀ x, Below w6.heap.size w6 x → OwnCr col3 x w2.heap.size (.agg #[.slice A2 xs.ts.length c2, .slice B2 xs.os.length k2]) xs) := fun x hx => q4.below hx
  have HC2 : Hid (∀ x, Below w6.heap.size w6 x → Crdd x x.heap.size (.agg #[.slice A2 xs.ts.length c2, .slice B2 xs.os.length k2]) xs) := fun x hx => (q4.below hx).crd
  have HC3 : Hid (∀ x, Below w6.heap.size w6 x → Crdd x x.heap.size (.agg #[.slice A3 xs.ts.length c3, .slice B3 xs.os.length k3]) xs) := fun x hx => (p4.below hx).crd
  have dx := Below.refl w6.heap.size w6
  have HLT : Hid (w1.heap.size < w6.heap.size ∧ w3.heap.size < w6.heap.size ∧ w5.heap.size < w6.heap.size) := ⟨x1.lt, x2.lt, xn.lt⟩
  replace bw := b6
  clear b6 x1 x2 xn X1 X2 al D5 D6 q3 q4 p4 o5 T1 R1
  obtain ⟨⟨y1, z1⟩, ⟨y2, z2⟩, y3, z3⟩ := HF.out _ dx
  go_wp2_with fail
  refine (sameCoordinator_is _ _ xs _ (HC2.out _ dx) (HC3.out _ dx) HSX.out).mono ?_
  rintro e w7 ⟨rfl, dn⟩
  replace dx := dx.trans ((dn).mono dx.size)
  clear y1 z1 y2 z2 y3 z3 dn
  obtain ⟨⟨y1, z1⟩, ⟨y2, z2⟩, y3, z3⟩ := HF.out _ dx
  cases b with
  | false =>
    go_wp2_with fail
    refine (sameCoordinator_is _ _ xs _ (HC2.out _ dx) (HC3.out _ dx) HSX.out).mono ?_
    rintro e w8 ⟨rfl, dn⟩
    replace dx := dx.trans ((dn).mono dx.size)
    clear y1 z1 y2 z2 y3 z3 dn
    obtain ⟨⟨y1, z1⟩, ⟨y2, z2⟩, y3, z3⟩ := HF.out _ dx
    go_wp2
    go_ret
    exact .mk_ (bw.trans (dx.mono bw.size))
  | true =>
    have HX := hid (counted_others HV.out)
    have hf1 := HSM.out.ts
    clear HV
    go_wp2_with fail
    go_loopw [11] (fun i wr => ∃ k : Nat, k ≤ q.ts.length ∧ i = .int .i64 k ∧ Below w6.heap.size w6 wr) (fun i _ => q.ts.length - (intOf i).toNat)
    case atStart => exact ⟨0, Nat.zero_le _, rfl, dx⟩
    case round =>
      clear y1 z1 y2 z2 y3 z3 dx
      obtain ⟨k, hk, rfl, dx⟩ := hrel
      obtain ⟨⟨y1, z1⟩, ⟨y2, z2⟩, y3, z3⟩ := HF.out _ dx
      have hz9 := dx.size
      have m1 : w1.heap.size < wr.heap.size := Nat.lt_of_lt_of_le HLT.out.1 hz9
      have m3 : w3.heap.size < wr.heap.size := Nat.lt_of_lt_of_le HLT.out.2.1 hz9
      by_cases hlt : k < q.ts.length
      · have hlx : k < xs.ts.length := by rw [HX.out.1]; exact hlt
        have i0 : (0 : Int) ≤ (k : Int) := by omega
        have i1 : (k : Int) < (q.ts.length : Int) := by omega
        have i2 : (k : Int) < (xs.ts.length : Int) := by omega
        by_cases hkt : (k : Int) = t
        · have e0 : ((k : Int) != t) = false := by rw [bne_eq_false_iff_eq]; exact hkt
          clear hkt hlt hlx
          go_wp2_with fail
          refine wp_region_later wr.heap.size (by kernel_rfl) (by kernel_rfl) ?_
          repeat (go_big_quiet_step (fail))
          refine wpQuiet_nil ?_
          intro _ hw'
          obtain ⟨xx, hxx⟩ := hw'
          have hbx := xx.b
          subst hxx
          have d9 := dx.trans (hbx.mono hz9)
          go_wp2
          go_roundw
          case rel => exact ⟨k + 1, by omega, by go_num, d9⟩
          case measure => simp [intOf]; omega
        · have e0 : ((k : Int) != t) = true := by rw [bne_iff_ne]; exact hkt
          have heq := HX.out.2 k hlt hlx hkt
          obtain ⟨t1, ad, A', c', A9, c9, ho, rfl, had, g0, g1, g2, -, -, -, r1⟩ := (HT1.out _ dx).tx hlt
          obtain ⟨t2, ad2, A5, c5, A6, c6, ho2, rfl, had2, f0, f1, f2, -, -, -, r2⟩ := (crd_parts (HC2.out _ dx)).1.tx hlx
          obtain rfl : t2 = t1 := by rw [← ho2, heq, ho]
          have hvm : t2.vs.length ≤ maxLen := by have := (HSM.out.ps t2 (by rw [← ho]; exact List.getElem_mem hlt)).2; unfold maxLen; omega
          have G1 := Later.cell (p := ⟨w1.heap.size, 0, none⟩) y1 m1
          have G3 := Later.cell (p := ⟨w3.heap.size, 0, none⟩) y2 m3
          have G5 := Later.cell (p := ⟨(ad.add (k * 3)).block, (ad.add (k * 3)).off + 1, none⟩) g1 had
          have G6 := Later.cell (p := ⟨(ad.add (k * 3)).block, (ad.add (k * 3)).off + 2, none⟩) g2 had
          have G7 := Later.cell (p := ⟨(ad2.add (k * 3)).block, (ad2.add (k * 3)).off + 1, none⟩) f1 had2
          have G8 := Later.cell (p := ⟨(ad2.add (k * 3)).block, (ad2.add (k * 3)).off + 2, none⟩) f2 had2
          clear hkt hlt hlx heq ho ho2 g0 g1 g2 f0 f1 f2
          go_wp2_with fail
          refine wp_region_later wr.heap.size (by kernel_rfl) (by kernel_rfl) ?_
          repeat (go_big_quiet_step ((go_at_call 20; exact Later.call (Nat.le_refl _) _ (sameInts_ret _ _ _ _ _ _ _ _ (r2.later _) (r1.later _) hvm))))
          refine wpQuiet_nil ?_
          intro _ hw'
          obtain ⟨xx, hxx⟩ := hw'
          have hbx := xx.b
          subst hxx
          have d9 := dx.trans (hbx.mono hz9)
          go_wp2
          go_roundw
          case rel => exact ⟨k + 1, by omega, by go_num, d9⟩
          case measure => simp [intOf]; omega
      · have hk' : k = q.ts.length := by omega
        subst hk'
        have e0 : ((xs.ts.length : Int) == (q.ts.length : Int)) = true := by rw [beq_iff_eq, HX.out.1]
        go_wp2
        go_ret
        exact .mk_ (bw.trans (dx.mono bw.size))
theorem FnVoteOthers_any (A : Option Addr) (c : Nat) (bs : List Int) (w : World) (f1 : Row w w.heap.size A (bs.map (Value.int .u8))) (f2 : bs.length ≤ c) (f3 : c ≤ maxLen) (f4 : ∀ n ∈ bs, 0 ≤ n ∧ n < 256) :
    Calls Try.prog 8 #[.slice A bs.length c] w (Ret (.bool true) w) := by
  by_cases hl : bs.length ≤ 1048576
  · exact FnVoteOthers_yes A c bs w ⟨f1, f2, f3, f4⟩ hl
  · exact FnVoteOthers_no A c bs w ⟨f1, f2, f3, f4⟩ hl
end Go.Proofs.Ytimdkddkgbmecaa
