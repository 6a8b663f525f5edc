/- The coordinator with the slices $SA and $SB is stored as the answer, with the word $BB. -/
/- Laws on coordinators: a coordinator is boxed. -/
/-
  Walks of laws on valid coordinators.
-/
import Derived.Test.YtimdkddkgbmecaaLawCo1
import Derived.Test.YtimdkddkgbmecaaWatJ
import Derived.Test.YtimdkddkgbmecaaHasK
namespace Go.Proofs.Ytimdkddkgbmecaa
open Go.RowKit Wo Pu Rf Co

theorem FnOrderCommitted_no (A : Option Addr) (c : Nat) (bs : List Int) (w : World) (h : Code_ w A c bs) (hl : ¬ bs.length ≤ 1048576) :
    Calls Try.prog 12 #[.slice A bs.length c] w (Ret (.bool true) w) := by
  have hc := h.2.1
  have hm := h.2.2.1
  unfold maxLen at hm
  go_enter Try.func12, Try.ntmps12
  go_wp2
  go_ret
  exact .mk_ (Below.refl _ _)
set_option linter.unusedSimpArgs false in
set_option linter.unusedVariables false in
set_option maxRecDepth 100000 in
set_option maxHeartbeats 8000000 in
theorem FnOrderCommitted_yes (A : Option Addr) (c : Nat) (bs : List Int) (w : World) (h : Code_ w A c bs) (hl : bs.length ≤ 1048576) :
    Calls Try.prog 12 #[.slice A bs.length c] w (Ret (.bool true) w) := by
  go_enter Try.func12, Try.ntmps12
  go_wp2_with fail
  refine (DrawCoordinatorValid_any A c bs _ h).mono ?_
  rintro e w1 ⟨v1, q, rfl, s1, hs, bw⟩
  obtain ⟨bv, hbv⟩ := bool_ofP' (CV q)
  have HBV := hid hbv
  have HSM := hid hs
  have CI := hid fun (w9 : World) (hw9 : Below w1.heap.size w1 w9) => implCoordinatorValid_is bv v1 q w9 (s1.on hw9 hw9.size) hs.fit hbv
  have CS := hid fun (w9 : World) (hw9 : Below w1.heap.size w1 w9) => specCoordinatorValid_is bv v1 q w9 (s1.on hw9 hw9.size) hs.fit hbv
  clear hbv hs
  obtain ⟨A1, c1, B1, k1, rfl, T1, hc1, R1, hd1⟩ := s1
  unfold crV at *
  go_upto_region 4 with fail
  have al := (Below.refl (w1).heap.size w1).alloc (Nat.le_refl _) (.cells #[.slice A1 q.ts.length c1, .slice B1 q.os.length k1] 26)
  have xn := Blk2s.new_ w1 26 (.slice A1 q.ts.length c1) (.slice B1 q.os.length k1)
  obtain ⟨w2, hw'⟩ : ∃ x, (w1).alloc (.cells #[.slice A1 q.ts.length c1, .slice B1 q.os.length k1] 26) = x := ⟨_, rfl⟩
  rw [hw'] at al xn ⊢
  clear hw'
  have x1 := xn
  have D1 := al
  obtain ⟨y1, z1, -⟩ := id x1.reads
  clear xn al
  go_wp2_with fail
  refine (CI.out _ D1).mono ?_
  rintro e w3 ⟨rfl, d3⟩
  have D3 := D1.trans (d3.mono D1.size)
  have X1 := x1.later d3
  clear x1 D1 d3 y1 z1 CI
  obtain ⟨y1, z1, -⟩ := id X1.reads
  go_wp2_with fail
  refine (CS.out _ D3).mono ?_
  rintro e w4 ⟨rfl, d4⟩
  have D4 := D3.trans (d4.mono D3.size)
  have x1 := X1.later d4
  clear X1 D3 d4 y1 z1 CS
  obtain ⟨y1, z1, -⟩ := id x1.reads
  have T4 := T1.on D4
  have R4 := (R1.below D4 (Nat.le_refl _)).more D4.size
  have dx := bw.trans (D4.mono bw.size)
  cases bv with
  | false =>
    go_wp2
    go_ret
    exact .mk_ dx
  | true =>
    have HVq := hid (HBV.out.1 rfl)
    have hf1 := HSM.out.ts
    have hf2 := HSM.out.os
    clear HBV
    go_wp2_with fail
    go_loopw [6, 7] (fun n i wr => ∃ k : Nat, k ≤ q.ts.length ∧ i = .int .i64 k ∧ n = .int .i64 ((q.ts.take k).countP isCom : Nat) ∧ wr = w4) (fun _ i _ => q.ts.length - (intOf i).toNat)
    case atStart => exact ⟨0, Nat.zero_le _, rfl, rfl, rfl⟩
    case round =>
      obtain ⟨k, hk, rfl, rfl, rfl⟩ := hrel
      have hN : (q.ts.take k).countP isCom ≤ k := Nat.le_trans List.countP_le_length (by rw [List.length_take]; omega)
      by_cases hlt : k < q.ts.length
      · have HS := hid (com_succ hlt)
        obtain ⟨N, hNN⟩ : ∃ N, (q.ts.take k).countP isCom = N := ⟨_, rfl⟩
        rw [hNN] at hN HS ⊢
        obtain ⟨t, ad, A', c', A3, c3, ho, rfl, had, g0, g1, g2, -⟩ := T4.tx hlt
        have HO := hid ho
        have hor := HVq.out.ord k hlt
        rw [ho] at hor
        have k0 : (0 : Int) ≤ (k : Int) := by omega
        have k2 : (k : Int) < (q.ts.length : Int) := by omega
        obtain ⟨bh, hbh⟩ := bool_ofP' ((k : Int) ∈ q.os)
        have CH := hid fun (w9 : World) (e9 : w9 = wr) => (by subst e9; exact hasInt_is bh B1 k1 q.os (k : Int) w9 _ R4 (by omega) hbh : Calls Try.prog 27 #[.slice B1 q.os.length k1, .int .i64 (k : Int)] w9 (Same (.bool bh) w9))
        have HBH := hid (hbh.trans hor.symm)
        clear hNN hbh ho hor
        by_cases hd : t.d = 2
        · have e0 : (t.d == 2) = true := beq_iff_eq.2 hd
          obtain rfl : bh = true := HBH.out.2 hd
          have HS' : Hid ((q.ts.take (k + 1)).countP isCom = N + 1) := by show _ = _; rw [HS.out, if_pos (by rw [HO.out]; exact hd)]
          clear hd HS
          go_wp2_with fail
          refine (CH.out _ rfl).mono ?_
          rintro e w9 ⟨rfl, rfl⟩
          clear CH
          go_wp2
          go_roundw
          case rel => exact ⟨k + 1, by omega, by go_num, by rw [HS'.out]; go_num, trivial⟩
          case measure => simp [intOf]; omega
        · have e0 : (t.d == 2) = false := beq_eq_false_iff_ne.2 hd
          obtain rfl : bh = false := by rw [← Bool.not_eq_true]; exact fun e => hd (HBH.out.1 e)
          have HS' : Hid ((q.ts.take (k + 1)).countP isCom = N) := by show _ = _; rw [HS.out, if_neg (by rw [HO.out]; exact hd)]; rfl
          clear hd HS
          go_wp2_with fail
          refine (CH.out _ rfl).mono ?_
          rintro e w9 ⟨rfl, rfl⟩
          clear CH
          go_wp2
          go_roundw
          case rel => exact ⟨k + 1, by omega, by go_num, by rw [HS'.out], trivial⟩
          case measure => simp [intOf]; omega
      · have hk' : k = q.ts.length := by omega
        subst hk'
        rw [List.take_length, ← HVq.out.cnt]
        go_wp2
        go_ret
        exact .mk_ dx
theorem FnOrderCommitted_any (A : Option Addr) (c : Nat) (bs : List Int) (w : World) (f1 : Row w w.heap.size A (bs.map (Value.int .u8))) (f2 : bs.length ≤ c) (f3 : c ≤ maxLen) (f4 : ∀ n ∈ bs, 0 ≤ n ∧ n < 256) :
    Calls Try.prog 12 #[.slice A bs.length c] w (Ret (.bool true) w) := by
  by_cases hl : bs.length ≤ 1048576
  · exact FnOrderCommitted_yes A c bs w ⟨f1, f2, f3, f4⟩ hl
  · exact FnOrderCommitted_no A c bs w ⟨f1, f2, f3, f4⟩ hl
theorem FnCommittedVotes_no (A : Option Addr) (c : Nat) (bs : List Int) (w : World) (h : Code_ w A c bs) (hl : ¬ bs.length ≤ 1048576) :
    Calls Try.prog 13 #[.slice A bs.length c] w (Ret (.bool true) w) := by
  have hc := h.2.1
  have hm := h.2.2.1
  unfold maxLen at hm
  go_enter Try.func13, Try.ntmps13
  go_wp2
  go_ret
  exact .mk_ (Below.refl _ _)
set_option linter.unusedSimpArgs false in
set_option linter.unusedVariables false in
set_option maxRecDepth 100000 in
set_option maxHeartbeats 8000000 in
theorem FnCommittedVotes_yes (A : Option Addr) (c : Nat) (bs : List Int) (w : World) (h : Code_ w A c bs) (hl : bs.length ≤ 1048576) :
    Calls Try.prog 13 #[.slice A bs.length c] w (Ret (.bool true) w) := by
  go_enter Try.func13, Try.ntmps13
  go_wp2_with fail
  refine (DrawCoordinatorValid_any A c bs _ h).mono ?_
  rintro e w1 ⟨v1, q, rfl, s1, hs, bw⟩
  obtain ⟨bv, hbv⟩ := bool_ofP' (CV q)
  have HBV := hid hbv
  have HSM := hid hs
  have CI := hid fun (w9 : World) (hw9 : Below w1.heap.size w1 w9) => implCoordinatorValid_is bv v1 q w9 (s1.on hw9 hw9.size) hs.fit hbv
  have CS := hid fun (w9 : World) (hw9 : Below w1.heap.size w1 w9) => specCoordinatorValid_is bv v1 q w9 (s1.on hw9 hw9.size) hs.fit hbv
  clear hbv hs
  obtain ⟨A1, c1, B1, k1, rfl, T1, hc1, R1, hd1⟩ := s1
  unfold crV at *
  go_upto_region 4 with fail
  have al := (Below.refl (w1).heap.size w1).alloc (Nat.le_refl _) (.cells #[.slice A1 q.ts.length c1, .slice B1 q.os.length k1] 26)
  have xn := Blk2s.new_ w1 26 (.slice A1 q.ts.length c1) (.slice B1 q.os.length k1)
  obtain ⟨w2, hw'⟩ : ∃ x, (w1).alloc (.cells #[.slice A1 q.ts.length c1, .slice B1 q.os.length k1] 26) = x := ⟨_, rfl⟩
  rw [hw'] at al xn ⊢
  clear hw'
  have x1 := xn
  have D1 := al
  obtain ⟨y1, z1, -⟩ := id x1.reads
  clear xn al
  go_wp2_with fail
  refine (CI.out _ D1).mono ?_
  rintro e w3 ⟨rfl, d3⟩
  have D3 := D1.trans (d3.mono D1.size)
  have X1 := x1.later d3
  clear x1 D1 d3 y1 z1 CI
  obtain ⟨y1, z1, -⟩ := id X1.reads
  go_wp2_with fail
  refine (CS.out _ D3).mono ?_
  rintro e w4 ⟨rfl, d4⟩
  have D4 := D3.trans (d4.mono D3.size)
  have x1 := X1.later d4
  clear X1 D3 d4 y1 z1 CS
  obtain ⟨y1, z1, -⟩ := id x1.reads
  have T4 := T1.on D4
  have R4 := (R1.below D4 (Nat.le_refl _)).more D4.size
  have dx := bw.trans (D4.mono bw.size)
  cases bv with
  | false =>
    go_wp2
    go_ret
    exact .mk_ dx
  | true =>
    have HVq := hid (HBV.out.1 rfl)
    have hf1 := HSM.out.ts
    clear HBV R4
    go_wp2_with fail
    go_loopw [6] (fun i wr => ∃ k : Nat, k ≤ q.ts.length ∧ i = .int .i64 k ∧ wr = w4) (fun i _ => q.ts.length - (intOf i).toNat)
    case atStart => exact ⟨0, Nat.zero_le _, rfl, rfl⟩
    case round =>
      obtain ⟨k, hk, rfl, rfl⟩ := hrel
      by_cases hlt : k < q.ts.length
      · obtain ⟨t, ad, A', c', A3, c3, ho, rfl, had, g0, g1, g2, -, -, -, g6⟩ := T4.tx hlt
        have htv := HVq.out.txs t (by rw [← ho]; exact List.getElem_mem hlt)
        have hvl := (HSM.out.ps t (by rw [← ho]; exact List.getElem_mem hlt)).2
        have HTV := hid htv
        have k0 : (0 : Int) ≤ (k : Int) := by omega
        have k2 : (k : Int) < (q.ts.length : Int) := by omega
        clear ho htv
        go_wp2_with fail
        go_loopw [7] (fun i wx => ∃ j : Nat, j ≤ t.vs.length ∧ i = .int .i64 j ∧ wx = wr) (fun i _ => t.vs.length - (intOf i).toNat)
        case atStart => exact ⟨0, Nat.zero_le _, rfl, rfl⟩
        case round =>
          obtain ⟨j, hj, rfl, rfl⟩ := hrel
          by_cases hjt : j < t.vs.length
          · obtain ⟨ad2, rfl, hbl, hcell⟩ := g6.int_ hjt
            have j0 : (0 : Int) ≤ (j : Int) := by omega
            have j2 : (j : Int) < (t.vs.length : Int) := by omega
            have hm := List.getElem_mem hjt
            obtain ⟨v, hv⟩ : ∃ v, t.vs[j] = v := ⟨_, rfl⟩
            rw [hv] at hcell hm
            clear hv
            rcases HTV.out.dec with ⟨hd, h1, -⟩ | ⟨hd, h1⟩ | ⟨hd, -⟩
            · have e0 : (t.d == 2) = false := by rw [beq_eq_false_iff_ne]; omega
              have e1 : (t.d == 0) = true := beq_iff_eq.2 hd
              have e2 : (v == -1) = false := by rw [beq_eq_false_iff_ne]; exact fun e => h1 (e ▸ hm)
              clear hd h1 hm
              go_wp2
              go_roundw
              case rel => exact ⟨j + 1, by omega, by go_num, trivial⟩
              case measure => simp [intOf]; omega
            · have e0 : (t.d == 2) = true := beq_iff_eq.2 hd
              have e1 : (t.d == 0) = false := by rw [beq_eq_false_iff_ne]; omega
              have e2 : (v != 1) = false := by rw [bne_eq_false_iff_eq]; exact h1 v hm
              clear hd h1 hm
              go_wp2
              go_roundw
              case rel => exact ⟨j + 1, by omega, by go_num, trivial⟩
              case measure => simp [intOf]; omega
            · have e0 : (t.d == 2) = false := by rw [beq_eq_false_iff_ne]; omega
              have e1 : (t.d == 0) = false := by rw [beq_eq_false_iff_ne]; omega
              clear hd hm
              go_wp2
              go_roundw
              case rel => exact ⟨j + 1, by omega, by go_num, trivial⟩
              case measure => simp [intOf]; omega
          · have hj' : j = t.vs.length := by omega
            subst hj'
            go_wp2
            go_roundw
            case rel => exact ⟨k + 1, by omega, by go_num, trivial⟩
            case measure => simp [intOf]; omega
      · have hk' : k = q.ts.length := by omega
        subst hk'
        go_wp2
        go_ret
        exact .mk_ dx
theorem FnCommittedVotes_any (A : Option Addr) (c : Nat) (bs : List Int) (w : World) (f1 : Row w w.heap.size A (bs.map (Value.int .u8))) (f2 : bs.length ≤ c) (f3 : c ≤ maxLen) (f4 : ∀ n ∈ bs, 0 ≤ n ∧ n < 256) :
    Calls Try.prog 13 #[.slice A bs.length c] w (Ret (.bool true) w) := by
  by_cases hl : bs.length ≤ 1048576
  · exact FnCommittedVotes_yes A c bs w ⟨f1, f2, f3, f4⟩ hl
  · exact FnCommittedVotes_no A c bs w ⟨f1, f2, f3, f4⟩ hl
end Go.Proofs.Ytimdkddkgbmecaa
