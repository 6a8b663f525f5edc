/- The coordinator with the slices $SA and $SB is stored as the answer, with the word $BB. -/
/- Laws on coordinators: a coordinator is boxed. -/
/-
  Walk of the law on what a decided transaction waits for.
-/
import Derived.Test.YtelmeknpmlbplaaWatJ
import Derived.Test.YtelmeknpmlbplaaG5C
import Derived.Test.YtelmeknpmlbplaaDrawE
import Derived.Test.YtelmeknpmlbplaaSameC
namespace Go.Proofs.Ytelmeknpmlbplaa
open Go.RowKit Wo Pu Rf Co
set_option linter.unusedVariables false
set_option linter.unusedSimpArgs false

set_option maxHeartbeats 1000000 in
theorem ascending_is (B : Nat) (A : Option Addr) (c : Nat) (L : List Int) (w : World) (hr : Row w B A (ints L)) (hm : L.length ≤ 1048576) (HA : Hid (L.Pairwise (· < ·))) :
    Calls Try.prog 23 #[.slice A L.length c] w (Ret (.bool true) w) := by
  go_enter Try.func23, Try.ntmps23
  go_wp2
  go_loopw [3] (fun i wr => ∃ k : Nat, 1 ≤ k ∧ k ≤ L.length + 1 ∧ i = .int .i64 k ∧ Dr w wr) (fun i _ => L.length - (intOf i).toNat)
  case atStart => exact ⟨1, by omega, by omega, rfl, .refl _⟩
  case round =>
    obtain ⟨k, hk0, hk, rfl, HW⟩ := hrel
    by_cases hlt : k < L.length
    · obtain ⟨ad, rfl, hb, hc⟩ := (HW.row hr).int_ hlt
      obtain ⟨ad', he, _, hc'⟩ := (HW.row hr).int_ (k := k - 1) (by omega)
      obtain rfl : ad = ad' := by injection he
      clear he
      have hlt2 := List.pairwise_iff_getElem.1 HA.out (k - 1) k (by omega) hlt (by omega)
      have hle : ¬ L[k] ≤ L[k - 1] := by omega
      have k0 : 0 ≤ (k : Int) - 1 := by omega
      have k1 : (k : Int) - 1 < (L.length : Int) := by omega
      have kn : ((k : Int) - 1).toNat = k - 1 := by omega
      have kw : IntKind.i64.wrap ((k : Int) - 1) = (k : Int) - 1 := IntWalk.i64_in _ (by omega)
      go_wp2
      go_quiet (fail)
      clear kw kn
      go_wp2
      go_roundw
      case rel => exact ⟨k + 1, by omega, by omega, by go_num, HW.drewN _⟩
      case measure => simp [intOf]; omega
    · go_wp2
      go_ret
      exact .mk_ (HW.below _)
theorem FnWaitsNone_no (A : Option Addr) (c : Nat) (bs : List Int) (w : World) (h : Code_ w A c bs) (hl : ¬ bs.length ≤ 1048576) :
    Calls Try.prog 5 #[.slice A bs.length c] w (Ret (.bool true) w) := by
  have hc := h.2.1
  have hm := h.2.2.1
  unfold maxLen at hm
  go_enter Try.func5, Try.ntmps5
  go_wp2
  go_ret
  exact .mk_ (Below.refl _ _)
set_option linter.unusedSimpArgs false in
set_option linter.unusedVariables false in
set_option maxRecDepth 100000 in
set_option maxHeartbeats 8000000 in
theorem FnWaitsNone_yes (A : Option Addr) (c : Nat) (bs : List Int) (w : World) (h : Code_ w A c bs) (hl : bs.length ≤ 1048576) :
    Calls Try.prog 5 #[.slice A bs.length c] w (Ret (.bool true) w) := by
  go_enter Try.func5, Try.ntmps5
  go_wp2_with fail
  refine (DrawCoordinatorWaits_any A c bs _ h).mono ?_
  rintro e w1 ⟨v1, q, t, rfl, s1, hs, bw⟩
  obtain ⟨zs, hz⟩ := waits_ex q t
  have HZ := hid hz
  have HSM := hid hs
  have CI := hid fun (w9 : World) (hw9 : Below w1.heap.size w1 w9) => implCoordinatorWaits_is zs v1 q t w9 (s1.on hw9 hw9.size) hs.fit hz
  have CS := hid fun (w9 : World) (hw9 : Below w1.heap.size w1 w9) => specCoordinatorWaits_is zs v1 q t w9 (s1.on hw9 hw9.size) hs.fit hz
  obtain ⟨bv, hbv⟩ := bool_ofP' (CV q)
  have HBV := hid hbv
  have CVS := hid fun (w9 : World) (hw9 : Below w1.heap.size w1 w9) => specCoordinatorValid_is bv v1 q w9 (s1.on hw9 hw9.size) hs.fit hbv
  clear hz hs hbv
  obtain ⟨A1, c1, B1, k1, rfl, T1, hc1, R1, hd1⟩ := s1
  unfold crV at *
  go_upto_region 4 with fail
  have al := (Below.refl (w1).heap.size w1).alloc (Nat.le_refl _) (.cells #[.slice A1 q.ts.length c1, .slice B1 q.os.length k1] 26)
  have xn := Blk2s.new_ w1 26 (.slice A1 q.ts.length c1) (.slice B1 q.os.length k1)
  obtain ⟨w2, hw'⟩ : ∃ x, (w1).alloc (.cells #[.slice A1 q.ts.length c1, .slice B1 q.os.length k1] 26) = x := ⟨_, rfl⟩
  rw [hw'] at al xn ⊢
  clear hw'
  have x1 := xn
  have D1 := al
  obtain ⟨y1, z1, -⟩ := id x1.reads
  clear xn al
  go_wp2_with fail
  refine (CI.out _ D1).mono ?_
  rintro e w3 ⟨Ao, co, rfl, oo, d3⟩
  have D3 := D1.trans (d3.mono D1.size)
  have x3 := x1.later d3
  clear x1 D1 d3 y1 z1 CI
  obtain ⟨y1, z1, -⟩ := id x3.reads
  go_wp2_with fail
  refine (CS.out _ D3).mono ?_
  rintro e w4 ⟨Aw, cw, rfl, ow, d4⟩
  have x4 := x3.later d4
  have D4 := hid (D3.trans (d4.mono D3.size))
  have o4 := oo.below d4 (Nat.le_refl _)
  have HF : Hid (∀ x, Below w4.heap.size w4 x → x.cell? ⟨w1.heap.size, 0, none⟩ = some (.slice A1 q.ts.length c1) ∧ x.cell? ⟨w1.heap.size, 1, none⟩ = some (.slice B1 q.os.length k1)) := fun x hx => ⟨(x4.later hx).reads.1, (x4.later hx).reads.2.1⟩
  have hzl : zs.length ≤ 3 := by
    rcases HZ.out with ⟨n, h1, h2, -, -, e⟩ | ⟨-, e⟩
    · rw [e]
      unfold waitsT
      rw [List.length_map]
      refine Nat.le_trans (List.length_filter_le _ _) ?_
      rw [List.length_zip]
      have := (HSM.out.ps _ (List.getElem_mem h1)).1
      omega
    · rw [e]; simp
  have CM := hid fun (w9 : World) (hw9 : Below w4.heap.size w4 w9) => sameInts_ret Ao Aw co cw zs w9 _ _ (o4.row.below hw9 (Nat.le_refl _)) (ow.row.below hw9 (Nat.le_refl _)) (by unfold maxLen; omega)
  have dx := Below.refl w4.heap.size w4
  have HLT : Hid (w1.heap.size < w4.heap.size) := x4.lt
  replace bw := bw.trans (D4.out.mono bw.size)
  clear y1 z1 x3 x4 D3 d4 oo CS
  obtain ⟨y1, z1⟩ := HF.out _ dx
  go_wp2_with fail
  refine (CM.out _ dx).mono ?_
  rintro e w5 ⟨rfl, dn⟩
  replace dx := dx.trans (dn.mono dx.size)
  clear y1 z1 dn
  obtain ⟨y1, z1⟩ := HF.out _ dx
  go_wp2_with fail
  refine (CVS.out _ (D4.out.trans (dx.mono D4.out.size))).mono ?_
  rintro e w6 ⟨rfl, dn⟩
  replace dx := dx.trans (dn.mono dx.size)
  clear y1 z1 dn
  obtain ⟨y1, z1⟩ := HF.out _ dx
  cases bv with
  | false =>
    go_wp2_with fail
    refine (CM.out _ dx).mono ?_
    rintro e w7 ⟨rfl, dn⟩
    replace dx := dx.trans (dn.mono dx.size)
    clear y1 z1 dn
    obtain ⟨y1, z1⟩ := HF.out _ dx
    go_wp2
    go_ret
    exact .mk_ (bw.trans (dx.mono bw.size))
  | true =>
    have hvq : CV q := HBV.out.1 (by trivial)
    have HA : Hid (zs.Pairwise (· < ·)) := by
      show List.Pairwise _ _
      rcases HZ.out with ⟨n, h1, h2, -, -, e⟩ | ⟨-, e⟩
      · rw [e]; exact waits_asc (hvq.txs _ (List.getElem_mem h1))
      · rw [e]; exact List.Pairwise.nil
    have HO : Hid (0 < zs.length ↔ ∃ n, ∃ h : n < q.ts.length, t = (n : Int) ∧ q.ts[n].d = 0) := by
      show _ ↔ _
      rcases HZ.out with ⟨n, h1, h2, h3, h4, e⟩ | ⟨hn, e⟩
      · refine ⟨fun _ => ⟨n, h1, h3, h4⟩, fun _ => ?_⟩
        rw [e]
        exact List.length_pos_iff.2 (waits_pos (hvq.txs _ (List.getElem_mem h1)) h4)
      · rw [e]
        exact ⟨fun h => absurd h (by simp), fun h => absurd ⟨hvq, h⟩ hn⟩
    obtain ⟨bo, hbo⟩ := bool_of (0 < zs.length)
    have HBO := hid hbo
    have g1 : decide (0 < zs.length) = bo := by rw [Bool.eq_iff_iff, decide_eq_true_eq, HBO.out]
    have g2 : decide ((0 : Int) < (zs.length : Int)) = bo := by rw [Bool.eq_iff_iff, decide_eq_true_eq, HBO.out]; omega
    have CA := hid fun (w9 : World) (hw9 : Below w4.heap.size w4 w9) => ascending_is _ Ao co zs w9 (o4.row.below hw9 (Nat.le_refl _)) (by omega) HA
    clear hbo hvq CM
    by_cases h0 : 0 ≤ t
    · obtain ⟨n, rfl⟩ := Int.eq_ofNat_of_zero_le h0
      by_cases h1 : n < q.ts.length
      · obtain ⟨t2, ad2, A', c', A9, c9, ho, rfl, had, g0, g3, g4, -⟩ := (T1.on (D4.out.trans (dx.mono D4.out.size))).tx h1
        have k0 : (0 : Int) ≤ (n : Int) := by omega
        have k1 : (n : Int) < (q.ts.length : Int) := by omega
        have e0 : (t2.d == 0) = bo := by
          rw [Bool.eq_iff_iff, HBO.out, HO.out, beq_iff_eq]
          constructor
          · exact fun e => ⟨n, h1, rfl, by rw [ho]; exact e⟩
          · rintro ⟨m, h2, h3, h4⟩
            have : m = n := by omega
            subst this
            rw [ho] at h4
            exact h4
        clear h0
        go_wp2_with fail
        refine (CA.out _ dx).mono ?_
        rintro e w9 ⟨rfl, dn⟩
        replace dx := dx.trans (dn.mono dx.size)
        go_wp2
        go_ret
        exact .mk_ (bw.trans (dx.mono bw.size))
      · have e0 : bo = false := by
          rw [← Bool.not_eq_true, HBO.out, HO.out]
          rintro ⟨m, h2, h3, h4⟩
          omega
        have k0 : decide ((0 : Int) ≤ (n : Int)) = true := decide_eq_true (by omega)
        have k1 : decide ((n : Int) < (q.ts.length : Int)) = false := decide_eq_false (by omega)
        have k2 : decide (n < q.ts.length) = false := decide_eq_false h1
        subst e0
        clear h0 h1
        go_wp2_with fail
        refine (CA.out _ dx).mono ?_
        rintro e w9 ⟨rfl, dn⟩
        replace dx := dx.trans (dn.mono dx.size)
        go_wp2
        go_ret
        exact .mk_ (bw.trans (dx.mono bw.size))
    · have e0 : bo = false := by
        rw [← Bool.not_eq_true, HBO.out, HO.out]
        rintro ⟨m, h2, h3, h4⟩
        omega
      have k0 : decide ((0 : Int) ≤ t) = false := decide_eq_false h0
      subst e0
      clear h0
      go_wp2_with fail
      refine (CA.out _ dx).mono ?_
      rintro e w9 ⟨rfl, dn⟩
      replace dx := dx.trans (dn.mono dx.size)
      go_wp2
      go_ret
      exact .mk_ (bw.trans (dx.mono bw.size))
theorem FnWaitsNone_any (A : Option Addr) (c : Nat) (bs : List Int) (w : World) (f1 : Row w w.heap.size A (bs.map (Value.int .u8))) (f2 : bs.length ≤ c) (f3 : c ≤ maxLen) (f4 : ∀ n ∈ bs, 0 ≤ n ∧ n < 256) :
    Calls Try.prog 5 #[.slice A bs.length c] w (Ret (.bool true) w) := by
  by_cases hl : bs.length ≤ 1048576
  · exact FnWaitsNone_yes A c bs w ⟨f1, f2, f3, f4⟩ hl
  · exact FnWaitsNone_no A c bs w ⟨f1, f2, f3, f4⟩ hl
end Go.Proofs.Ytelmeknpmlbplaa
