/- The coordinator with the slices $SA and $SB is stored as the answer, with the word $BB. -/
/- Laws on coordinators: a coordinator is boxed. -/
/- On to the world behind D. -/
/- An exact law begins: the argument's box, its size, a copy for the model. -/
/- The program's own copy of the argument is boxed. -/
/- The program's copy is as the argument; the region draws. -/
/- Laws on functions that answer numbers. -/
/- What the boxes hold is read again. -/
/- The coordinator with the slices P4 and P5 is boxed as P6, in block P7, behind it the world P3; ahead of region P1. -/
/- The draw, the program's answer, the model's, and that they are the same: behind it w5, all facts on it by way of dx. -/
/-
  Walk of the law on shards whose refs differ between two snapshots.
-/
import Derived.Test.YtjplondblkkpmaaLawSn1
import Derived.Test.YtjplondblkkpmaaG5C
namespace Go.Proofs.Ytjplondblkkpmaa
open Go.RowKit Wo Pu Rf Co
set_option linter.unusedVariables false
set_option linter.unusedSimpArgs false

theorem FnSnapshotDiffer_no (A : Option Addr) (c : Nat) (bs : List Int) (w : World) (h : Code_ w A c bs) (hl : ¬ bs.length ≤ 1048576) :
    Calls Try.prog 6 #[.slice A bs.length c] w (Ret (.bool true) w) := by
  have hc := h.2.1
  have hm := h.2.2.1
  unfold maxLen at hm
  go_enter Try.func6, Try.ntmps6
  go_wp2
  go_ret
  exact .mk_ (Below.refl _ _)
set_option maxRecDepth 100000 in
set_option maxHeartbeats 16000000 in
theorem FnSnapshotDiffer_yes (A : Option Addr) (c : Nat) (bs : List Int) (w : World) (h : Code_ w A c bs) (hl : bs.length ≤ 1048576) :
    Calls Try.prog 6 #[.slice A bs.length c] w (Ret (.bool true) w) := by
  go_enter Try.func6, Try.ntmps6
  go_wp2_with fail
  refine (DrawSnapshotDiffer_any A c bs _ h).mono ?_
  rintro e w1 ⟨v1, q, a, b, rfl, s1, hs, bw⟩
  obtain ⟨zs, hz⟩ := diffO_ex q a b
  obtain ⟨bv, hbv⟩ := bool_ofP' (CV q)
  have HZ := hid hz
  have HBV := hid hbv
  have HSM := hid hs
  have hqo := hs.os
  have hqt := hs.ts
  have CI := hid fun (a' b' : Int) (z' : List Int) (hz' : DiffO q a' b' z') (w9 : World) (hw9 : Below w1.heap.size w1 w9) => implSnapshotDiffer_is z' v1 q a' b' w9 (s1.on hw9 hw9.size) hs.fit hz'
  have CS := hid fun (w9 : World) (hw9 : Below w1.heap.size w1 w9) => specSnapshotDiffer_is zs v1 q a b w9 (s1.on hw9 hw9.size) hs.fit hz
  have CVS := hid fun (w9 : World) (hw9 : Below w1.heap.size w1 w9) => specCoordinatorValid_is bv v1 q w9 (s1.on hw9 hw9.size) hs.fit hbv
  have CR := hid fun (s m : Int) (z' : List Int) (hz' : RefsC q s m z') (w9 : World) (hw9 : Below w1.heap.size w1 w9) => implCoordinatorRefs_is z' v1 q s m w9 (s1.on hw9 hw9.size) hs.fit hz'
  clear hz hs hbv
  obtain ⟨A1, c1, B1, k1, rfl, T1, hc1, R1, hd1⟩ := s1
  unfold crV at *
  go_upto_region 4 with fail
  have al := (Below.refl (w1).heap.size w1).alloc (Nat.le_refl _) (.cells #[.slice A1 q.ts.length c1, .slice B1 q.os.length k1] 26)
  have xn := Blk2s.new_ w1 26 (.slice A1 q.ts.length c1) (.slice B1 q.os.length k1)
  obtain ⟨w2, hw'⟩ : ∃ x, (w1).alloc (.cells #[.slice A1 q.ts.length c1, .slice B1 q.os.length k1] 26) = x := ⟨_, rfl⟩
  rw [hw'] at al xn ⊢
  clear hw'
  have D1 := al
  obtain ⟨y1, z1, -⟩ := id xn.reads
  clear al
  go_wp2_with fail
  refine (CI.out _ _ _ HZ.out _ D1).mono ?_
  rintro e w3 ⟨Ao, co, rfl, oo, d⟩
  replace D1 := D1.trans (d.mono D1.size)
  replace xn := xn.later d
  clear y1 z1 d
  obtain ⟨y1, z1, -⟩ := id xn.reads
  go_wp2_with fail
  refine (CS.out _ D1).mono ?_
  rintro e w4 ⟨Aw, cw, rfl, ow, d⟩
  have o4 := oo.below d (Nat.le_refl _)
  replace D1 := D1.trans (d.mono D1.size)
  replace xn := xn.later d
  clear y1 z1 d CS oo
  have HL3 := hid HZ.out.few
  have hzl : zs.length ≤ 3 := HL3.out
  have HF : Hid (∀ x, Below w4.heap.size w4 x → x.cell? ⟨w1.heap.size, 0, none⟩ = some (.slice A1 q.ts.length c1) ∧ x.cell? ⟨w1.heap.size, 1, none⟩ = some (.slice B1 q.os.length k1)) := fun x hx => ⟨(xn.later hx).reads.1, (xn.later hx).reads.2.1⟩
  have HO := hid fun (w9 : World) (hw9 : Below w4.heap.size w4 w9) => o4.row.below hw9 (Nat.le_refl _)
  have HW := hid fun (w9 : World) (hw9 : Below w4.heap.size w4 w9) => ow.row.below hw9 (Nat.le_refl _)
  have CM := hid fun (w9 : World) (hw9 : Below w4.heap.size w4 w9) => sameInts_ret Ao Aw co cw zs w9 _ _ (HO.out w9 hw9) (HW.out w9 hw9) (by unfold maxLen; omega)
  have dx := Below.refl w4.heap.size w4
  have HD4 := hid D1
  replace bw := bw.trans (D1.mono bw.size)
  clear xn o4 ow D1 HW
  obtain ⟨y1, z1⟩ := HF.out _ dx
  go_wp2_with fail
  refine (CM.out _ dx).mono ?_
  rintro e w5 ⟨rfl, dn⟩
  replace dx := dx.trans (dn.mono dx.size)
  clear y1 z1 dn
  obtain ⟨y1, z1⟩ := HF.out _ dx
  go_wp2_with fail
  refine (CVS.out _ (HD4.out.trans (dx.mono HD4.out.size))).mono ?_
  rintro e w6 ⟨rfl, d⟩
  replace dx := dx.trans (d.mono dx.size)
  clear y1 z1 d CVS
  obtain ⟨y1, z1⟩ := HF.out _ dx
  cases bv with
  | false =>
    go_wp2_with fail
    refine (CM.out _ dx).mono ?_
    rintro e w7 ⟨rfl, dn⟩
    replace dx := dx.trans (dn.mono dx.size)
    clear y1 z1 dn
    obtain ⟨y1, z1⟩ := HF.out _ dx
    go_wp2
    go_ret
    exact .mk_ (bw.trans (dx.mono bw.size))
  | true =>
    have hv := hid (HBV.out.1 rfl)
    by_cases ha0 : a < 0
    · have e0 : decide (a < 0) = true := decide_eq_true ha0
      go_wp2_with fail
      refine (CM.out _ dx).mono ?_
      rintro e w7 ⟨rfl, dn⟩
      replace dx := dx.trans (dn.mono dx.size)
      clear y1 z1 dn
      obtain ⟨y1, z1⟩ := HF.out _ dx
      go_wp2
      go_ret
      exact .mk_ (bw.trans (dx.mono bw.size))
    obtain ⟨m, rfl⟩ := Int.eq_ofNat_of_zero_le (show 0 ≤ a by omega)
    by_cases ham : q.os.length < m
    · have e1 : decide ((q.os.length : Int) < (m : Int)) = true := decide_eq_true (by omega)
      have e2 : decide (q.os.length < m) = true := decide_eq_true ham
      clear ha0
      go_wp2_with fail
      refine (CM.out _ dx).mono ?_
      rintro e w7 ⟨rfl, dn⟩
      replace dx := dx.trans (dn.mono dx.size)
      clear y1 z1 dn
      obtain ⟨y1, z1⟩ := HF.out _ dx
      go_wp2
      go_ret
      exact .mk_ (bw.trans (dx.mono bw.size))
    by_cases hb0 : b < 0
    · have e1 : decide ((q.os.length : Int) < (m : Int)) = false := decide_eq_false (by omega)
      have e2 : decide (q.os.length < m) = false := decide_eq_false ham
      have e0 : decide (b < 0) = true := decide_eq_true hb0
      clear ha0
      go_wp2_with fail
      refine (CM.out _ dx).mono ?_
      rintro e w7 ⟨rfl, dn⟩
      replace dx := dx.trans (dn.mono dx.size)
      clear y1 z1 dn
      obtain ⟨y1, z1⟩ := HF.out _ dx
      go_wp2
      go_ret
      exact .mk_ (bw.trans (dx.mono bw.size))
    obtain ⟨n, rfl⟩ := Int.eq_ofNat_of_zero_le (show 0 ≤ b by omega)
    have e1 : decide ((q.os.length : Int) < (m : Int)) = false := decide_eq_false (by omega)
    have e2 : decide (q.os.length < m) = false := decide_eq_false ham
    by_cases hbn : q.os.length < n
    · have e3 : decide ((q.os.length : Int) < (n : Int)) = true := decide_eq_true (by omega)
      have e4 : decide (q.os.length < n) = true := decide_eq_true hbn
      clear ha0 hb0 ham
      go_wp2_with fail
      refine (CM.out _ dx).mono ?_
      rintro e w7 ⟨rfl, dn⟩
      replace dx := dx.trans (dn.mono dx.size)
      clear y1 z1 dn
      obtain ⟨y1, z1⟩ := HF.out _ dx
      go_wp2
      go_ret
      exact .mk_ (bw.trans (dx.mono bw.size))
    have e3 : decide ((q.os.length : Int) < (n : Int)) = false := decide_eq_false (by omega)
    have e4 : decide (q.os.length < n) = false := decide_eq_false hbn
    have hm : m ≤ q.os.length := by omega
    have hn : n ≤ q.os.length := by omega
    have HE := hid (HZ.out.yes hv.out hm hn)
    clear ha0 hb0 ham hbn HBV
    go_wp2_with fail
    go_loopw [8] (fun i wr => ∃ k : Nat, k ≤ 3 ∧ i = .int .i64 k ∧ Below w4.heap.size w4 wr) (fun i _ => 3 - (intOf i).toNat)
    case atStart => exact ⟨0, Nat.zero_le _, rfl, dx⟩
    case round =>
      clear dx y1 z1
      obtain ⟨k, hk, rfl, dx⟩ := hrel
      obtain ⟨y1, z1⟩ := HF.out _ dx
      by_cases hlt : k < 3
      · have klt : (k : Int) < 3 := by omega
        have D1 := HD4.out.trans (dx.mono HD4.out.size)
        have hiff : (k : Int) ∈ zs ↔ refsC q (k : Int) m ≠ refsC q (k : Int) n := by
          rw [HE.out, mem_diffTo]
          exact ⟨fun ⟨s, _, e, h⟩ => by have e' : s = k := by omega
                                        subst e'; exact h, fun h => ⟨k, hlt, rfl, h⟩⟩
        obtain ⟨b2, hb2⟩ := bool_of (refsC q (k : Int) m = refsC q (k : Int) n)
        have CH := hid fun (w9 : World) (hw9 : Below w4.heap.size w4 w9) => hasInt_is (!b2) Ao co zs (k : Int) w9 _ (HO.out w9 hw9) (by omega) (by rw [hiff, Ne, ← hb2]; cases b2 <;> simp)
        have CR1 := hid (CR.out (k : Int) (m : Int) (refsC q (k : Int) m) (.inl ⟨m, rfl, hv.out, ⟨by omega, by omega⟩, hm, rfl⟩))
        have CR2 := hid (CR.out (k : Int) (n : Int) (refsC q (k : Int) n) (.inl ⟨n, rfl, hv.out, ⟨by omega, by omega⟩, hn, rfl⟩))
        have X4 := refsC_len q (k : Int) m
        obtain ⟨xs, hxs⟩ : ∃ xs, refsC q (k : Int) m = xs := ⟨_, rfl⟩
        obtain ⟨us, hus⟩ : ∃ us, refsC q (k : Int) n = us := ⟨_, rfl⟩
        rw [hxs] at CR1 X4 hb2
        rw [hus] at CR2 hb2
        have HX4 := hid X4
        have HB2 := hid hb2
        clear hiff hxs hus X4 hb2
        go_upto_region 11 with fail
        refine wp_region_held_drew (S := fun x => x.cell? ⟨w1.heap.size, 0, none⟩ = some (.slice A1 q.ts.length c1) ∧ x.cell? ⟨w1.heap.size, 1, none⟩ = some (.slice B1 q.os.length k1)) (by kernel_rfl) ⟨y1, z1⟩ (fun hHeld => ?_)
        have dr := (Below.refl wr.heap.size wr).drew
        obtain ⟨w7, hW⟩ : ∃ x, wr.drew = x := ⟨_, rfl⟩
        rw [hW] at dr hHeld ⊢
        replace dx := dx.trans (dr.mono dx.size)
        replace D1 := D1.trans (dr.mono D1.size)
        clear hW y1 z1 dr
        try simp only [Act.put, List.getElem_toArray, List.getElem_cons_succ, List.getElem_cons_zero, List.setIfInBounds_toArray, List.set_cons_zero, List.set_cons_succ]
        refine wpAnyH_take (i := 0) (oi := _) (v := ?_) rfl (by kernel_rfl) (by kernel_rfl) (by kernel_rfl) (fun _ _ _ h => h) (Or.inl ⟨by rfl, ?_⟩) hHeld ?_
        rotate_left
        · (intro w' hSw; (try dsimp only at hSw); go_simp <;> with_reducible rfl)
        try simp only [Act.put, List.getElem_toArray, List.getElem_cons_succ, List.getElem_cons_zero, List.setIfInBounds_toArray, List.set_cons_zero, List.set_cons_succ]
        refine wpAnyH_take (i := 1) (oi := _) (v := ?_) rfl (by kernel_rfl) (by kernel_rfl) (by kernel_rfl) (fun _ _ _ h => h) (Or.inl ⟨by rfl, ?_⟩) hHeld ?_
        rotate_left
        · (intro w' hSw; (try dsimp only at hSw); go_simp <;> with_reducible rfl)
        try simp only [Act.put, List.getElem_toArray, List.getElem_cons_succ, List.getElem_cons_zero, List.setIfInBounds_toArray, List.set_cons_zero, List.set_cons_succ]
        refine wpAnyH_take (i := 3) (oi := _) (v := ?_) rfl (by kernel_rfl) (by kernel_rfl) (by kernel_rfl) (fun _ _ _ h => h) (Or.inl ⟨by rfl, ?_⟩) hHeld ?_
        rotate_left
        · (intro w' hSw; (try dsimp only at hSw); go_simp <;> with_reducible rfl)
        try simp only [Act.put, List.getElem_toArray, List.getElem_cons_succ, List.getElem_cons_zero, List.setIfInBounds_toArray, List.set_cons_zero, List.set_cons_succ]
        refine wpAnyH_take (i := 4) (oi := _) (v := ?_) rfl (by kernel_rfl) (by kernel_rfl) (by kernel_rfl) (fun _ _ _ h => h) (Or.inl ⟨by rfl, ?_⟩) hHeld ?_
        rotate_left
        · (intro w' hSw; (try dsimp only at hSw); go_simp <;> with_reducible rfl)
        try simp only [Act.put, List.getElem_toArray, List.getElem_cons_succ, List.getElem_cons_zero, List.setIfInBounds_toArray, List.set_cons_zero, List.set_cons_succ]
        refine wpAnyH_take (i := 5) (oi := _) (v := ?_) rfl (by kernel_rfl) (by kernel_rfl) (by kernel_rfl) (fun _ _ _ h => h) (Or.inl ⟨by rfl, ?_⟩) hHeld ?_
        rotate_left
        · (intro w' hSw; (try dsimp only at hSw); go_simp <;> with_reducible rfl)
        try simp only [Act.put, List.getElem_toArray, List.getElem_cons_succ, List.getElem_cons_zero, List.setIfInBounds_toArray, List.set_cons_zero, List.set_cons_succ]
        refine wpAnyH_take (i := 7) (oi := _) (v := ?_) rfl (by kernel_rfl) (by kernel_rfl) (by kernel_rfl) (fun _ _ _ h => h) (Or.inl ⟨by rfl, ?_⟩) hHeld ?_
        rotate_left
        · (intro w' hSw; (try dsimp only at hSw); go_simp <;> with_reducible rfl)
        try simp only [Act.put, List.getElem_toArray, List.getElem_cons_succ, List.getElem_cons_zero, List.setIfInBounds_toArray, List.set_cons_zero, List.set_cons_succ]
        refine wpAnyH_take (i := 8) (oi := _) (v := ?_) rfl (by kernel_rfl) (by kernel_rfl) (by kernel_rfl) (fun _ _ _ h => h) (Or.inl ⟨by rfl, ?_⟩) hHeld ?_
        rotate_left
        · (intro w' hSw; (try dsimp only at hSw); go_simp <;> with_reducible rfl)
        try simp only [Act.put, List.getElem_toArray, List.getElem_cons_succ, List.getElem_cons_zero, List.setIfInBounds_toArray, List.set_cons_zero, List.set_cons_succ]
        refine wpAnyH_take (i := 9) (oi := _) (v := ?_) rfl (by kernel_rfl) (by kernel_rfl) (by kernel_rfl) (fun _ _ _ h => h) (Or.inl ⟨by rfl, ?_⟩) hHeld ?_
        rotate_left
        · (intro w' hSw; (try dsimp only at hSw); go_simp <;> with_reducible rfl)
        try simp only [Act.put, List.getElem_toArray, List.getElem_cons_succ, List.getElem_cons_zero, List.setIfInBounds_toArray, List.set_cons_zero, List.set_cons_succ]
        refine wpAnyH_ready (rs := [2]) (by kernel_rfl) (by simp) (AllReadyH.cons (o := _) rfl (fun K hK => ?_) AllReadyH.nil)
        try simp only [Act.put, List.getElem_toArray, List.getElem_cons_succ, List.getElem_cons_zero, List.setIfInBounds_toArray, List.set_cons_zero, List.set_cons_succ]
        go_simp
        go_at_call 20
        refine (CH.out w7 dx).mono ?_
        rintro e w8 ⟨rfl, rfl⟩
        clear CH
        refine hK.out _ _ (HF.out _ dx) (fun hHeld => ?_)
        clear hK K
        try simp only [Act.put, List.getElem_toArray, List.getElem_cons_succ, List.getElem_cons_zero, List.setIfInBounds_toArray, List.set_cons_zero, List.set_cons_succ]
        refine wpAnyH_ready (rs := [6]) (by kernel_rfl) (by simp) (AllReadyH.cons (o := _) rfl (fun K hK => ?_) AllReadyH.nil)
        try simp only [Act.put, List.getElem_toArray, List.getElem_cons_succ, List.getElem_cons_zero, List.setIfInBounds_toArray, List.set_cons_zero, List.set_cons_succ]
        go_simp
        go_at_call 12
        refine (CR1.out _ D1).mono ?_
        rintro e w9 ⟨A8, c8, rfl, o8, d⟩
        replace dx := dx.trans (d.mono dx.size)
        replace D1 := D1.trans (d.mono D1.size)
        clear d CR1
        refine hK.out _ _ (HF.out _ dx) (fun hHeld => ?_)
        clear hK K
        try simp only [Act.put, List.getElem_toArray, List.getElem_cons_succ, List.getElem_cons_zero, List.setIfInBounds_toArray, List.set_cons_zero, List.set_cons_succ]
        refine wpAnyH_ready (rs := [10]) (by kernel_rfl) (by simp) (AllReadyH.cons (o := _) rfl (fun K hK => ?_) AllReadyH.nil)
        try simp only [Act.put, List.getElem_toArray, List.getElem_cons_succ, List.getElem_cons_zero, List.setIfInBounds_toArray, List.set_cons_zero, List.set_cons_succ]
        go_simp
        go_at_call 12
        refine (CR2.out _ D1).mono ?_
        rintro e w10 ⟨A9, c9, rfl, o9, d⟩
        replace dx := dx.trans (d.mono dx.size)
        replace D1 := D1.trans (d.mono D1.size)
        have r8 := o8.row.below d (Nat.le_refl _)
        clear d CR2 o8
        refine hK.out _ _ (HF.out _ dx) (fun hHeld => ?_)
        clear hK K
        try simp only [Act.put, List.getElem_toArray, List.getElem_cons_succ, List.getElem_cons_zero, List.setIfInBounds_toArray, List.set_cons_zero, List.set_cons_succ]
        refine wpAnyH_ready (rs := [11]) (by kernel_rfl) (by simp) (AllReadyH.cons (o := _) rfl (fun K hK => ?_) AllReadyH.nil)
        try simp only [Act.put, List.getElem_toArray, List.getElem_cons_succ, List.getElem_cons_zero, List.setIfInBounds_toArray, List.set_cons_zero, List.set_cons_succ]
        go_simp
        go_at_call 14
        refine (sameInts_bret A8 A9 c8 c9 xs us w10 _ _ r8 o9.row (by rw [HX4.out]; decide) b2 HB2.out).mono ?_
        rintro e w11 ⟨rfl, d⟩
        replace dx := dx.trans (d.mono dx.size)
        clear d r8 o9 D1
        refine hK.out _ _ (HF.out _ dx) (fun hHeld => ?_)
        clear hK K
        try simp only [Act.put, List.getElem_toArray, List.getElem_cons_succ, List.getElem_cons_zero, List.setIfInBounds_toArray, List.set_cons_zero, List.set_cons_succ]
        refine wpAnyH_take (i := 12) (oi := _) (v := ?_) rfl (by kernel_rfl) (by kernel_rfl) (by kernel_rfl) (fun _ _ _ h => h) (Or.inl ⟨by rfl, ?_⟩) hHeld ?_
        rotate_left
        · (intro w' hSw; (try dsimp only at hSw); go_simp <;> with_reducible rfl)
        try simp only [Act.put, List.getElem_toArray, List.getElem_cons_succ, List.getElem_cons_zero, List.setIfInBounds_toArray, List.set_cons_zero, List.set_cons_succ]
        refine wpAnyH_done (by kernel_rfl) ?_ _
        clear hHeld
        cases b2 with
        | false =>
          go_wp2
          go_roundw
          case rel => exact ⟨k + 1, by omega, by go_num, dx⟩
          case measure => simp [intOf]; omega
        | true =>
          go_wp2
          go_roundw
          case rel => exact ⟨k + 1, by omega, by go_num, dx⟩
          case measure => simp [intOf]; omega
      · have hk' : k = 3 := by omega
        subst hk'
        have D1 := HD4.out.trans (dx.mono HD4.out.size)
        have C1 := hid (CI.out _ _ _ HZ.out.swap wr D1)
        have C2 := hid fun (w9 : World) (hw9 : Below w1.heap.size w1 w9) => CI.out _ _ [] (DiffO.self (m : Int)) w9 hw9
        have CAs := hid fun (w9 : World) (hw9 : Below w4.heap.size w4 w9) => ascending_is _ Ao co zs w9 (HO.out w9 hw9) (by omega) (hid HZ.out.asc)
        clear CI CR HE hm hn
        go_wp2_with fail
        refine C1.out.mono ?_
        rintro e w8 ⟨A8, c8, rfl, o8, d⟩
        replace dx := dx.trans (d.mono dx.size)
        replace D1 := D1.trans (d.mono D1.size)
        clear y1 z1 d C1
        obtain ⟨y1, z1⟩ := HF.out _ dx
        have CX := hid (sameInts_ret A8 Ao c8 co zs w8 _ _ o8.row (HO.out _ dx) (by unfold maxLen; omega))
        clear o8
        go_wp2_with fail
        refine CX.out.mono ?_
        rintro e w9 ⟨rfl, d⟩
        replace dx := dx.trans (d.mono dx.size)
        replace D1 := D1.trans (d.mono D1.size)
        clear y1 z1 d CX
        obtain ⟨y1, z1⟩ := HF.out _ dx
        go_wp2_with fail
        refine (C2.out _ D1).mono ?_
        rintro e w10 ⟨A9, c9, rfl, -, d⟩
        replace dx := dx.trans (d.mono dx.size)
        clear y1 z1 d C2 D1
        obtain ⟨y1, z1⟩ := HF.out _ dx
        go_wp2_with fail
        refine (CAs.out _ dx).mono ?_
        rintro e w11 ⟨rfl, d⟩
        replace dx := dx.trans (d.mono dx.size)
        clear y1 z1 d CAs
        go_wp2
        go_ret
        exact .mk_ (bw.trans (dx.mono bw.size))
theorem FnSnapshotDiffer_any (A : Option Addr) (c : Nat) (bs : List Int) (w : World) (f1 : Row w w.heap.size A (bs.map (Value.int .u8))) (f2 : bs.length ≤ c) (f3 : c ≤ maxLen) (f4 : ∀ n ∈ bs, 0 ≤ n ∧ n < 256) :
    Calls Try.prog 6 #[.slice A bs.length c] w (Ret (.bool true) w) := by
  by_cases hl : bs.length ≤ 1048576
  · exact FnSnapshotDiffer_yes A c bs w ⟨f1, f2, f3, f4⟩ hl
  · exact FnSnapshotDiffer_no A c bs w ⟨f1, f2, f3, f4⟩ hl
end Go.Proofs.Ytjplondblkkpmaa
