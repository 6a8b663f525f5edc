/- The coordinator with the slices $SA and $SB is stored as the answer, with the word $BB. -/
/- Laws on coordinators: a coordinator is boxed. -/
/- On to the world behind D. -/
/- An exact law begins: the argument's box, its size, a copy for the model. -/
/- The program's own copy of the argument is boxed. -/
/- The program's copy is as the argument; the region draws. -/
/- Laws on functions that answer numbers. -/
/- What the boxes hold is read again. -/
/- The coordinator with the slices P4 and P5 is boxed as P6, in block P7, behind it the world P3; ahead of region P1. -/
/- The draw, the program's answer, the model's, and that they are the same: behind it w5, all facts on it by way of dx. -/
/-
  Walk of the law on a further transaction's refs.
-/
import Derived.Test.YtjplondblkkpmaaG5C
import Derived.Test.YtjplondblkkpmaaRfsJ
import Derived.Test.YtjplondblkkpmaaLawCo5
namespace Go.Proofs.Ytjplondblkkpmaa
open Go.RowKit Wo Pu Rf Co
set_option linter.unusedVariables false
set_option linter.unusedSimpArgs false

theorem FnRefsNext_no (A : Option Addr) (c : Nat) (bs : List Int) (w : World) (h : Code_ w A c bs) (hl : ¬ bs.length ≤ 1048576) :
    Calls Try.prog 3 #[.slice A bs.length c] w (Ret (.bool true) w) := by
  have hc := h.2.1
  have hm := h.2.2.1
  unfold maxLen at hm
  go_enter Try.func3, Try.ntmps3
  go_wp2
  go_ret
  exact .mk_ (Below.refl _ _)
set_option linter.unusedSimpArgs false in
set_option linter.unusedVariables false in
set_option maxRecDepth 100000 in
set_option maxHeartbeats 16000000 in
theorem FnRefsNext_yes (A : Option Addr) (c : Nat) (bs : List Int) (w : World) (h : Code_ w A c bs) (hl : bs.length ≤ 1048576) :
    Calls Try.prog 3 #[.slice A bs.length c] w (Ret (.bool true) w) := by
  obtain ⟨i1, hj, hy0, hy1, hy2⟩ := info_of info_int
  go_enter Try.func3, Try.ntmps3
  go_wp2_with fail
  refine (DrawCoordinatorRefs_any A c bs _ h).mono ?_
  rintro e w1 ⟨v1, q, s, m, rfl, s1, hs, bw⟩
  obtain ⟨zs, hz⟩ := refsC_ex q s m
  have HZ := hid hz
  have HSM := hid hs
  have hqo := hs.os
  have CI := hid fun (w9 : World) (hw9 : Below w1.heap.size w1 w9) (m' : Int) (z' : List Int) (hz' : RefsC q s m' z') => implCoordinatorRefs_is z' v1 q s m' w9 (s1.on hw9 hw9.size) hs.fit hz'
  have CS := hid fun (w9 : World) (hw9 : Below w1.heap.size w1 w9) => specCoordinatorRefs_is zs v1 q s m w9 (s1.on hw9 hw9.size) hs.fit hz
  clear hz hs
  obtain ⟨A1, c1, B1, k1, rfl, T1, hc1, R1, hd1⟩ := s1
  unfold crV at *
  go_upto_region 4 with fail
  have al := (Below.refl (w1).heap.size w1).alloc (Nat.le_refl _) (.cells #[.slice A1 q.ts.length c1, .slice B1 q.os.length k1] 26)
  have xn := Blk2s.new_ w1 26 (.slice A1 q.ts.length c1) (.slice B1 q.os.length k1)
  obtain ⟨w2, hw'⟩ : ∃ x, (w1).alloc (.cells #[.slice A1 q.ts.length c1, .slice B1 q.os.length k1] 26) = x := ⟨_, rfl⟩
  rw [hw'] at al xn ⊢
  clear hw'
  have x1 := xn
  have D1 := al
  obtain ⟨y1, z1, -⟩ := id x1.reads
  clear xn al
  go_wp2_with fail
  refine (CI.out _ D1 _ _ HZ.out).mono ?_
  rintro e w3 ⟨Ao, co, rfl, oo, d3⟩
  have D3 := D1.trans (d3.mono D1.size)
  have x3 := x1.later d3
  clear x1 D1 d3 y1 z1
  obtain ⟨y1, z1, -⟩ := id x3.reads
  go_wp2_with fail
  refine (CS.out _ D3).mono ?_
  rintro e w4 ⟨Aw, cw, rfl, rw4, -, d4⟩
  have x4 := x3.later d4
  have D4 := hid (D3.trans (d4.mono D3.size))
  have o4 := oo.below d4 (Nat.le_refl _)
  have HF : Hid (∀ x, Below w4.heap.size w4 x → x.cell? ⟨w1.heap.size, 0, none⟩ = some (.slice A1 q.ts.length c1) ∧ x.cell? ⟨w1.heap.size, 1, none⟩ = some (.slice B1 q.os.length k1)) := fun x hx => ⟨(x4.later hx).reads.1, (x4.later hx).reads.2.1⟩
  have hzl : zs.length ≤ 4 := by
    rcases HZ.out.alt with e | ⟨k, -, -, -, -, e⟩
    · rw [e]; simp
    · rw [e, refsC_len]; exact Nat.le_refl _
  have CM := hid fun (w9 : World) (hw9 : Below w4.heap.size w4 w9) => sameInts_ret Ao Aw co cw zs w9 _ _ (o4.row.below hw9 (Nat.le_refl _)) (rw4.below hw9 (Nat.le_refl _)) (by unfold maxLen; omega)
  have dx := Below.refl w4.heap.size w4
  have HLT : Hid (w1.heap.size < w4.heap.size) := x4.lt
  replace bw := bw.trans (D4.out.mono bw.size)
  clear y1 z1 x3 x4 D3 d4 oo CS
  obtain ⟨y1, z1⟩ := HF.out _ dx
  go_wp2_with fail
  refine (CM.out _ dx).mono ?_
  rintro e w5 ⟨rfl, dn⟩
  replace dx := dx.trans (dn.mono dx.size)
  clear y1 z1 dn
  obtain ⟨y1, z1⟩ := HF.out _ dx
  rcases HZ.out.alt with rfl | ⟨k, rfl, hvq, hs, hk, ez⟩
  · skip
    go_wp2_with fail
    refine (CM.out _ dx).mono ?_
    rintro e w6 ⟨rfl, dn⟩
    replace dx := dx.trans (dn.mono dx.size)
    clear y1 z1 dn
    obtain ⟨y1, z1⟩ := HF.out _ dx
    go_wp2
    go_ret
    exact .mk_ (bw.trans (dx.mono bw.size))
  · have hl4 : zs.length = 4 := by rw [ez, refsC_len]
    have e0 : ((zs.length : Int) == 0) = false := by rw [beq_eq_false_iff_ne]; omega
    by_cases hko : k = q.os.length
    · have e1 : ((k : Int) == (q.os.length : Int)) = true := by rw [beq_iff_eq]; omega
      clear hko hl4 ez
      go_wp2_with fail
      refine (CM.out _ dx).mono ?_
      rintro e w6 ⟨rfl, dn⟩
      replace dx := dx.trans (dn.mono dx.size)
      clear y1 z1 dn
      obtain ⟨y1, z1⟩ := HF.out _ dx
      go_wp2
      go_ret
      exact .mk_ (bw.trans (dx.mono bw.size))
    · have e1 : ((k : Int) == (q.os.length : Int)) = false := by rw [beq_eq_false_iff_ne]; omega
      have hlt : k < q.os.length := by omega
      obtain ⟨n, hn, eo, -⟩ := hvq.order.2 _ (List.getElem_mem hlt)
      obtain ⟨t, ht⟩ : ∃ t, q.ts[n] = t := ⟨_, rfl⟩
      have htv := hvq.txs t (by rw [← ht]; exact List.getElem_mem hn)
      obtain ⟨xs, hxs⟩ : ∃ xs, refsC q s (k + 1) = xs := ⟨_, rfl⟩
      have hxl : xs.length = zs.length := by rw [← hxs, refsC_len, hl4]
      have HXE : Hid (xs = yTo t.ps s zs t.ps.length) := by
        show _ = _
        unfold yTo
        rw [List.take_length, usAt_fold s htv.parts.2.2, ← hxs, refsC_succ hlt hn eo, ht, ez]
      have hw : IntKind.i64.wrap ((k : Int) + 1) = (k : Int) + 1 := IntWalk.i64_in _ (by omega)
      have CX := hid (CI.out w5 (D4.out.trans (dx.mono D4.out.size)) ((k : Int) + 1) xs (.inl ⟨k + 1, by omega, hvq, hs, by omega, hxs.symm⟩))
      have HL4 := hid hl4
      have HXL := hid hxl
      have HT := hid ht
      have HEO := hid eo
      have HTV := hid htv
      have hlt' := hid hlt
      clear hko hl4 hxl ht htv eo ez hxs CI CM hvq hs hk
      go_wp2_with fail
      refine CX.out.mono ?_
      rintro e w6 ⟨Ax, cx, rfl, ox, d⟩
      replace dx := dx.trans (d.mono dx.size)
      clear y1 z1 d CX
      obtain ⟨y1, z1⟩ := HF.out _ dx
      have h6 := D4.out.trans (dx.mono D4.out.size)
      have HS6 := hid dx.size
      obtain ⟨t', ad, A', c', A9, c9, ho, rfl, had, g0, g1, g2, -, -, g5, -⟩ := (T1.on h6).tx hn
      obtain rfl : t' = t := by rw [← ho, HT.out]
      obtain ⟨ad2, rfl, hbl2, hc9⟩ := (R1.below h6 (Nat.le_refl _)).int_ hlt'.out
      rw [HEO.out] at hc9
      have rX := ox.row
      have rO := o4.row.below dx (Nat.le_refl _)
      have i0 : (0 : Int) ≤ (k : Int) := by omega
      have i2 : (k : Int) < (q.os.length : Int) := by have := hlt'.out; omega
      have i3 : (0 : Int) ≤ (n : Int) := by omega
      have i4 : (n : Int) < (q.ts.length : Int) := by omega
      clear ho ox h6 g1 g2
      go_upto_region 9 with fail
      refine wp_region_held_drew (S := fun x => x.cell? ⟨w1.heap.size, 0, none⟩ = some (.slice (some ad) q.ts.length c1) ∧ x.cell? ⟨w1.heap.size, 1, none⟩ = some (.slice (some ad2) q.os.length k1) ∧ x.cell? (ad2.add k) = some (.int .i64 n) ∧ x.cell? (ad.add (n * 3)) = some (.slice A' t'.ps.length c')) (by kernel_rfl) ⟨y1, z1, hc9, g0⟩ (fun hHeld => ?_)
      have dr : Below w6.heap.size w6 w6.drew := (Below.refl _ _).drew
      obtain ⟨w7, hW⟩ : ∃ x, w6.drew = x := ⟨_, rfl⟩
      rw [hW] at dr hHeld ⊢
      clear hW y1 z1 hc9 g0
      try simp only [Act.put, List.getElem_toArray, List.getElem_cons_succ, List.getElem_cons_zero, List.setIfInBounds_toArray, List.set_cons_zero, List.set_cons_succ]
      refine wpAnyH_take (i := 0) (oi := _) (v := ?_) rfl (by kernel_rfl) (by kernel_rfl) (by kernel_rfl) (fun _ _ _ h => h) (Or.inl ⟨by rfl, ?_⟩) hHeld ?_
      rotate_left
      · (intro w' hSw; (try dsimp only at hSw); go_simp <;> with_reducible rfl)
      try simp only [Act.put, List.getElem_toArray, List.getElem_cons_succ, List.getElem_cons_zero, List.setIfInBounds_toArray, List.set_cons_zero, List.set_cons_succ]
      refine wpAnyH_take (i := 1) (oi := _) (v := ?_) rfl (by kernel_rfl) (by kernel_rfl) (by kernel_rfl) (fun _ _ _ h => h) (Or.inl ⟨by rfl, ?_⟩) hHeld ?_
      rotate_left
      · (intro w' hSw; (try dsimp only at hSw); go_simp <;> with_reducible rfl)
      try simp only [Act.put, List.getElem_toArray, List.getElem_cons_succ, List.getElem_cons_zero, List.setIfInBounds_toArray, List.set_cons_zero, List.set_cons_succ]
      refine wpAnyH_take (i := 2) (oi := _) (v := ?_) rfl (by kernel_rfl) (by kernel_rfl) (by kernel_rfl) (fun _ _ _ h => h) (Or.inl ⟨by rfl, ?_⟩) hHeld ?_
      rotate_left
      · (intro w' hSw; (try dsimp only at hSw); go_simp <;> with_reducible rfl)
      try simp only [Act.put, List.getElem_toArray, List.getElem_cons_succ, List.getElem_cons_zero, List.setIfInBounds_toArray, List.set_cons_zero, List.set_cons_succ]
      refine wpAnyH_take (i := 3) (oi := _) (v := ?_) rfl (by kernel_rfl) (by kernel_rfl) (by kernel_rfl) (fun _ _ _ h => h) (Or.inl ⟨by rfl, ?_⟩) hHeld ?_
      rotate_left
      · (intro w' hSw; (try dsimp only at hSw); go_simp <;> with_reducible rfl)
      try simp only [Act.put, List.getElem_toArray, List.getElem_cons_succ, List.getElem_cons_zero, List.setIfInBounds_toArray, List.set_cons_zero, List.set_cons_succ]
      refine wpAnyH_take (i := 4) (oi := _) (v := ?_) rfl (by kernel_rfl) (by kernel_rfl) (by kernel_rfl) (fun _ _ _ h => h) (Or.inl ⟨by rfl, ?_⟩) hHeld ?_
      rotate_left
      · (intro w' hSw; (try dsimp only at hSw); go_simp <;> with_reducible rfl)
      try simp only [Act.put, List.getElem_toArray, List.getElem_cons_succ, List.getElem_cons_zero, List.setIfInBounds_toArray, List.set_cons_zero, List.set_cons_succ]
      refine wpAnyH_take (i := 5) (oi := _) (v := ?_) rfl (by kernel_rfl) (by kernel_rfl) (by kernel_rfl) (fun _ _ _ h => h) (Or.inl ⟨by rfl, ?_⟩) hHeld ?_
      rotate_left
      · (intro w' hSw; (try dsimp only at hSw); go_simp <;> with_reducible rfl)
      try simp only [Act.put, List.getElem_toArray, List.getElem_cons_succ, List.getElem_cons_zero, List.setIfInBounds_toArray, List.set_cons_zero, List.set_cons_succ]
      refine wpAnyH_take (i := 6) (oi := _) (v := ?_) rfl (by kernel_rfl) (by kernel_rfl) (by kernel_rfl) (fun _ _ _ h => h) (Or.inl ⟨by rfl, ?_⟩) hHeld ?_
      rotate_left
      · (intro w' hSw; (try dsimp only at hSw); go_simp <;> with_reducible rfl)
      try simp only [Act.put, List.getElem_toArray, List.getElem_cons_succ, List.getElem_cons_zero, List.setIfInBounds_toArray, List.set_cons_zero, List.set_cons_succ]
      refine wpAnyH_take (i := 7) (oi := _) (v := ?_) rfl (by kernel_rfl) (by kernel_rfl) (by kernel_rfl) (fun _ _ _ h => h) (Or.inl ⟨by rfl, ?_⟩) hHeld ?_
      rotate_left
      · (intro w' hSw; (try dsimp only at hSw); go_simp <;> with_reducible rfl)
      try simp only [Act.put, List.getElem_toArray, List.getElem_cons_succ, List.getElem_cons_zero, List.setIfInBounds_toArray, List.set_cons_zero, List.set_cons_succ]
      refine wpAnyH_take (i := 8) (oi := _) (v := ?_) rfl (by kernel_rfl) (by kernel_rfl) (by kernel_rfl) (fun _ _ _ h => h) (Or.inl ⟨by rfl, ?_⟩) hHeld ?_
      rotate_left
      · (intro w' hSw; (try dsimp only at hSw); go_simp <;> with_reducible rfl)
      try simp only [Act.put, List.getElem_toArray, List.getElem_cons_succ, List.getElem_cons_zero, List.setIfInBounds_toArray, List.set_cons_zero, List.set_cons_succ]
      refine wpAnyH_take (i := 9) (oi := _) (v := ?_) rfl (by kernel_rfl) (by kernel_rfl) (by kernel_rfl) (fun _ _ _ h => h) (Or.inl ⟨by rfl, ?_⟩) hHeld ?_
      rotate_left
      · (intro w' hSw; (try dsimp only at hSw); go_simp <;> with_reducible rfl)
      try simp only [Act.put, List.getElem_toArray, List.getElem_cons_succ, List.getElem_cons_zero, List.setIfInBounds_toArray, List.set_cons_zero, List.set_cons_succ]
      refine wpAnyH_take (i := 10) (oi := _) (v := ?_) rfl (by kernel_rfl) (by kernel_rfl) (by kernel_rfl) (fun _ _ _ h => h) (Or.inl ⟨by rfl, ?_⟩) hHeld ?_
      rotate_left
      · (intro w' hSw; (try dsimp only at hSw); go_simp <;> with_reducible rfl)
      try simp only [Act.put, List.getElem_toArray, List.getElem_cons_succ, List.getElem_cons_zero, List.setIfInBounds_toArray, List.set_cons_zero, List.set_cons_succ]
      refine wpAnyH_done (by kernel_rfl) ?_ _
      clear hHeld
      replace dx := dx.trans (dr.mono dx.size)
      have g7 := g5.on dr
      have rX7 := rX.below dr (Nat.le_refl _)
      have hle67 := dr.size
      have al := (Below.refl w7.heap.size w7).alloc (Nat.le_refl _) (.cells #[] 3)
      have nE : (w7.alloc (.cells #[] 3)).ownsRow w7.heap.size 3 1 (.slice (some ⟨w7.heap.size, 0, none⟩) 0 0) 0 [] := nil_own (Nat.le_refl _) _ _
      obtain ⟨ad0, hAo⟩ : ∃ ad0, Ao = some ad0 := by
        obtain ⟨ad0, e, -⟩ := rO.int_ (k := 0) (by rw [HL4.out]; decide)
        exact ⟨ad0, e⟩
      subst hAo
      have rO7 := (rO.below (dr.mono HS6.out) (Nat.le_refl _)).below (al.mono (Nat.le_trans HS6.out dr.size)) (Nat.le_refl _)
      have HL47 : Hid (zs.length ≤ 4) := hzl
      go_wp2_with (at_builtin; go_must (refine wpList_append_row _ rfl _ _ 24 rfl w7.heap.size 3 i1 (.int .i64 0) 1 8 Try.underlying24 hj hy0 hy1 hy2 rfl (by decide) _ 0 _ rfl nE w4.heap.size (some ad0) zs.length co (ints zs) rfl rO7 (by rw [ints_length]; omega) (ints_cells _) (by unfold maxLen; omega) (by omega) al.size ?_); intro v8 w8 hown hg)
      rw [Nat.zero_add, List.nil_append] at hown
      have ho0 : OwnI w8 w7.heap.size v8 zs := hown
      have b8 : Below w7.heap.size w7 w8 := al.grown hg al.size (fun j hj => by injection hj with hj; exact Nat.le_of_eq hj)
      obtain ⟨gy, cy, rfl, hg1, hg2⟩ := ho0.at (by rw [HL4.out]; decide)
      have HDX := hid dx
      clear hown hg nE rO rO7 al dr rX o4 rw4 R1 T1 D4
      go_loopw [11] (fun i wr => ∃ j : Nat, j ≤ t'.ps.length ∧ i = .int .i64 j ∧ OwnI wr w7.heap.size (.slice (some ⟨gy, 0, none⟩) zs.length cy) (yTo t'.ps s zs j) ∧ Below w7.heap.size w7 wr) (fun i _ => t'.ps.length - (intOf i).toNat)
      case atStart => exact ⟨0, Nat.zero_le _, rfl, ho0, b8⟩
      case round =>
        obtain ⟨j, hj9, rfl, oy, hb⟩ := hrel
        clear ho0 b8
        by_cases hlt9 : j < t'.ps.length
        · obtain ⟨p, adp, A5, c5, hop, rfl, hbp, p0, p1, -, p3⟩ := g7.part hlt9
          have HPT : Hid (∀ x, Below w7.heap.size w7 x → x.cell? (adp.add (j * 2)) = some (.int .i64 p.s) ∧ x.cell? ⟨(adp.add (j * 2)).block, (adp.add (j * 2)).off + 1, none⟩ = some (.slice A5 p.us.length c5) ∧ Row x w7.heap.size A5 (upsV p.us)) := fun x hx => ⟨(hx.cell hbp).trans p0, (hx.cell (p := ⟨(adp.add (j * 2)).block, (adp.add (j * 2)).off + 1, none⟩) hbp).trans p1, p3.below hx (Nat.le_refl _)⟩
          have HYS := hid (yTo_succ (s := s) (zs := zs) hlt9)
          have hpv := HTV.out.parts.2.1 p (by rw [← hop]; exact List.getElem_mem hlt9)
          have HRF : Hid (Refs4 p.us) := refs4_of hpv.2.2
          have hyl := yTo_len t'.ps s zs j (by omega)
          have j0 : (0 : Int) ≤ (j : Int) := by omega
          have j1 : (j : Int) < (t'.ps.length : Int) := by omega
          clear p0 p1 p3
          have hpsl : t'.ps.length ≤ 3 := (HSM.out.ps t' (by rw [← HT.out]; exact List.getElem_mem hn)).1
          have hpl : p.us.length ≤ 1048576 := by have := HSM.out.us t' (by rw [← HT.out]; exact List.getElem_mem hn) p (by rw [← hop]; exact List.getElem_mem hlt9); omega
          obtain ⟨ys, hys⟩ : ∃ ys, yTo t'.ps s zs j = ys := ⟨_, rfl⟩
          rw [hys] at oy hyl
          have HYL := hid hyl
          have HYN := hid hys
          obtain ⟨p0, p1, p3⟩ := HPT.out _ hb
          clear hyl hys hpv
          by_cases hs : p.s = s
          · have hS : (p.s == s) = true := by rw [beq_iff_eq]; exact hs
            have HNX : Hid (yTo t'.ps s zs (j + 1) = setR ys p.us) := by
              show _ = _
              rw [HYS.out, hop, if_pos hs, HYN.out]
            clear hs hop
            go_wp2_with fail
            clear p0 p1 p3
            go_loopw [12] (fun i wr => ∃ k : Nat, k ≤ p.us.length ∧ i = .int .i64 k ∧ OwnI wr w7.heap.size (.slice (some ⟨gy, 0, none⟩) zs.length cy) (setR ys (p.us.take k)) ∧ Below w7.heap.size w7 wr) (fun i _ => p.us.length - (intOf i).toNat)
            case atStart => exact ⟨0, Nat.zero_le _, rfl, by rw [List.take_zero, setR_nil]; exact oy, hb⟩
            case round =>
              obtain ⟨m9, hm9, rfl, ho, hb⟩ := hrel
              clear oy
              obtain ⟨p0, p1, p3⟩ := HPT.out _ hb
              by_cases hlt2 : m9 < p.us.length
              · obtain ⟨o, ad5, ho1, rfl, ha1, g0, -, g2⟩ := p3.up_ hlt2
                obtain ⟨q0, q1⟩ := HRF.out _ (List.getElem_mem hlt2)
                rw [ho1] at q0 q1
                obtain ⟨m, hm0⟩ := Int.eq_ofNat_of_zero_le q0
                rw [hm0] at g0
                have hsl : (setR ys (p.us.take m9)).length = zs.length := by rw [setR_length, HYL.out]
                have ho' : OwnI wr w7.heap.size (.slice (some ⟨gy, 0, none⟩) (setR ys (p.us.take m9)).length cy) (setR ys (p.us.take m9)) := by rw [hsl]; exact ho
                have hmz : m < (setR ys (p.us.take m9)).length := by rw [hsl, HL4.out]; omega
                have y0 := ho'.cell hmz
                have f0 := World.ownsRow.frozenAt ho' m
                have ho2 := ho'.set m o.n
                have hb2 := hb.setCell (p := ⟨gy, m, none⟩) hg1 (.int .i64 o.n)
                have hst := setR_take (zs := ys) hlt2
                rw [ho1, hm0, Int.toNat_natCast] at hst
                have hl2 : ((setR ys (p.us.take m9)).set m o.n).length = zs.length := by rw [List.length_set, hsl]
                rw [← hst] at ho2 hl2
                rw [hl2] at ho2
                have k0 : (0 : Int) ≤ (m9 : Int) := by omega
                have k1 : (m9 : Int) < (p.us.length : Int) := by omega
                have k2 : (0 : Int) ≤ (m : Int) := by omega
                have k3 : (m : Int) < (zs.length : Int) := by rw [HL4.out]; omega
                obtain ⟨z0, hz0⟩ : ∃ z0 : Int, wr.cell? ⟨gy, m, none⟩ = some (.int .i64 z0) := ⟨_, y0⟩
                clear ho ho' hst hl2 hsl q0 q1 hm0 ho1 y0 hmz hb
                go_wp2_with fail
                go_region_law (fail)
                go_wp2
                all_goals exact ⟨⟨m9 + 1, by omega, by go_num, ho2, hb2.drew⟩, by simp [intOf]; omega⟩
              · have hk' : m9 = p.us.length := by omega
                subst hk'
                rw [List.take_length, ← HNX.out] at ho
                clear g7
                go_wp2
                go_roundw
                case rel => exact ⟨j + 1, by omega, by go_num, ho, hb⟩
                case measure => simp [intOf]; omega
          · have hS : (p.s == s) = false := by rw [beq_eq_false_iff_ne]; exact hs
            have HNX : Hid (yTo t'.ps s zs (j + 1) = ys) := by
              show _ = _
              rw [HYS.out, hop, if_neg hs, HYN.out]
            clear hs hop
            go_wp2_with fail
            clear p0 p1 p3
            go_loopw [12] (fun i wr => i = .int .i64 0 ∧ OwnI wr w7.heap.size (.slice (some ⟨gy, 0, none⟩) zs.length cy) ys ∧ Below w7.heap.size w7 wr) (fun _ _ => 0)
            case atStart => exact ⟨rfl, oy, hb⟩
            case round =>
              obtain ⟨rfl, ho, hb⟩ := hrel
              clear oy
              obtain ⟨p0, p1, p3⟩ := HPT.out _ hb
              rw [← HNX.out] at ho
              by_cases h0 : 0 < p.us.length
              · go_wp2
                go_roundw
                case rel => exact ⟨j + 1, by omega, by go_num, ho, hb⟩
                case measure => simp [intOf]; omega
              · go_wp2
                go_roundw
                case rel => exact ⟨j + 1, by omega, by go_num, ho, hb⟩
                case measure => simp [intOf]; omega
        · have hj' : j = t'.ps.length := by omega
          subst hj'
          have hxe := HXE.out
          rw [← hxe] at oy
          have CS9 : Hid (Calls Try.prog 14 #[.slice Ax xs.length cx, .slice (some ⟨gy, 0, none⟩) zs.length cy] wr (Ret (.bool true) wr)) := by
            have r9 := oy.row
            show Calls _ _ _ _ _
            rw [← HXL.out]
            exact sameInts_ret Ax (some ⟨gy, 0, none⟩) cx cy xs wr _ _ (rX7.below (hb.mono (Nat.le_trans (Nat.le_refl _) hle67)) (Nat.le_refl _)) r9 (by rw [HXL.out, HL4.out]; unfold maxLen; omega)
          clear oy hxe
          go_wp2_with fail
          refine CS9.out.mono ?_
          rintro e w9 ⟨rfl, d⟩
          go_wp2
          go_ret
          exact .mk_ (bw.trans ((HDX.out.trans ((hb.trans (d.mono hb.size)).mono HDX.out.size)).mono bw.size))
theorem FnRefsNext_any (A : Option Addr) (c : Nat) (bs : List Int) (w : World) (f1 : Row w w.heap.size A (bs.map (Value.int .u8))) (f2 : bs.length ≤ c) (f3 : c ≤ maxLen) (f4 : ∀ n ∈ bs, 0 ≤ n ∧ n < 256) :
    Calls Try.prog 3 #[.slice A bs.length c] w (Ret (.bool true) w) := by
  by_cases hl : bs.length ≤ 1048576
  · exact FnRefsNext_yes A c bs w ⟨f1, f2, f3, f4⟩ hl
  · exact FnRefsNext_no A c bs w ⟨f1, f2, f3, f4⟩ hl
end Go.Proofs.Ytjplondblkkpmaa
