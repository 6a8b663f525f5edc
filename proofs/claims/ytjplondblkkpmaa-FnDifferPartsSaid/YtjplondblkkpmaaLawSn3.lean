/- The coordinator with the slices $SA and $SB is stored as the answer, with the word $BB. -/
/- Laws on coordinators: a coordinator is boxed. -/
/- On to the world behind D. -/
/- An exact law begins: the argument's box, its size, a copy for the model. -/
/- The program's own copy of the argument is boxed. -/
/- The program's copy is as the argument; the region draws. -/
/- Laws on functions that answer numbers. -/
/- What the boxes hold is read again. -/
/- The coordinator with the slices P4 and P5 is boxed as P6, in block P7, behind it the world P3; ahead of region P1. -/
/- The draw, the program's answer, the model's, and that they are the same: behind it w5, all facts on it by way of dx. -/
/-
  Walk of the law on the shards that a further transaction changes.
-/
import Derived.Test.YtjplondblkkpmaaLawSn2
namespace Go.Proofs.Ytjplondblkkpmaa
open Go.RowKit Wo Pu Rf Co
set_option linter.unusedVariables false
set_option linter.unusedSimpArgs false

/-- None of the first i parts is for the shard x. -/
def NoPt (ps : List Part) (x : Int) (i : Nat) : Prop := ∀ j (h : j < ps.length), j < i → ps[j].s ≠ x
theorem NoPt.zero (ps : List Part) (x : Int) : NoPt ps x 0 := fun _ _ h => absurd h (Nat.not_lt_zero _)
theorem NoPt.next {ps : List Part} {x : Int} {i : Nat} (h : NoPt ps x i) (hi : i < ps.length) (hn : ps[i].s ≠ x) : NoPt ps x (i + 1) := fun j hj hl => by
  by_cases e : j = i
  · subst e; exact hn
  · exact h j hj (by omega)
theorem FnDifferParts_no (A : Option Addr) (c : Nat) (bs : List Int) (w : World) (h : Code_ w A c bs) (hl : ¬ bs.length ≤ 1048576) :
    Calls Try.prog 7 #[.slice A bs.length c] w (Ret (.bool true) w) := by
  have hc := h.2.1
  have hm := h.2.2.1
  unfold maxLen at hm
  go_enter Try.func7, Try.ntmps7
  go_wp2
  go_ret
  exact .mk_ (Below.refl _ _)
set_option maxRecDepth 100000 in
set_option maxHeartbeats 16000000 in
theorem FnDifferParts_yes (A : Option Addr) (c : Nat) (bs : List Int) (w : World) (h : Code_ w A c bs) (hl : bs.length ≤ 1048576) :
    Calls Try.prog 7 #[.slice A bs.length c] w (Ret (.bool true) w) := by
  go_enter Try.func7, Try.ntmps7
  go_wp2_with fail
  refine (DrawSnapshotDiffer_any A c bs _ h).mono ?_
  rintro e w1 ⟨v1, q, a, b, rfl, s1, hs, bw⟩
  obtain ⟨zs, hz⟩ := diffO_ex q a b
  obtain ⟨bv, hbv⟩ := bool_ofP' (CV q)
  have HZ := hid hz
  have HBV := hid hbv
  have HSM := hid hs
  have hqo := hs.os
  have hqt := hs.ts
  have CI := hid fun (a' b' : Int) (z' : List Int) (hz' : DiffO q a' b' z') (w9 : World) (hw9 : Below w1.heap.size w1 w9) => implSnapshotDiffer_is z' v1 q a' b' w9 (s1.on hw9 hw9.size) hs.fit hz'
  have CS := hid fun (w9 : World) (hw9 : Below w1.heap.size w1 w9) => specSnapshotDiffer_is zs v1 q a b w9 (s1.on hw9 hw9.size) hs.fit hz
  have CVS := hid fun (w9 : World) (hw9 : Below w1.heap.size w1 w9) => specCoordinatorValid_is bv v1 q w9 (s1.on hw9 hw9.size) hs.fit hbv
  have CR := hid fun (s m : Int) (z' : List Int) (hz' : RefsC q s m z') (w9 : World) (hw9 : Below w1.heap.size w1 w9) => implCoordinatorRefs_is z' v1 q s m w9 (s1.on hw9 hw9.size) hs.fit hz'
  clear hz hs hbv
  obtain ⟨A1, c1, B1, k1, rfl, T1, hc1, R1, hd1⟩ := s1
  unfold crV at *
  go_upto_region 4 with fail
  have al := (Below.refl (w1).heap.size w1).alloc (Nat.le_refl _) (.cells #[.slice A1 q.ts.length c1, .slice B1 q.os.length k1] 26)
  have xn := Blk2s.new_ w1 26 (.slice A1 q.ts.length c1) (.slice B1 q.os.length k1)
  obtain ⟨w2, hw'⟩ : ∃ x, (w1).alloc (.cells #[.slice A1 q.ts.length c1, .slice B1 q.os.length k1] 26) = x := ⟨_, rfl⟩
  rw [hw'] at al xn ⊢
  clear hw'
  have D1 := al
  obtain ⟨y1, z1, -⟩ := id xn.reads
  clear al
  go_wp2_with fail
  refine (CI.out _ _ _ HZ.out _ D1).mono ?_
  rintro e w3 ⟨Ao, co, rfl, oo, d⟩
  replace D1 := D1.trans (d.mono D1.size)
  replace xn := xn.later d
  clear y1 z1 d
  obtain ⟨y1, z1, -⟩ := id xn.reads
  go_wp2_with fail
  refine (CS.out _ D1).mono ?_
  rintro e w4 ⟨Aw, cw, rfl, ow, d⟩
  have o4 := oo.below d (Nat.le_refl _)
  replace D1 := D1.trans (d.mono D1.size)
  replace xn := xn.later d
  clear y1 z1 d CS oo
  have HL3 := hid HZ.out.few
  have hzl : zs.length ≤ 3 := HL3.out
  have HF : Hid (∀ x, Below w4.heap.size w4 x → x.cell? ⟨w1.heap.size, 0, none⟩ = some (.slice A1 q.ts.length c1) ∧ x.cell? ⟨w1.heap.size, 1, none⟩ = some (.slice B1 q.os.length k1)) := fun x hx => ⟨(xn.later hx).reads.1, (xn.later hx).reads.2.1⟩
  have HO := hid fun (w9 : World) (hw9 : Below w4.heap.size w4 w9) => o4.row.below hw9 (Nat.le_refl _)
  have HW := hid fun (w9 : World) (hw9 : Below w4.heap.size w4 w9) => ow.row.below hw9 (Nat.le_refl _)
  have CM := hid fun (w9 : World) (hw9 : Below w4.heap.size w4 w9) => sameInts_ret Ao Aw co cw zs w9 _ _ (HO.out w9 hw9) (HW.out w9 hw9) (by unfold maxLen; omega)
  have dx := Below.refl w4.heap.size w4
  have HD4 := hid D1
  replace bw := bw.trans (D1.mono bw.size)
  clear xn o4 ow D1 HW
  obtain ⟨y1, z1⟩ := HF.out _ dx
  go_wp2_with fail
  refine (CM.out _ dx).mono ?_
  rintro e w5 ⟨rfl, dn⟩
  replace dx := dx.trans (dn.mono dx.size)
  clear y1 z1 dn
  obtain ⟨y1, z1⟩ := HF.out _ dx
  go_wp2_with fail
  refine (CVS.out _ (HD4.out.trans (dx.mono HD4.out.size))).mono ?_
  rintro e w6 ⟨rfl, d⟩
  replace dx := dx.trans (d.mono dx.size)
  clear y1 z1 d CVS
  obtain ⟨y1, z1⟩ := HF.out _ dx
  cases bv with
  | false =>
    go_wp2_with fail
    refine (CM.out _ dx).mono ?_
    rintro e w7 ⟨rfl, dn⟩
    replace dx := dx.trans (dn.mono dx.size)
    clear y1 z1 dn
    obtain ⟨y1, z1⟩ := HF.out _ dx
    go_wp2
    go_ret
    exact .mk_ (bw.trans (dx.mono bw.size))
  | true =>
    have hv := hid (HBV.out.1 rfl)
    obtain ⟨a1, ha1⟩ : ∃ x, IntKind.i64.wrap (a + 1) = x := ⟨_, rfl⟩
    by_cases hba : b = a1
    · have e0 : (b != a1) = false := by rw [bne_eq_false_iff_eq]; exact hba
      by_cases ha0 : a < 0
      · have e1 : decide (a < 0) = true := decide_eq_true ha0
        clear hba
        go_wp2_with fail
        refine (CM.out _ dx).mono ?_
        rintro e w7 ⟨rfl, dn⟩
        replace dx := dx.trans (dn.mono dx.size)
        clear y1 z1 dn
        obtain ⟨y1, z1⟩ := HF.out _ dx
        go_wp2
        go_ret
        exact .mk_ (bw.trans (dx.mono bw.size))
      have e1 : decide (a < 0) = false := decide_eq_false ha0
      rcases HZ.out with ⟨m, n, hma, hnb, -, hm, hn, ez⟩ | ⟨-, rfl⟩
      · obtain rfl : n = m + 1 := by
          have : a1 = (m : Int) + 1 := by rw [← ha1, hma]; exact IntWalk.i64_in _ (by omega)
          omega
        have HMA := hid hma
        have HE := hid ez
        have hml : m < q.os.length := by omega
        obtain ⟨n, hnn, eo, -⟩ := hv.out.order.2 _ (List.getElem_mem hml)
        have HEO := hid eo
        have i2 : (0 : Int) ≤ (m : Int) := by omega
        have i3 : (m : Int) < (q.os.length : Int) := by omega
        have i4 : (0 : Int) ≤ (n : Int) := by omega
        have i5 : (n : Int) < (q.ts.length : Int) := by omega
        clear HBV ez eo CI CR hba hma hnb
        go_wp2_with fail
        go_loopw [8] (fun i wr => ∃ k : Nat, k ≤ zs.length ∧ i = .int .i64 k ∧ Below w4.heap.size w4 wr) (fun i _ => zs.length - (intOf i).toNat)
        case atStart => exact ⟨0, Nat.zero_le _, rfl, dx⟩
        case round =>
          clear dx y1 z1
          obtain ⟨k, hk, rfl, dx⟩ := hrel
          obtain ⟨y1, z1⟩ := HF.out _ dx
          by_cases hlt : k < zs.length
          · have k0 : (0 : Int) ≤ (k : Int) := by omega
            have klt : (k : Int) < (zs.length : Int) := by omega
            have D1 := HD4.out.trans (dx.mono HD4.out.size)
            have hma := HMA.out
            subst hma
            obtain ⟨x, hx⟩ : ∃ x, zs[k] = x := ⟨_, rfl⟩
            have hxm : x ∈ zs := by rw [← hx]; exact List.getElem_mem hlt
            rw [HE.out] at hxm
            obtain ⟨t, ad, A', c', A9, c9, ho, rfl, had, g0, g1, g2, -, -, g5, -⟩ := (T1.on D1).tx hnn
            obtain ⟨j0, hj0, ej0⟩ := diff_part hml hnn HEO.out hxm
            have HJ : Hid (¬ NoPt q.ts[n].ps x q.ts[n].ps.length) := fun hno => hno j0 hj0 hj0 ej0
            rw [ho] at HJ
            have hpl := (HSM.out.fit.ps t (by rw [← ho]; exact List.getElem_mem hnn)).1
            obtain ⟨ad2, rfl, hbl2, hc9⟩ := (R1.below D1 (Nat.le_refl _)).int_ hml
            rw [HEO.out] at hc9
            clear ej0 hxm ho g1 g2
            go_upto_region 12 with fail
            refine wp_region_held_drew (S := fun y => y.cell? ⟨w1.heap.size, 0, none⟩ = some (.slice (some ad) q.ts.length c1) ∧ y.cell? ⟨w1.heap.size, 1, none⟩ = some (.slice (some ad2) q.os.length k1) ∧ y.cell? (ad2.add m) = some (.int .i64 n) ∧ y.cell? (ad.add (n * 3)) = some (.slice A' t.ps.length c')) (by kernel_rfl) ⟨y1, z1, hc9, g0⟩ (fun hHeld => ?_)
            have dr := (Below.refl wr.heap.size wr).drew
            obtain ⟨w7, hW⟩ : ∃ x, wr.drew = x := ⟨_, rfl⟩
            rw [hW] at dr hHeld ⊢
            replace dx := dx.trans (dr.mono dx.size)
            replace g5 := g5.on dr
            clear hW y1 z1 hc9 g0 dr D1
            try simp only [Act.put, List.getElem_toArray, List.getElem_cons_succ, List.getElem_cons_zero, List.setIfInBounds_toArray, List.set_cons_zero, List.set_cons_succ]
            refine wpAnyH_take (i := 0) (oi := _) (v := ?_) rfl (by kernel_rfl) (by kernel_rfl) (by kernel_rfl) (fun _ _ _ h => h) (Or.inl ⟨by rfl, ?_⟩) hHeld ?_
            rotate_left
            · (intro w' hSw; (try dsimp only at hSw); go_simp <;> with_reducible rfl)
            try simp only [Act.put, List.getElem_toArray, List.getElem_cons_succ, List.getElem_cons_zero, List.setIfInBounds_toArray, List.set_cons_zero, List.set_cons_succ]
            refine wpAnyH_take (i := 1) (oi := _) (v := ?_) rfl (by kernel_rfl) (by kernel_rfl) (by kernel_rfl) (fun _ _ _ h => h) (Or.inl ⟨by rfl, ?_⟩) hHeld ?_
            rotate_left
            · (intro w' hSw; (try dsimp only at hSw); go_simp <;> with_reducible rfl)
            try simp only [Act.put, List.getElem_toArray, List.getElem_cons_succ, List.getElem_cons_zero, List.setIfInBounds_toArray, List.set_cons_zero, List.set_cons_succ]
            refine wpAnyH_take (i := 2) (oi := _) (v := ?_) rfl (by kernel_rfl) (by kernel_rfl) (by kernel_rfl) (fun _ _ _ h => h) (Or.inl ⟨by rfl, ?_⟩) hHeld ?_
            rotate_left
            · (intro w' hSw; (try dsimp only at hSw); go_simp <;> with_reducible rfl)
            try simp only [Act.put, List.getElem_toArray, List.getElem_cons_succ, List.getElem_cons_zero, List.setIfInBounds_toArray, List.set_cons_zero, List.set_cons_succ]
            refine wpAnyH_take (i := 3) (oi := _) (v := ?_) rfl (by kernel_rfl) (by kernel_rfl) (by kernel_rfl) (fun _ _ _ h => h) (Or.inl ⟨by rfl, ?_⟩) hHeld ?_
            rotate_left
            · (intro w' hSw; (try dsimp only at hSw); go_simp <;> with_reducible rfl)
            try simp only [Act.put, List.getElem_toArray, List.getElem_cons_succ, List.getElem_cons_zero, List.setIfInBounds_toArray, List.set_cons_zero, List.set_cons_succ]
            refine wpAnyH_take (i := 4) (oi := _) (v := ?_) rfl (by kernel_rfl) (by kernel_rfl) (by kernel_rfl) (fun _ _ _ h => h) (Or.inl ⟨by rfl, ?_⟩) hHeld ?_
            rotate_left
            · (intro w' hSw; (try dsimp only at hSw); go_simp <;> with_reducible rfl)
            try simp only [Act.put, List.getElem_toArray, List.getElem_cons_succ, List.getElem_cons_zero, List.setIfInBounds_toArray, List.set_cons_zero, List.set_cons_succ]
            refine wpAnyH_take (i := 5) (oi := _) (v := ?_) rfl (by kernel_rfl) (by kernel_rfl) (by kernel_rfl) (fun _ _ _ h => h) (Or.inl ⟨by rfl, ?_⟩) hHeld ?_
            rotate_left
            · (intro w' hSw; (try dsimp only at hSw); go_simp <;> with_reducible rfl)
            try simp only [Act.put, List.getElem_toArray, List.getElem_cons_succ, List.getElem_cons_zero, List.setIfInBounds_toArray, List.set_cons_zero, List.set_cons_succ]
            refine wpAnyH_take (i := 6) (oi := _) (v := ?_) rfl (by kernel_rfl) (by kernel_rfl) (by kernel_rfl) (fun _ _ _ h => h) (Or.inl ⟨by rfl, ?_⟩) hHeld ?_
            rotate_left
            · (intro w' hSw; (try dsimp only at hSw); go_simp <;> with_reducible rfl)
            try simp only [Act.put, List.getElem_toArray, List.getElem_cons_succ, List.getElem_cons_zero, List.setIfInBounds_toArray, List.set_cons_zero, List.set_cons_succ]
            refine wpAnyH_take (i := 7) (oi := _) (v := ?_) rfl (by kernel_rfl) (by kernel_rfl) (by kernel_rfl) (fun _ _ _ h => h) (Or.inl ⟨by rfl, ?_⟩) hHeld ?_
            rotate_left
            · (intro w' hSw; (try dsimp only at hSw); go_simp <;> with_reducible rfl)
            try simp only [Act.put, List.getElem_toArray, List.getElem_cons_succ, List.getElem_cons_zero, List.setIfInBounds_toArray, List.set_cons_zero, List.set_cons_succ]
            refine wpAnyH_take (i := 8) (oi := _) (v := ?_) rfl (by kernel_rfl) (by kernel_rfl) (by kernel_rfl) (fun _ _ _ h => h) (Or.inl ⟨by rfl, ?_⟩) hHeld ?_
            rotate_left
            · (intro w' hSw; (try dsimp only at hSw); go_simp <;> with_reducible rfl)
            try simp only [Act.put, List.getElem_toArray, List.getElem_cons_succ, List.getElem_cons_zero, List.setIfInBounds_toArray, List.set_cons_zero, List.set_cons_succ]
            refine wpAnyH_take (i := 9) (oi := _) (v := ?_) rfl (by kernel_rfl) (by kernel_rfl) (by kernel_rfl) (fun _ _ _ h => h) (Or.inl ⟨by rfl, ?_⟩) hHeld ?_
            rotate_left
            · (intro w' hSw; (try dsimp only at hSw); go_simp <;> with_reducible rfl)
            try simp only [Act.put, List.getElem_toArray, List.getElem_cons_succ, List.getElem_cons_zero, List.setIfInBounds_toArray, List.set_cons_zero, List.set_cons_succ]
            refine wpAnyH_take (i := 10) (oi := _) (v := ?_) rfl (by kernel_rfl) (by kernel_rfl) (by kernel_rfl) (fun _ _ _ h => h) (Or.inl ⟨by rfl, ?_⟩) hHeld ?_
            rotate_left
            · (intro w' hSw; (try dsimp only at hSw); go_simp <;> with_reducible rfl)
            try simp only [Act.put, List.getElem_toArray, List.getElem_cons_succ, List.getElem_cons_zero, List.setIfInBounds_toArray, List.set_cons_zero, List.set_cons_succ]
            refine wpAnyH_done (by kernel_rfl) ?_ _
            clear hHeld
            go_wp2_with fail
            go_loopw [9, 11] (fun f i w8 => ∃ (fb : Bool) (j : Nat), j ≤ t.ps.length ∧ f = .bool fb ∧ i = .int .i64 j ∧ Hid (fb = false → NoPt t.ps x j) ∧ Below w7.heap.size w7 w8) (fun _ i _ => t.ps.length - (intOf i).toNat)
            case atStart => exact ⟨false, 0, Nat.zero_le _, rfl, rfl, fun _ => .zero _ _, Below.refl _ _⟩
            case round =>
              obtain ⟨fb, j, hj, rfl, rfl, HN, dy⟩ := hrel
              by_cases hlj : j < t.ps.length
              · obtain ⟨p, adp, A5, c5, hop, rfl, hbp, p0, -, -, -⟩ := (g5.on dy).part hlj
                obtain ⟨ad3, rfl, -, hc3⟩ := (HO.out _ (dx.trans (dy.mono dx.size))).int_ hlt
                rw [hx] at hc3
                have j0 : (0 : Int) ≤ (j : Int) := by omega
                have j1 : (j : Int) < (t.ps.length : Int) := by omega
                cases fb with
                | true =>
                  go_wp2
                  go_quiet (fail)
                  go_wp2
                  go_roundw
                  case rel => exact ⟨true, j + 1, by omega, rfl, by go_num, fun h => (by cases h), Wo.Below.drewN dy _⟩
                  case measure => simp [intOf]; omega
                | false =>
                  by_cases hps : p.s = x
                  · have e3 : (p.s == x) = true := beq_iff_eq.2 hps
                    clear hps hop
                    go_wp2
                    go_quiet (fail)
                    go_wp2
                    go_roundw
                    case rel => exact ⟨true, j + 1, by omega, rfl, by go_num, fun h => (by cases h), Wo.Below.drewN dy _⟩
                    case measure => simp [intOf]; omega
                  · have e3 : (p.s == x) = false := beq_eq_false_iff_ne.2 hps
                    have HN2 : Hid (false = false → NoPt t.ps x (j + 1)) := fun _ => (HN.out rfl).next hlj (by rw [hop]; exact hps)
                    clear hps hop
                    go_wp2
                    go_quiet (fail)
                    go_wp2
                    go_roundw
                    case rel => exact ⟨false, j + 1, by omega, rfl, by go_num, fun _ => HN2.out (by trivial), Wo.Below.drewN dy _⟩
                    case measure => simp [intOf]; omega
              · have hj' : j = t.ps.length := by omega
                subst hj'
                cases fb with
                | false => exact absurd (HN.out rfl) HJ.out
                | true =>
                  replace dx := dx.trans (dy.mono dx.size)
                  go_wp2
                  go_roundw
                  case rel => exact ⟨k + 1, by omega, by go_num, dx⟩
                  case measure => simp [intOf]; omega
          · have hk' : k = zs.length := by omega
            subst hk'
            go_wp2
            go_ret
            exact .mk_ (bw.trans (dx.mono bw.size))
      · clear hba ha0
        go_wp2_with fail
        go_loopw [8] (fun i wr => i = .int .i64 0 ∧ Below w4.heap.size w4 wr) (fun _ _ => 0)
        case atStart => exact ⟨rfl, dx⟩
        case round =>
          clear dx y1 z1
          obtain ⟨rfl, dx⟩ := hrel
          obtain ⟨y1, z1⟩ := HF.out _ dx
          go_wp2
          go_ret
          exact .mk_ (bw.trans (dx.mono bw.size))
    · have e0 : (b != a1) = true := by rw [bne_iff_ne]; exact hba
      clear hba
      go_wp2_with fail
      refine (CM.out _ dx).mono ?_
      rintro e w7 ⟨rfl, dn⟩
      replace dx := dx.trans (dn.mono dx.size)
      clear y1 z1 dn
      obtain ⟨y1, z1⟩ := HF.out _ dx
      go_wp2
      go_ret
      exact .mk_ (bw.trans (dx.mono bw.size))
theorem FnDifferParts_any (A : Option Addr) (c : Nat) (bs : List Int) (w : World) (f1 : Row w w.heap.size A (bs.map (Value.int .u8))) (f2 : bs.length ≤ c) (f3 : c ≤ maxLen) (f4 : ∀ n ∈ bs, 0 ≤ n ∧ n < 256) :
    Calls Try.prog 7 #[.slice A bs.length c] w (Ret (.bool true) w) := by
  by_cases hl : bs.length ≤ 1048576
  · exact FnDifferParts_yes A c bs w ⟨f1, f2, f3, f4⟩ hl
  · exact FnDifferParts_no A c bs w ⟨f1, f2, f3, f4⟩ hl
end Go.Proofs.Ytjplondblkkpmaa
