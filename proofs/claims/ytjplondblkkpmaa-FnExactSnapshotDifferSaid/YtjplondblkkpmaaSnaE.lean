/- The coordinator with the slices $SA and $SB is stored as the answer, with the word $BB. -/
/- Laws on coordinators: a coordinator is boxed. -/
/- On to the world behind D. -/
/- An exact law begins: the argument's box, its size, a copy for the model. -/
/- The program's own copy of the argument is boxed. -/
/- The program's copy is as the argument; the region draws. -/
/- Laws on functions that answer numbers. -/
/- What the boxes hold is read again. -/
/- The coordinator with the slices P4 and P5 is boxed as P6, in block P7, behind it the world P3; ahead of region P1. -/
/- The draw, the program's answer, the model's, and that they are the same: behind it w5, all facts on it by way of dx. -/
/-
  Walks: the shards whose refs differ between two snapshots, on both sides.
-/
import Derived.Test.YtjplondblkkpmaaSnaD
import Derived.Test.YtjplondblkkpmaaSnaF
import Derived.Test.YtjplondblkkpmaaG2C
namespace Go.Proofs.Ytjplondblkkpmaa
open Go.RowKit Wo Pu Rf Co
set_option linter.unusedVariables false
set_option linter.unusedSimpArgs false

/- Nothing differs: an argument is invalid. -/
set_option maxRecDepth 100000 in
set_option maxHeartbeats 8000000 in
theorem implSnapshotDiffer_is (zs : List Int) (v : Value) (q : Crd) (a b : Int) (w : World) (h : Crdd w w.heap.size v q) (hf : FitC q) (hz : DiffO q a b zs) :
    Calls Try.prog 22 #[v, .int .i64 a, .int .i64 b] w (IntsOf zs w) := by
  obtain ⟨bv, hbv⟩ := bool_ofP' (CV q)
  obtain ⟨ba, hba⟩ := bool_ofP' (0 ≤ a ∧ a ≤ (q.os.length : Int))
  obtain ⟨bb, hbb⟩ := bool_ofP' (0 ≤ b ∧ b ≤ (q.os.length : Int))
  have HZ := hid hz
  have HBV := hid hbv
  have HBA := hid hba
  have HBB := hid hbb
  have CVal : Hid (∀ y, Below w.heap.size w y → Calls Try.prog 35 #[v] y (Ret (.bool bv) y)) := fun y hy => implCoordinatorValid_is bv v q y (h.on hy hy.size) hf hbv
  have HH := hid (fun (y : World) (hy : Below w.heap.size w y) => h.on hy hy.size)
  have HF := hid hf
  clear hz hbv
  obtain ⟨A, c, A2, c2, rfl, -, hc, -, hc2⟩ := h
  unfold crV at *
  have CS : Hid (∀ y (m n : Nat), Below w.heap.size w y → CV q → m ≤ q.os.length → n ≤ q.os.length → Calls Try.prog 47 #[.func (.func 48) #[.agg #[.slice A q.ts.length c, .slice A2 q.os.length c2, .int .i64 (m : Int), .int .i64 (n : Int)]] #[]] y (IntsOf (diffTo q m n 3) y)) := fun y m n hy hv hm hn => shardsWhere_is A c A2 c2 q m n y (HH.out y hy) HF.out hv hm hn
  have C2 : Hid (∀ y, Calls Try.prog 37 #[.agg #[.slice A q.ts.length c, .slice A2 q.os.length c2], .int .i64 a] y (Ret (.bool ba) y)) := fun y => ordered_is ba _ _ _ _ _ _ a y hba
  have C3 : Hid (∀ y, Calls Try.prog 37 #[.agg #[.slice A q.ts.length c, .slice A2 q.os.length c2], .int .i64 b] y (Ret (.bool bb) y)) := fun y => ordered_is bb _ _ _ _ _ _ b y hbb
  clear hf hba hbb HH HF
  have b1 := (Below.refl w.heap.size w).alloc (Nat.le_refl _) (.cells #[.slice A q.ts.length c, .slice A2 q.os.length c2] 26)
  have x0 := Blk2s.new_ w 26 (.slice A q.ts.length c) (.slice A2 q.os.length c2)
  go_enter Try.func22, Try.ntmps22
  go_upto_region 1 with fail
  obtain ⟨w1, hw1⟩ : ∃ x, w.alloc (.cells #[.slice A q.ts.length c, .slice A2 q.os.length c2] 26) = x := ⟨_, rfl⟩
  rw [hw1] at b1 x0 ⊢
  clear hw1
  obtain ⟨y0, y1, -⟩ := id x0.reads
  go_wp2_with fail
  refine (CVal.out _ b1).mono ?_
  rintro e w2 ⟨rfl, d⟩
  replace b1 := b1.trans (d.mono b1.size)
  replace x0 := x0.later d
  clear y0 y1 d CVal
  obtain ⟨y0, y1, -⟩ := id x0.reads
  cases bv with
  | false =>
    have HNo : Hid (¬ (CV q ∧ (0 ≤ a ∧ a ≤ (q.os.length : Int)) ∧ (0 ≤ b ∧ b ≤ (q.os.length : Int)))) := fun e => by have := HBV.out.2 e.1; cases this
    clear C2 C3 CS HBV HBA HBB
    have ez : zs = [] := HZ.out.no HNo.out
    subst ez
    have o9 := OwnI.nil_new (w := w2) (B := w.heap.size) b1.size
    have b9 := b1.alloc b1.size (.cells #[] 3)
    go_wp2
    go_ret
    exact .mk_ o9 b9
  | true =>
    have HVq := hid (HBV.out.1 rfl)
    go_wp2_with fail
    refine (C2.out _).mono ?_
    rintro e w2 ⟨rfl, d⟩
    replace b1 := b1.trans (d.mono b1.size)
    replace x0 := x0.later d
    clear y0 y1 d C2
    obtain ⟨y0, y1, -⟩ := id x0.reads
    cases ba with
    | false =>
      have HNo : Hid (¬ (CV q ∧ (0 ≤ a ∧ a ≤ (q.os.length : Int)) ∧ (0 ≤ b ∧ b ≤ (q.os.length : Int)))) := fun e => by have := HBA.out.2 e.2.1; cases this
      clear C3 CS HBV HBA HBB
      have ez : zs = [] := HZ.out.no HNo.out
      subst ez
      have o9 := OwnI.nil_new (w := w2) (B := w.heap.size) b1.size
      have b9 := b1.alloc b1.size (.cells #[] 3)
      go_wp2
      go_ret
      exact .mk_ o9 b9
    | true =>
      have hga := hid (HBA.out.1 rfl)
      go_wp2_with fail
      refine (C3.out _).mono ?_
      rintro e w2 ⟨rfl, d⟩
      replace b1 := b1.trans (d.mono b1.size)
      replace x0 := x0.later d
      clear y0 y1 d C3
      obtain ⟨y0, y1, -⟩ := id x0.reads
      cases bb with
      | false =>
        have HNo : Hid (¬ (CV q ∧ (0 ≤ a ∧ a ≤ (q.os.length : Int)) ∧ (0 ≤ b ∧ b ≤ (q.os.length : Int)))) := fun e => by have := HBB.out.2 e.2.2; cases this
        clear CS HBV HBA HBB
        have ez : zs = [] := HZ.out.no HNo.out
        subst ez
        have o9 := OwnI.nil_new (w := w2) (B := w.heap.size) b1.size
        have b9 := b1.alloc b1.size (.cells #[] 3)
        go_wp2
        go_ret
        exact .mk_ o9 b9
      | true =>
        have ha := hga.out
        have hb := HBB.out.1 rfl
        obtain ⟨m, rfl⟩ := Int.eq_ofNat_of_zero_le ha.1
        obtain ⟨n, rfl⟩ := Int.eq_ofNat_of_zero_le hb.1
        have hm : m ≤ q.os.length := by omega
        have hn : n ≤ q.os.length := by omega
        have ez : zs = diffTo q m n 3 := HZ.out.yes HVq.out hm hn
        have CX := hid (CS.out w2 m n b1 HVq.out hm hn)
        rw [← ez] at CX
        clear CS HBV HBA HBB HZ ez ha hb hm hn
        go_wp2_with fail
        refine CX.out.mono ?_
        rintro e w5 ⟨Aw, cw, rfl, ow, d⟩
        have o9 := rowB_base ow b1.size
        have b9 := b1.trans (d.mono b1.size)
        clear ow d CX x0 y0 y1
        go_wp2
        go_ret
        exact .mk_ o9 b9
theorem dif_none {xs ys : List Int} (h : xs.length = ys.length) : dif xs ys = [] ↔ xs = ys :=
  ⟨fun e => difL_none xs ys 0 h e, fun e => by subst e; exact difL_same xs 0⟩
set_option maxRecDepth 100000 in
set_option maxHeartbeats 16000000 in
theorem specSnapshotDiffer_is (zs : List Int) (v : Value) (q : Crd) (a b : Int) (w : World) (h : Crdd w w.heap.size v q) (hf : FitC q) (hz : DiffO q a b zs) :
    Calls Try.prog 23 #[v, .int .i64 a, .int .i64 b] w (IntsOf zs w) := by
  obtain ⟨i1, hj, hy0, hy1, hy2⟩ := info_of info_int
  obtain ⟨bv, hbv⟩ := bool_ofP' (CV q)
  obtain ⟨ba, hba⟩ := bool_of (0 ≤ a ∧ a ≤ (q.os.length : Int))
  obtain ⟨bb, hbb⟩ := bool_of (0 ≤ b ∧ b ≤ (q.os.length : Int))
  have CVal : Hid (∀ y, Below w.heap.size w y → Calls Try.prog 19 #[v] y (Ret (.bool bv) y)) := fun y hy => specCoordinatorValid_is bv v q y (h.on hy hy.size) hf hbv
  have C2 : Hid (∀ y, Calls Try.prog 40 #[.int .i64 a, .int .i64 0, .int .i64 (q.os.length : Int)] y (Same (.bool ba) y)) := fun y => l6In_is ba _ _ _ y hba
  have C3 : Hid (∀ y, Calls Try.prog 40 #[.int .i64 b, .int .i64 0, .int .i64 (q.os.length : Int)] y (Same (.bool bb) y)) := fun y => l6In_is bb _ _ _ y hbb
  have CR : Hid (∀ y (s : Nat) (k : Nat), Below w.heap.size w y → CV q → k ≤ q.os.length → Calls Try.prog 41 #[v, .int .i64 (s : Int), .int .i64 (k : Int)] y (ReadI (refsC q s k) y)) := fun y s k hy hv hk => l22Refs_any v q s k y (h.on hy hy.size) hf hv hk
  have hf2 := hf.os
  have HZ := hid hz
  have HBV := hid hbv
  have HBA := hid hba
  have HBB := hid hbb
  clear hz hbv hba hbb
  obtain ⟨A, c, A2, c2, rfl, -, hc, -, hc2⟩ := h
  unfold crV at *
  clear hf
  have b1 := ((Below.refl w.heap.size w).alloc (Nat.le_refl _) (.cells #[.slice A q.ts.length c, .slice A2 q.os.length c2] 26)).alloc (by simp) (.cells #[] 3)
  have x0 := (Blk2s.new_ w 26 (.slice A q.ts.length c) (.slice A2 q.os.length c2)).alloc (.cells #[] 3)
  have o1 := OwnI.nil_new (w := w.alloc (.cells #[.slice A q.ts.length c, .slice A2 q.os.length c2] 26)) (B := w.heap.size) (by simp)
  rw [World.size_alloc] at o1
  go_enter Try.func23, Try.ntmps23
  go_upto_region 2 with fail
  obtain ⟨w1, hw1⟩ : ∃ x, (w.alloc (.cells #[.slice A q.ts.length c, .slice A2 q.os.length c2] 26)).alloc (.cells #[] 3) = x := ⟨_, rfl⟩
  rw [hw1] at b1 x0 o1 ⊢
  clear hw1
  by_cases hall : bv = true ∧ ba = true ∧ bb = true
  · obtain ⟨rfl, rfl, rfl⟩ := hall
    have HVq := hid (HBV.out.1 rfl)
    have ha := HBA.out.1 rfl
    have hb := HBB.out.1 rfl
    obtain ⟨m, rfl⟩ := Int.eq_ofNat_of_zero_le ha.1
    obtain ⟨n, rfl⟩ := Int.eq_ofNat_of_zero_le hb.1
    have hm : m ≤ q.os.length := by omega
    have hn : n ≤ q.os.length := by omega
    have HE := hid (HZ.out.yes HVq.out hm hn)
    clear HBV HBA HBB HZ ha hb
    go_wp2_with fail
    go_loopw [7, 8] (fun o i wr => ∃ (k : Nat) (ys : List Int) (Ao : Option Addr) (co : Nat), k ≤ 3 ∧ i = .int .i64 k ∧ o = .slice Ao ys.length co ∧ Hid (ys = diffTo q m n k) ∧ OwnI wr w.heap.size (.slice Ao ys.length co) ys ∧ Blk2s wr w.heap.size 26 (.slice A q.ts.length c) (.slice A2 q.os.length c2) ∧ Below w.heap.size w wr) (fun _ i _ => 3 - (intOf i).toNat)
    case atStart => exact ⟨0, [], _, _, Nat.zero_le _, rfl, rfl, rfl, o1, x0, b1⟩
    case round =>
      clear o1 x0 b1
      obtain ⟨k, ys, Ao, co, hk, rfl, rfl, HY, oy, x0, hb⟩ := hrel
      have hz := hb.size
      obtain ⟨y0, y1, -⟩ := id x0.reads
      by_cases hlt : k < 3
      · have k1 : (k : Int) < 3 := by omega
        have hyl : ys.length ≤ 3 := by rw [HY.out]; exact Nat.le_trans (diffTo_len q m n k) hk
        have CX := hid (CVal.out wr hb)
        go_wp2_with fail
        refine CX.out.mono ?_
        rintro e w5 ⟨rfl, d⟩
        replace hb := hb.trans (d.mono hz)
        replace x0 := x0.later d
        have o5 : OwnI w5 w.heap.size (.slice Ao ys.length co) ys := oy.below d (Nat.le_refl _)
        clear oy d CX y0 y1 hz
        obtain ⟨y0, y1, -⟩ := id x0.reads
        go_wp2_with fail
        refine (C2.out _).mono ?_
        rintro e w6 ⟨rfl, rfl⟩
        go_wp2_with fail
        refine (C3.out _).mono ?_
        rintro e w6 ⟨rfl, rfl⟩
        have HX4 := hid (refsC_len q (k : Int) m)
        have HY4 := hid (refsC_len q (k : Int) n)
        have HRV : Hid (RV (refsC q (k : Int) m) ∧ RV (refsC q (k : Int) n)) := ⟨refsC_RV HVq.out _ m hm, refsC_RV HVq.out _ n hn⟩
        have D1 := hid fun (y : World) (hy : Below w.heap.size w y) => CR.out y k m hy HVq.out hm
        have D2 := hid fun (y : World) (hy : Below w.heap.size w y) => CR.out y k n hy HVq.out hn
        have HN0 : Hid (ys ++ (if refsC q (k : Int) m = refsC q (k : Int) n then [] else [(k : Int)]) = diffTo q m n (k + 1)) := by
          show _ = _
          conv => rhs; unfold diffTo
          rw [HY.out]
        obtain ⟨xs, hxs⟩ : ∃ xs, refsC q (k : Int) m = xs := ⟨_, rfl⟩
        obtain ⟨us, hus⟩ : ∃ us, refsC q (k : Int) n = us := ⟨_, rfl⟩
        rw [hxs] at D1 HX4 HRV HN0
        rw [hus] at D2 HY4 HRV HN0
        clear hxs hus HY
        go_upto_region 5 with fail
        refine wp_region_held_drew (S := fun x => x.cell? ⟨w.heap.size, 0, none⟩ = some (.slice A q.ts.length c) ∧ x.cell? ⟨w.heap.size, 1, none⟩ = some (.slice A2 q.os.length c2)) (by kernel_rfl) ⟨y0, y1⟩ (fun hHeld => ?_)
        have dr := (Below.refl w5.heap.size w5).drew
        obtain ⟨w7, hW⟩ : ∃ x, w5.drew = x := ⟨_, rfl⟩
        rw [hW] at dr hHeld ⊢
        replace x0 := x0.later dr
        replace hb := hb.trans (dr.mono hb.size)
        replace o5 : OwnI w7 w.heap.size (.slice Ao ys.length co) ys := o5.below dr (Nat.le_refl _)
        clear hW y0 y1 dr
        try simp only [Act.put, List.getElem_toArray, List.getElem_cons_succ, List.getElem_cons_zero, List.setIfInBounds_toArray, List.set_cons_zero, List.set_cons_succ]
        refine wpAnyH_take (i := 0) (oi := _) (v := ?_) rfl (by kernel_rfl) (by kernel_rfl) (by kernel_rfl) (fun _ _ _ h => h) (Or.inl ⟨by rfl, ?_⟩) hHeld ?_
        rotate_left
        · (intro w' hSw; (try dsimp only at hSw); go_simp <;> with_reducible rfl)
        try simp only [Act.put, List.getElem_toArray, List.getElem_cons_succ, List.getElem_cons_zero, List.setIfInBounds_toArray, List.set_cons_zero, List.set_cons_succ]
        refine wpAnyH_take (i := 1) (oi := _) (v := ?_) rfl (by kernel_rfl) (by kernel_rfl) (by kernel_rfl) (fun _ _ _ h => h) (Or.inl ⟨by rfl, ?_⟩) hHeld ?_
        rotate_left
        · (intro w' hSw; (try dsimp only at hSw); go_simp <;> with_reducible rfl)
        try simp only [Act.put, List.getElem_toArray, List.getElem_cons_succ, List.getElem_cons_zero, List.setIfInBounds_toArray, List.set_cons_zero, List.set_cons_succ]
        refine wpAnyH_take (i := 2) (oi := _) (v := ?_) rfl (by kernel_rfl) (by kernel_rfl) (by kernel_rfl) (fun _ _ _ h => h) (Or.inl ⟨by rfl, ?_⟩) hHeld ?_
        rotate_left
        · (intro w' hSw; (try dsimp only at hSw); go_simp <;> with_reducible rfl)
        try simp only [Act.put, List.getElem_toArray, List.getElem_cons_succ, List.getElem_cons_zero, List.setIfInBounds_toArray, List.set_cons_zero, List.set_cons_succ]
        refine wpAnyH_take (i := 4) (oi := _) (v := ?_) rfl (by kernel_rfl) (by kernel_rfl) (by kernel_rfl) (fun _ _ _ h => h) (Or.inl ⟨by rfl, ?_⟩) hHeld ?_
        rotate_left
        · (intro w' hSw; (try dsimp only at hSw); go_simp <;> with_reducible rfl)
        try simp only [Act.put, List.getElem_toArray, List.getElem_cons_succ, List.getElem_cons_zero, List.setIfInBounds_toArray, List.set_cons_zero, List.set_cons_succ]
        refine wpAnyH_take (i := 5) (oi := _) (v := ?_) rfl (by kernel_rfl) (by kernel_rfl) (by kernel_rfl) (fun _ _ _ h => h) (Or.inl ⟨by rfl, ?_⟩) hHeld ?_
        rotate_left
        · (intro w' hSw; (try dsimp only at hSw); go_simp <;> with_reducible rfl)
        try simp only [Act.put, List.getElem_toArray, List.getElem_cons_succ, List.getElem_cons_zero, List.setIfInBounds_toArray, List.set_cons_zero, List.set_cons_succ]
        refine wpAnyH_take (i := 6) (oi := _) (v := ?_) rfl (by kernel_rfl) (by kernel_rfl) (by kernel_rfl) (fun _ _ _ h => h) (Or.inl ⟨by rfl, ?_⟩) hHeld ?_
        rotate_left
        · (intro w' hSw; (try dsimp only at hSw); go_simp <;> with_reducible rfl)
        try simp only [Act.put, List.getElem_toArray, List.getElem_cons_succ, List.getElem_cons_zero, List.setIfInBounds_toArray, List.set_cons_zero, List.set_cons_succ]
        refine wpAnyH_ready (rs := [3]) (by kernel_rfl) (by simp) (AllReadyH.cons (o := _) rfl (fun K hK => ?_) AllReadyH.nil)
        try simp only [Act.put, List.getElem_toArray, List.getElem_cons_succ, List.getElem_cons_zero, List.setIfInBounds_toArray, List.set_cons_zero, List.set_cons_succ]
        go_simp
        go_at_call 41
        refine (D1.out w7 hb).mono ?_
        rintro e w8 ⟨A8, c8, rfl, r8, hc8, d⟩
        replace x0 := x0.later d
        replace hb := hb.trans (d.mono hb.size)
        replace o5 : OwnI w8 w.heap.size (.slice Ao ys.length co) ys := o5.below d (Nat.le_refl _)
        clear d D1
        refine hK.out _ _ ⟨x0.reads.1, x0.reads.2.1⟩ (fun hHeld => ?_)
        clear hK K
        try simp only [Act.put, List.getElem_toArray, List.getElem_cons_succ, List.getElem_cons_zero, List.setIfInBounds_toArray, List.set_cons_zero, List.set_cons_succ]
        refine wpAnyH_ready (rs := [7]) (by kernel_rfl) (by simp) (AllReadyH.cons (o := _) rfl (fun K hK => ?_) AllReadyH.nil)
        try simp only [Act.put, List.getElem_toArray, List.getElem_cons_succ, List.getElem_cons_zero, List.setIfInBounds_toArray, List.set_cons_zero, List.set_cons_succ]
        go_simp
        go_at_call 41
        refine (D2.out w8 hb).mono ?_
        rintro e w9 ⟨A9, c9, rfl, r9, hc9, d⟩
        replace x0 := x0.later d
        replace hb := hb.trans (d.mono hb.size)
        replace o5 : OwnI w9 w.heap.size (.slice Ao ys.length co) ys := o5.below d (Nat.le_refl _)
        replace r8 := (r8.below d (Nat.le_refl _)).more d.size
        clear d D2
        refine hK.out _ _ ⟨x0.reads.1, x0.reads.2.1⟩ (fun hHeld => ?_)
        clear hK K
        try simp only [Act.put, List.getElem_toArray, List.getElem_cons_succ, List.getElem_cons_zero, List.setIfInBounds_toArray, List.set_cons_zero, List.set_cons_succ]
        refine wpAnyH_ready (rs := [8]) (by kernel_rfl) (by simp) (AllReadyH.cons (o := _) rfl (fun K hK => ?_) AllReadyH.nil)
        try simp only [Act.put, List.getElem_toArray, List.getElem_cons_succ, List.getElem_cons_zero, List.setIfInBounds_toArray, List.set_cons_zero, List.set_cons_succ]
        go_simp
        go_at_call 49
        have CD := hid (specRefsDiffer_is true A8 A9 c8 c9 xs us w9 r8 r9 (by rw [HX4.out]; decide) (by rw [HY4.out]; decide) ⟨fun _ => HRV.out, fun _ => rfl⟩)
        have hdl : (difs true xs us).length = 0 ↔ xs = us := by
          unfold difs
          rw [if_pos rfl, List.length_eq_zero_iff]
          exact dif_none (by rw [HX4.out, HY4.out])
        have HDL := hid hdl
        obtain ⟨ds, hds⟩ : ∃ ds, difs true xs us = ds := ⟨_, rfl⟩
        rw [hds] at CD HDL
        clear hdl hds
        refine CD.out.mono ?_
        rintro e w10 ⟨Ad, cd, rfl, -, d⟩
        replace x0 := x0.later d
        replace hb := hb.trans (d.mono hb.size)
        replace o5 : OwnI w10 w.heap.size (.slice Ao ys.length co) ys := o5.below d (Nat.le_refl _)
        clear d r8 r9 CD
        obtain ⟨nd, hnd⟩ : ∃ nd, ds.length = nd := ⟨_, rfl⟩
        rw [hnd] at HDL ⊢
        clear hnd
        refine hK.out _ _ ⟨x0.reads.1, x0.reads.2.1⟩ (fun hHeld => ?_)
        clear hK K
        try simp only [Act.put, List.getElem_toArray, List.getElem_cons_succ, List.getElem_cons_zero, List.setIfInBounds_toArray, List.set_cons_zero, List.set_cons_succ]
        refine wpAnyH_take (i := 9) (oi := _) (v := ?_) rfl (by kernel_rfl) (by kernel_rfl) (by kernel_rfl) (fun _ _ _ h => h) (Or.inl ⟨by rfl, ?_⟩) hHeld ?_
        rotate_left
        · (intro w' hSw; (try dsimp only at hSw); go_simp <;> with_reducible rfl)
        try simp only [Act.put, List.getElem_toArray, List.getElem_cons_succ, List.getElem_cons_zero, List.setIfInBounds_toArray, List.set_cons_zero, List.set_cons_succ]
        refine wpAnyH_take (i := 10) (oi := _) (v := ?_) rfl (by kernel_rfl) (by kernel_rfl) (by kernel_rfl) (fun _ _ _ h => h) (Or.inl ⟨by rfl, ?_⟩) hHeld ?_
        rotate_left
        · (intro w' hSw; (try dsimp only at hSw); go_simp <;> with_reducible rfl)
        try simp only [Act.put, List.getElem_toArray, List.getElem_cons_succ, List.getElem_cons_zero, List.setIfInBounds_toArray, List.set_cons_zero, List.set_cons_succ]
        refine wpAnyH_done (by kernel_rfl) ?_ _
        clear hHeld hc8 hc9
        obtain ⟨y0, y1, -⟩ := id x0.reads
        rcases nd with _ | nd
        · have hd : (0 : Nat) = 0 := rfl
          have HN : Hid (ys = diffTo q m n (k + 1)) := by
            have := HN0.out
            rw [if_pos (HDL.out.1 hd), List.append_nil] at this
            exact this
          clear HN0 HDL HRV hd
          go_wp2
          go_roundw
          case rel => exact ⟨k + 1, ys, Ao, co, by omega, by go_num, rfl, HN, o5, x0, hb⟩
          case measure => simp [intOf]; omega
        · have hd : nd + 1 ≠ 0 := by omega
          have HN : Hid (ys ++ [(k : Int)] = diffTo q m n (k + 1)) := by
            have := HN0.out
            rw [if_neg fun e => hd (HDL.out.2 e)] at this
            exact this
          clear HN0 HDL HRV hd
          have oA := World.ownsRow.alloc o5 (.cells #[.int .i64 (k : Int)] 3)
          have al := (Below.refl w10.heap.size w10).alloc (Nat.le_refl _) (.cells #[.int .i64 (k : Int)] 3)
          have hb10 := hb.trans (al.mono hb.size)
          have x11 := x0.later al
          clear al o5
          go_wp2_with (at_builtin; go_must (refine wpList_append_row _ rfl _ _ 24 rfl w.heap.size 3 i1 (.int .i64 0) 1 8 Try.underlying24 hj hy0 hy1 hy2 rfl (by decide) _ ys.length _ rfl oA (w10.heap.size + 1) (some ⟨w10.heap.size, 0, none⟩) 1 1 [.int .i64 (k : Int)] rfl (.inr ⟨_, rfl, Nat.lt_succ_self _, cell_one_new _ _ _⟩) rfl (one_int _) (by unfold maxLen; omega) (by omega) hb10.size ?_); intro v7 w7 hown hg; have o7 : OwnI w7 w.heap.size v7 (ys ++ [(k : Int)]) := OwnI.app hown; obtain ⟨A7, c7, rfl, -, -⟩ := o7.form; have x7 := x11.grown hg (blk_ne_row x11 oA (by decide)); have b7 := hb10.grown hg hb10.size (fun j hj => (World.ownsRow.lt oA j hj).1))
          go_roundw
          case rel => exact ⟨k + 1, ys ++ [(k : Int)], A7, c7, by omega, by go_num, by rw [List.length_append]; rfl, HN, o7, x7, b7⟩
          case measure => simp [intOf]; omega
      · have hk' : k = 3 := by omega
        subst hk'
        have HX := hid HY.out
        clear HY CVal CR C2 C3
        go_wp2
        go_ret
        rw [HE.out, ← HX.out]
        exact .mk_ oy hb
  · have ez : zs = [] := HZ.out.no fun e => hall ⟨HBV.out.2 e.1, HBA.out.2 e.2.1, HBB.out.2 e.2.2⟩
    subst ez
    have HALL := hid hall
    clear CR HZ HBV HBA HBB hall
    go_wp2_with fail
    go_loopw [7, 8] (fun o i wr => o = .slice (some ⟨w.heap.size + 1, 0, none⟩) 0 0 ∧ i = .int .i64 0 ∧ OwnI wr w.heap.size (.slice (some ⟨w.heap.size + 1, 0, none⟩) 0 0) [] ∧ Blk2s wr w.heap.size 26 (.slice A q.ts.length c) (.slice A2 q.os.length c2) ∧ Below w.heap.size w wr) (fun _ _ _ => 0)
    case atStart => exact ⟨rfl, rfl, o1, x0, b1⟩
    case round =>
      clear o1 x0 b1
      obtain ⟨rfl, rfl, oy, x0, hb⟩ := hrel
      have hz := hb.size
      obtain ⟨y0, y1, -⟩ := id x0.reads
      have CX := hid (CVal.out wr hb)
      go_wp2_with fail
      refine CX.out.mono ?_
      rintro e w5 ⟨rfl, d⟩
      replace hb := hb.trans (d.mono hz)
      replace x0 := x0.later d
      have o5 : OwnI w5 w.heap.size (.slice (some ⟨w.heap.size + 1, 0, none⟩) 0 0) [] := oy.below d (Nat.le_refl _)
      clear oy d CX y0 y1 hz CVal
      obtain ⟨y0, y1, -⟩ := id x0.reads
      cases bv with
      | false =>
        clear HALL
        go_wp2
        go_ret
        exact .mk_ o5 hb
      | true =>
        go_wp2_with fail
        refine (C2.out _).mono ?_
        rintro e w6 ⟨rfl, rfl⟩
        cases ba with
        | false =>
          clear HALL
          go_wp2
          go_ret
          exact .mk_ o5 hb
        | true =>
          go_wp2_with fail
          refine (C3.out _).mono ?_
          rintro e w6 ⟨rfl, rfl⟩
          cases bb with
          | false =>
            clear HALL
            go_wp2
            go_ret
            exact .mk_ o5 hb
          | true => exact absurd (by simp) HALL.out
end Go.Proofs.Ytjplondblkkpmaa
