/-
  The coordinator with the slices $SA and $SB is stored as the answer, with the word $BB.
  The coordinator with the slices $SA and $SB is stored as the answer, with the word $BB.
  The coordinator with the slices $SA and $SB is stored as the answer, with the word $BB.
-/
import Derived.Test.YteaibflloeipaaaGreatDoorM6
set_option linter.unusedSimpArgs false
set_option linter.unusedVariables false
/- Laws on coordinators: a coordinator is boxed. -/
/- On to the world behind D. -/
/- An exact law begins: the argument's box, its size, a copy for the model. -/
/- The program's own copy of the argument is boxed. -/
/- The program's copy is as the argument; the region draws. -/
/- Laws on functions that answer numbers. -/
/- What the boxes hold is read again. -/
/- The coordinator with the slices P4 and P5 is boxed as P6, in block P7, behind it the world P3; ahead of region P1. -/
/- The draw, the program's answer, the model's, and that they are the same: behind it w5, all facts on it by way of dx. -/
/-
  Walks: how many first transactions are everywhere, by the model.
-/
namespace Go.Proofs.YteaibflloeipaaaGreatDoor
open Go.RowKit Wo Pu Rf Lk Sh Co Si
set_option linter.unusedVariables false
set_option linter.unusedSimpArgs false

/-- The first k shards are valid. -/
def VlS (ss : List (List Rec)) (k : Nat) : Prop := ∀ j (hj : j < ss.length), j < k → Vld ss[j]
theorem VlS.zero (ss : List (List Rec)) : VlS ss 0 := fun _ _ h => absurd h (Nat.not_lt_zero _)
theorem VlS.next {ss : List (List Rec)} {k : Nat} (h : VlS ss k) (hk : k < ss.length) (e : Vld ss[k]) : VlS ss (k + 1) := fun i hi hl => by
  by_cases ei : i = k
  · subst ei; exact e
  · exact h i hi (by omega)
theorem VlS.all {ss : List (List Rec)} (h : VlS ss ss.length) : ∀ rs ∈ ss, Vld rs := fun r hr => by
  obtain ⟨j, hj, rfl⟩ := List.mem_iff_getElem.1 hr
  exact h j hj hj
set_option maxRecDepth 100000 in
set_option maxHeartbeats 4000000 in
theorem l31Shards_is (b : Bool) (A3 : Option Addr) (c3 : Nat) (ss : List (List Rec)) (w : World) (hl : ShL w w.heap.size A3 ss) (hfr : ∀ rs ∈ ss, FitR rs) (hm : ss.length ≤ 1048576) (hb : b = true ↔ (∀ rs ∈ ss, Vld rs) ∧ ss.length = 3) :
    Calls Tryz.prog 38 #[.slice A3 ss.length c3] w (Ret (.bool b) w) := by
  have HB := hid hb
  clear hb
  go_enter Tryz.func38, Tryz.ntmps38
  go_wp2_with fail
  go_loopw [3] (fun i wr => ∃ k : Nat, k ≤ ss.length ∧ i = .int .i64 k ∧ Hid (VlS ss k) ∧ Below w.heap.size w wr) (fun i _ => ss.length - (intOf i).toNat)
  case atStart => exact ⟨0, Nat.zero_le _, rfl, .zero _, Below.refl _ _⟩
  case round =>
    obtain ⟨k, hk, rfl, H, hb⟩ := hrel
    by_cases hlt : k < ss.length
    · obtain ⟨rs, ad, A', c', ho, rfl, had, hc9, hcc, hrec⟩ := (hl.below hb (Nat.le_refl _)).at_ hlt
      obtain ⟨bk, hbk⟩ := bool_ofP (Vld rs)
      have k0 : (0 : Int) ≤ (k : Int) := by omega
      have k1 : (k : Int) < (ss.length : Int) := by omega
      have CX := hid (specShardValid_is bk (shV A' rs.length c') rs wr ⟨A', c', rfl, hrec.more hb.size, hcc⟩ (hfr rs (by rw [← ho]; exact List.getElem_mem hlt)) hbk)
      unfold shV at CX
      have HK : Hid (bk = true ↔ Vld ss[k]) := by show _ ↔ _; rw [ho]; exact hbk
      clear ho hbk hrec
      go_wp2_with fail
      refine CX.out.mono ?_
      rintro e w5 ⟨rfl, d⟩
      replace hb := hb.trans (d.mono hb.size)
      clear CX d hc9
      cases bk with
      | true =>
        have HN := hid (H.out.next hlt (HK.out.1 rfl))
        clear H HK
        go_wp2
        go_roundw
        case rel => exact ⟨k + 1, by omega, by go_num, HN, hb⟩
        case measure => simp [intOf]; omega
      | false =>
        have F : Hid (b = false) := by
          show b = false
          rw [← Bool.not_eq_true]
          exact fun e => by have := HK.out.2 ((HB.out.1 e).1 _ (List.getElem_mem hlt)); cases this
        clear H HK HB
        go_wp2
        go_ret
        rw [F.out]
        exact .mk_ hb
    · have hk' : k = ss.length := by omega
      subst hk'
      by_cases h3 : ss.length = 3
      · have F : Hid (b = true) := HB.out.2 ⟨H.out.all, h3⟩
        have e0 : ((ss.length : Int) == 3) = true := by rw [beq_iff_eq]; omega
        clear H HB h3
        go_wp2
        go_ret
        rw [F.out]
        exact .mk_ hb
      · have F : Hid (b = false) := by
          show b = false
          rw [← Bool.not_eq_true]
          exact fun e => h3 (HB.out.1 e).2
        have e0 : ((ss.length : Int) == 3) = false := by rw [beq_eq_false_iff_ne]; omega
        clear H HB h3
        go_wp2
        go_ret
        rw [F.out]
        exact .mk_ hb
set_option maxRecDepth 100000 in
set_option maxHeartbeats 8000000 in
theorem l31Have_is (b : Bool) (v : Value) (q : Crd) (A3 : Option Addr) (c3 : Nat) (ss : List (List Rec)) (n : Nat) (w : World) (h : Crdd w w.heap.size v q) (hl : ShL w w.heap.size A3 ss) (hv : SV q ss) (hf : FitC q) (hfr : ∀ rs ∈ ss, FitR rs) (hn : n < q.ts.length) (hb : b = haveB q ss (n : Int)) :
    Calls Tryz.prog 39 #[v, .slice A3 ss.length c3, .int .i64 (n : Int)] w (Ret (.bool b) w) := by
  have HI : Hid (b = true ↔ ∀ j (hj : j < q.ts[n].ps.length), ∃ k, ∃ hk : k < ss.length, q.ts[n].ps[j].s = (k : Int) ∧ Sh.ask ss[k] (n : Int) = 2) := by
    show _ ↔ _
    rw [hb]
    exact haveB_iff hv hn
  have HV := hid hv
  have HF := hid hf
  clear hb
  obtain ⟨A, c, A2, c2, rfl, hT, hc, -, hc2⟩ := h
  have h1 := hf.ts
  clear hv hf
  unfold crV at *
  have b1 := (Below.refl w.heap.size w).alloc (Nat.le_refl _) (.cells #[.slice A q.ts.length c, .slice A2 q.os.length c2] 26)
  have x0 := Blk2s.new_ w 26 (.slice A q.ts.length c) (.slice A2 q.os.length c2)
  go_enter Tryz.func39, Tryz.ntmps39
  go_upto_region 1 with fail
  obtain ⟨w1, hw1⟩ : ∃ x, w.alloc (.cells #[.slice A q.ts.length c, .slice A2 q.os.length c2] 26) = x := ⟨_, rfl⟩
  rw [hw1] at b1 x0 ⊢
  clear hw1
  obtain ⟨y0, y1, -⟩ := id x0.reads
  obtain ⟨t, ad, A', c', A9, c9, ho, rfl, had, g0, -, -, -, -, g5, -⟩ := hT.tx hn
  replace g0 := (b1.cell had).trans g0
  rw [ho] at HI
  have hps := (HF.out.ps t (by rw [← ho]; exact List.getElem_mem hn)).1
  have htv := hid (HV.out.cv.txs t (by rw [← ho]; exact List.getElem_mem hn)).parts
  have h3 := hid HV.out.n
  have i0 : (0 : Int) ≤ (n : Int) := by omega
  have i1 : (n : Int) < (q.ts.length : Int) := by omega
  clear ho
  go_wp2_with fail
  go_loopw [8] (fun i wr => ∃ j : Nat, j ≤ t.ps.length ∧ i = .int .i64 j ∧ Hid (HasTo ss t n j) ∧ Below w.heap.size w wr) (fun i _ => t.ps.length - (intOf i).toNat)
  case atStart => exact ⟨0, Nat.zero_le _, rfl, .zero _ _ _, b1⟩
  case round =>
    clear x0 b1 y0 y1 g0
    obtain ⟨j, hj, rfl, H, hb⟩ := hrel
    have hz := hb.size
    by_cases hlt : j < t.ps.length
    · obtain ⟨p, adp, A5, c5, hop, rfl, hbp, p0, p1, -, -⟩ := (g5.below hb (Nat.le_refl _)).part hlt
      have hpr := htv.out.2.1 p (by rw [← hop]; exact List.getElem_mem hlt)
      obtain ⟨k, hk⟩ := Int.eq_ofNat_of_zero_le hpr.1
      have hk3 : k < ss.length := by rw [h3.out]; omega
      obtain ⟨rs, ad3, A6, c6, ho3, rfl, had3, hc9, hcc, hrec⟩ := (hl.below hb (Nat.le_refl _)).at_ hk3
      have j0 : (0 : Int) ≤ (j : Int) := by omega
      have j1 : (j : Int) < (t.ps.length : Int) := by omega
      have k0 : (0 : Int) ≤ (k : Int) := by omega
      have k1 : (k : Int) < (ss.length : Int) := by omega
      rw [hk] at p0
      obtain ⟨a, hae⟩ : ∃ a, Sh.ask rs (n : Int) = a := ⟨_, rfl⟩
      have hfk := hfr rs (by rw [← ho3]; exact List.getElem_mem hk3)
      have CX := hid (l21Ask_is a A6 c6 rs (n : Int) wr _ hrec (by have := hfk.1; omega) hae)
      have HA : Hid (Sh.ask ss[k] (n : Int) = a) := by show _ = _; rw [ho3]; exact hae
      have HP := hid (hop ▸ hk : t.ps[j].s = (k : Int))
      clear hae hop hk ho3 hrec hpr hfk
      go_wp2_with fail
      refine CX.out.mono ?_
      rintro e w5 ⟨rfl, rfl⟩
      clear CX
      by_cases ha : a = 2
      · have e0 : (a != 2) = false := by rw [bne_eq_false_iff_eq]; exact ha
        have HN := hid (H.out.next hlt hk3 HP.out (by rw [HA.out]; exact ha))
        clear ha H HA HP
        go_wp2
        go_roundw
        case rel => exact ⟨j + 1, by omega, by go_num, HN, hb⟩
        case measure => simp [intOf]; omega
      · have e0 : (a != 2) = true := by rw [bne_iff_ne]; exact ha
        have F : Hid (b = false) := by
          show b = false
          rw [← Bool.not_eq_true]
          intro e
          obtain ⟨k', hk', e1, e2⟩ := HI.out.1 e j hlt
          have ek : k' = k := by have := HP.out; omega
          subst ek
          exact ha (HA.out.symm.trans e2)
        clear ha H HA HP HI
        go_wp2
        go_ret
        rw [F.out]
        exact .mk_ hb
    · have hj' : j = t.ps.length := by omega
      subst hj'
      have F : Hid (b = true) := HI.out.2 fun j hj => H.out j hj hj
      clear HI H
      go_wp2
      go_ret
      rw [F.out]
      exact .mk_ hb
end Go.Proofs.YteaibflloeipaaaGreatDoor
/- Laws on coordinators: a coordinator is boxed. -/
/- On to the world behind D. -/
/- An exact law begins: the argument's box, its size, a copy for the model. -/
/- The program's own copy of the argument is boxed. -/
/- The program's copy is as the argument; the region draws. -/
/- Laws on functions that answer numbers. -/
/- What the boxes hold is read again. -/
/- The coordinator with the slices P4 and P5 is boxed as P6, in block P7, behind it the world P3; ahead of region P1. -/
/- The draw, the program's answer, the model's, and that they are the same: behind it w5, all facts on it by way of dx. -/
/-
  Walk: how many first transactions are everywhere, by the model.
-/
namespace Go.Proofs.YteaibflloeipaaaGreatDoor
open Go.RowKit Wo Pu Rf Lk Sh Co Si
set_option linter.unusedVariables false
set_option linter.unusedSimpArgs false

set_option maxRecDepth 100000 in
set_option maxHeartbeats 16000000 in
theorem specSnapshotReady_is (z : Int) (v : Value) (q : Crd) (A3 : Option Addr) (c3 : Nat) (ss : List (List Rec)) (w : World) (h : Crdd w w.heap.size v q) (hl : ShL w w.heap.size A3 ss) (hf : FitC q) (hfr : ∀ rs ∈ ss, FitR rs) (hm : ss.length ≤ 1048576) (hz : ReadyO q ss z) :
    Calls Tryz.prog 12 #[v, .slice A3 ss.length c3] w (Ret (.int .i64 z) w) := by
  obtain ⟨bv, hbv⟩ := bool_ofP' (CV q)
  obtain ⟨bs, hbs⟩ := bool_ofP ((∀ rs ∈ ss, Vld rs) ∧ ss.length = 3)
  have HZ := hid hz
  have HBV := hid hbv
  have HBS := hid hbs
  have CVal : Hid (∀ y, Below w.heap.size w y → Calls Tryz.prog 37 #[v] y (Ret (.bool bv) y)) := fun y hy => specCoordinatorValid_is bv v q y (h.on hy hy.size) hf hbv
  have CSh : Hid (∀ y, Below w.heap.size w y → Calls Tryz.prog 38 #[.slice A3 ss.length c3] y (Ret (.bool bs) y)) := fun y hy => l31Shards_is bs A3 c3 ss y (hl.on hy) hfr hm hbs
  have CH : Hid (∀ (n : Nat) (b : Bool) y, Below w.heap.size w y → SV q ss → n < q.ts.length → b = haveB q ss (n : Int) → Calls Tryz.prog 39 #[v, .slice A3 ss.length c3, .int .i64 (n : Int)] y (Ret (.bool b) y)) := fun n b y hy hv hn hb => l31Have_is b v q A3 c3 ss n y (h.on hy hy.size) (hl.on hy) hv hf hfr hn hb
  have hf2 := hf.os
  obtain ⟨A, c, A2, c2, rfl, -, hc, hO, hc2⟩ := h
  clear hl hf hfr hbv hbs hz
  unfold crV at *
  have b1 := (Below.refl w.heap.size w).alloc (Nat.le_refl _) (.cells #[.slice A q.ts.length c, .slice A2 q.os.length c2] 26)
  have x0 := Blk2s.new_ w 26 (.slice A q.ts.length c) (.slice A2 q.os.length c2)
  go_enter Tryz.func12, Tryz.ntmps12
  go_upto_region 1 with fail
  obtain ⟨w1, hw1⟩ : ∃ x, w.alloc (.cells #[.slice A q.ts.length c, .slice A2 q.os.length c2] 26) = x := ⟨_, rfl⟩
  rw [hw1] at b1 x0 ⊢
  clear hw1
  obtain ⟨y0, y1, -⟩ := id x0.reads
  go_wp2_with fail
  refine (CVal.out _ b1).mono ?_
  rintro e w2 ⟨rfl, d⟩
  replace b1 := b1.trans (d.mono b1.size)
  replace x0 := x0.later d
  clear y0 y1 d CVal
  obtain ⟨y0, y1, -⟩ := id x0.reads
  cases bv with
  | false =>
    have F : Hid (z = -1) := HZ.out.no fun e => by have := HBV.out.2 e.cv; cases this
    clear HZ HBV HBS CSh CH
    go_wp2
    go_ret
    rw [F.out]
    exact .mk_ b1
  | true =>
    have HVq := hid (HBV.out.1 rfl)
    go_wp2_with fail
    refine (CSh.out _ b1).mono ?_
    rintro e w3 ⟨rfl, d⟩
    replace b1 := b1.trans (d.mono b1.size)
    replace x0 := x0.later d
    clear y0 y1 d CSh
    obtain ⟨y0, y1, -⟩ := id x0.reads
    cases bs with
    | false =>
      have F : Hid (z = -1) := HZ.out.no fun e => by have := HBS.out.2 ⟨e.vld, e.n⟩; cases this
      clear HZ HBV HBS CH
      go_wp2
      go_ret
      rw [F.out]
      exact .mk_ b1
    | true =>
      have hs2 := HBS.out.1 rfl
      have HSV : Hid (SV q ss) := ⟨HVq.out, hs2.2, hs2.1⟩
      have F := hid (HZ.out.yes HSV.out)
      clear HZ HBV HBS hs2
      go_wp2_with fail
      go_loopw [5] (fun i wr => ∃ k : Nat, k ≤ q.os.length ∧ i = .int .i64 k ∧ Hid (RdTo q ss k) ∧ Blk2s wr w.heap.size 26 (.slice A q.ts.length c) (.slice A2 q.os.length c2) ∧ Below w.heap.size w wr) (fun i _ => q.os.length - (intOf i).toNat)
      case atStart => exact ⟨0, Nat.zero_le _, rfl, .zero _ _, x0, b1⟩
      case round =>
        clear x0 b1 y0 y1
        obtain ⟨k, hk, rfl, H, x0, hb⟩ := hrel
        have hz := hb.size
        obtain ⟨y0, y1, -⟩ := id x0.reads
        by_cases hlt : k < q.os.length
        · obtain ⟨n, hn, eo, -⟩ := HVq.out.order.2 _ (List.getElem_mem hlt)
          obtain ⟨ad, rfl, hbl, hc9⟩ := (hO.below hb (Nat.le_refl _)).int_ hlt
          rw [eo] at hc9
          have HC9 : Hid (∀ x, Below w.heap.size wr x → x.cell? (ad.add k) = some (.int .i64 (n : Int))) := fun x hx => (hx.cell (by unfold Addr.add; split <;> exact hbl)).trans hc9
          have k0 : (0 : Int) ≤ (k : Int) := by omega
          have k1 : (k : Int) < (q.os.length : Int) := by omega
          obtain ⟨b, hbe⟩ : ∃ b, haveB q ss (n : Int) = b := ⟨_, rfl⟩
          have CX := hid fun (y : World) (hy : Below w.heap.size w y) => CH.out n b y hy HSV.out hn hbe.symm
          have HB : Hid (haveB q ss q.os[k] = b) := by show _ = b; rw [eo]; exact hbe
          clear eo hbe
          go_upto_region 4 with fail
          refine wp_region_held_drew (S := fun x => x.cell? ⟨w.heap.size, 0, none⟩ = some (.slice A q.ts.length c) ∧ x.cell? ⟨w.heap.size, 1, none⟩ = some (.slice (some ad) q.os.length c2) ∧ x.cell? (ad.add k) = some (.int .i64 (n : Int))) (by kernel_rfl) ⟨y0, y1, hc9⟩ (fun hHeld => ?_)
          have dr := (Below.refl wr.heap.size wr).drew
          obtain ⟨w7, hW⟩ : ∃ x, wr.drew = x := ⟨_, rfl⟩
          rw [hW] at dr hHeld ⊢
          replace x0 := x0.later dr
          have dx := dr.mono hz
          replace hb := hb.trans dx
          clear hW y0 y1 hc9 dr
          try simp only [Act.put, List.getElem_toArray, List.getElem_cons_succ, List.getElem_cons_zero, List.setIfInBounds_toArray, List.set_cons_zero, List.set_cons_succ]
          refine wpAnyH_take (i := 0) (oi := _) (v := ?_) rfl (by kernel_rfl) (by kernel_rfl) (by kernel_rfl) (fun _ _ _ h => h) (Or.inl ⟨by rfl, ?_⟩) hHeld ?_
          rotate_left
          · (intro w' hSw; (try dsimp only at hSw); go_simp <;> with_reducible rfl)
          try simp only [Act.put, List.getElem_toArray, List.getElem_cons_succ, List.getElem_cons_zero, List.setIfInBounds_toArray, List.set_cons_zero, List.set_cons_succ]
          refine wpAnyH_take (i := 1) (oi := _) (v := ?_) rfl (by kernel_rfl) (by kernel_rfl) (by kernel_rfl) (fun _ _ _ h => h) (Or.inl ⟨by rfl, ?_⟩) hHeld ?_
          rotate_left
          · (intro w' hSw; (try dsimp only at hSw); go_simp <;> with_reducible rfl)
          try simp only [Act.put, List.getElem_toArray, List.getElem_cons_succ, List.getElem_cons_zero, List.setIfInBounds_toArray, List.set_cons_zero, List.set_cons_succ]
          refine wpAnyH_take (i := 2) (oi := _) (v := ?_) rfl (by kernel_rfl) (by kernel_rfl) (by kernel_rfl) (fun _ _ _ h => h) (Or.inl ⟨by rfl, ?_⟩) hHeld ?_
          rotate_left
          · (intro w' hSw; (try dsimp only at hSw); go_simp <;> with_reducible rfl)
          try simp only [Act.put, List.getElem_toArray, List.getElem_cons_succ, List.getElem_cons_zero, List.setIfInBounds_toArray, List.set_cons_zero, List.set_cons_succ]
          refine wpAnyH_take (i := 3) (oi := _) (v := ?_) rfl (by kernel_rfl) (by kernel_rfl) (by kernel_rfl) (fun _ _ _ h => h) (Or.inl ⟨by rfl, ?_⟩) hHeld ?_
          rotate_left
          · (intro w' hSw; (try dsimp only at hSw); go_simp <;> with_reducible rfl)
          try simp only [Act.put, List.getElem_toArray, List.getElem_cons_succ, List.getElem_cons_zero, List.setIfInBounds_toArray, List.set_cons_zero, List.set_cons_succ]
          refine wpAnyH_take (i := 4) (oi := _) (v := ?_) rfl (by kernel_rfl) (by kernel_rfl) (by kernel_rfl) (fun _ _ _ h => h) (Or.inl ⟨by rfl, ?_⟩) hHeld ?_
          rotate_left
          · (intro w' hSw; (try dsimp only at hSw); go_simp <;> with_reducible rfl)
          try simp only [Act.put, List.getElem_toArray, List.getElem_cons_succ, List.getElem_cons_zero, List.setIfInBounds_toArray, List.set_cons_zero, List.set_cons_succ]
          refine wpAnyH_take (i := 5) (oi := _) (v := ?_) rfl (by kernel_rfl) (by kernel_rfl) (by kernel_rfl) (fun _ _ _ h => h) (Or.inl ⟨by rfl, ?_⟩) hHeld ?_
          rotate_left
          · (intro w' hSw; (try dsimp only at hSw); go_simp <;> with_reducible rfl)
          try simp only [Act.put, List.getElem_toArray, List.getElem_cons_succ, List.getElem_cons_zero, List.setIfInBounds_toArray, List.set_cons_zero, List.set_cons_succ]
          refine wpAnyH_take (i := 6) (oi := _) (v := ?_) rfl (by kernel_rfl) (by kernel_rfl) (by kernel_rfl) (fun _ _ _ h => h) (Or.inl ⟨by rfl, ?_⟩) hHeld ?_
          rotate_left
          · (intro w' hSw; (try dsimp only at hSw); go_simp <;> with_reducible rfl)
          try simp only [Act.put, List.getElem_toArray, List.getElem_cons_succ, List.getElem_cons_zero, List.setIfInBounds_toArray, List.set_cons_zero, List.set_cons_succ]
          refine wpAnyH_take (i := 7) (oi := _) (v := ?_) rfl (by kernel_rfl) (by kernel_rfl) (by kernel_rfl) (fun _ _ _ h => h) (Or.inl ⟨by rfl, ?_⟩) hHeld ?_
          rotate_left
          · (intro w' hSw; (try dsimp only at hSw); go_simp <;> with_reducible rfl)
          try simp only [Act.put, List.getElem_toArray, List.getElem_cons_succ, List.getElem_cons_zero, List.setIfInBounds_toArray, List.set_cons_zero, List.set_cons_succ]
          refine wpAnyH_take (i := 8) (oi := _) (v := ?_) rfl (by kernel_rfl) (by kernel_rfl) (by kernel_rfl) (fun _ _ _ h => h) (Or.inl ⟨by rfl, ?_⟩) hHeld ?_
          rotate_left
          · (intro w' hSw; (try dsimp only at hSw); go_simp <;> with_reducible rfl)
          try simp only [Act.put, List.getElem_toArray, List.getElem_cons_succ, List.getElem_cons_zero, List.setIfInBounds_toArray, List.set_cons_zero, List.set_cons_succ]
          refine wpAnyH_take (i := 9) (oi := _) (v := ?_) rfl (by kernel_rfl) (by kernel_rfl) (by kernel_rfl) (fun _ _ _ h => h) (Or.inl ⟨by rfl, ?_⟩) hHeld ?_
          rotate_left
          · (intro w' hSw; (try dsimp only at hSw); go_simp <;> with_reducible rfl)
          try simp only [Act.put, List.getElem_toArray, List.getElem_cons_succ, List.getElem_cons_zero, List.setIfInBounds_toArray, List.set_cons_zero, List.set_cons_succ]
          refine wpAnyH_take (i := 10) (oi := _) (v := ?_) rfl (by kernel_rfl) (by kernel_rfl) (by kernel_rfl) (fun _ _ _ h => h) (Or.inl ⟨by rfl, ?_⟩) hHeld ?_
          rotate_left
          · (intro w' hSw; (try dsimp only at hSw); go_simp <;> with_reducible rfl)
          try simp only [Act.put, List.getElem_toArray, List.getElem_cons_succ, List.getElem_cons_zero, List.setIfInBounds_toArray, List.set_cons_zero, List.set_cons_succ]
          refine wpAnyH_take (i := 11) (oi := _) (v := ?_) rfl (by kernel_rfl) (by kernel_rfl) (by kernel_rfl) (fun _ _ _ h => h) (Or.inl ⟨by rfl, ?_⟩) hHeld ?_
          rotate_left
          · (intro w' hSw; (try dsimp only at hSw); go_simp <;> with_reducible rfl)
          try simp only [Act.put, List.getElem_toArray, List.getElem_cons_succ, List.getElem_cons_zero, List.setIfInBounds_toArray, List.set_cons_zero, List.set_cons_succ]
          refine wpAnyH_take (i := 12) (oi := _) (v := ?_) rfl (by kernel_rfl) (by kernel_rfl) (by kernel_rfl) (fun _ _ _ h => h) (Or.inl ⟨by rfl, ?_⟩) hHeld ?_
          rotate_left
          · (intro w' hSw; (try dsimp only at hSw); go_simp <;> with_reducible rfl)
          try simp only [Act.put, List.getElem_toArray, List.getElem_cons_succ, List.getElem_cons_zero, List.setIfInBounds_toArray, List.set_cons_zero, List.set_cons_succ]
          refine wpAnyH_ready (rs := [13]) (by kernel_rfl) (by simp) (AllReadyH.cons (o := _) rfl (fun K hK => ?_) AllReadyH.nil)
          try simp only [Act.put, List.getElem_toArray, List.getElem_cons_succ, List.getElem_cons_zero, List.setIfInBounds_toArray, List.set_cons_zero, List.set_cons_succ]
          go_simp
          go_at_call 39
          refine (CX.out w7 hb).mono ?_
          rintro e w8 ⟨rfl, d⟩
          replace x0 := x0.later d
          replace dx := dx.trans (d.mono hb.size)
          replace hb := hb.trans (d.mono hb.size)
          clear d CX
          refine hK.out _ _ ⟨x0.reads.1, x0.reads.2.1, HC9.out _ dx⟩ (fun hHeld => ?_)
          clear hK K
          try simp only [Act.put, List.getElem_toArray, List.getElem_cons_succ, List.getElem_cons_zero, List.setIfInBounds_toArray, List.set_cons_zero, List.set_cons_succ]
          refine wpAnyH_take (i := 14) (oi := _) (v := ?_) rfl (by kernel_rfl) (by kernel_rfl) (by kernel_rfl) (fun _ _ _ h => h) (Or.inl ⟨by rfl, ?_⟩) hHeld ?_
          rotate_left
          · (intro w' hSw; (try dsimp only at hSw); go_simp <;> with_reducible rfl)
          try simp only [Act.put, List.getElem_toArray, List.getElem_cons_succ, List.getElem_cons_zero, List.setIfInBounds_toArray, List.set_cons_zero, List.set_cons_succ]
          refine wpAnyH_done (by kernel_rfl) ?_ _
          clear hHeld HC9 dx
          cases b with
          | true =>
            have HN := hid (H.out.next hlt HB.out)
            clear H HB
            go_wp2
            go_roundw
            case rel => exact ⟨k + 1, by omega, by go_num, HN, x0, hb⟩
            case measure => simp [intOf]; omega
          | false =>
            have F2 : Hid (z = (k : Int)) := by
              show _ = _
              rw [F.out, readyN_eq (Nat.le_of_lt hlt) H.out (fun _ => HB.out)]
            clear H HB CH F
            go_wp2
            go_ret
            rw [F2.out]
            exact .mk_ hb
        · have hk' : k = q.os.length := by omega
          subst hk'
          have F2 : Hid (z = (q.os.length : Int)) := by
            show _ = _
            rw [F.out, readyN_eq (Nat.le_refl _) H.out (fun h => absurd h (Nat.lt_irrefl _))]
          clear H CH F
          go_wp2
          go_quiet (fail)
          go_wp2
          go_ret
          rw [F2.out]
          exact .mk_ (Wo.Below.drewN hb _)
end Go.Proofs.YteaibflloeipaaaGreatDoor
/- Laws on coordinators: a coordinator is boxed. -/
/- On to the world behind D. -/
/- An exact law begins: the argument's box, its size, a copy for the model. -/
/- The program's own copy of the argument is boxed. -/
/- The program's copy is as the argument; the region draws. -/
/- Laws on functions that answer numbers. -/
/- What the boxes hold is read again. -/
/- The coordinator with the slices P4 and P5 is boxed as P6, in block P7, behind it the world P3; ahead of region P1. -/
/- The draw, the program's answer, the model's, and that they are the same: behind it w5, all facts on it by way of dx. -/
/-
  Walk of the exact law on SnapshotReady.
-/
namespace Go.Proofs.YteaibflloeipaaaGreatDoor
open Go.RowKit Wo Pu Rf Lk Sh Co Si
set_option linter.unusedVariables false
set_option linter.unusedSimpArgs false

set_option maxRecDepth 100000 in
set_option maxHeartbeats 8000000 in
theorem exactSnapshotReady_any (v : Value) (q : Crd) (A1 : Option Addr) (c1 : Nat) (ss : List (List Rec)) (w : World) (hv : Crdd w w.heap.size v q) (hw : WideC q) (hl : ShL w w.heap.size A1 ss) (hs : WideL ss) (er0 er1 : Addr) (hE : Errs er0 er1 w) :
    Calls Tryz.prog 8 #[v, .slice A1 ss.length c1] w (Ret (.bool true) w) := by
  obtain ⟨z, hz⟩ := readyO_ex q ss
  have HZ := hid hz
  have HEx : Hid (∀ y, Below w.heap.size w y → Errs er0 er1 y) := fun y hy => hE.below hy
  have HL : Hid (∀ y, Below w.heap.size w y → ShL y y.heap.size A1 ss) := fun y hy => hl.on hy
  have HS := hid hs
  clear hz hE hl hs
  obtain ⟨A0, c0, B0, k0, rfl, -⟩ := id hv
  unfold crV at *
  have HA : Hid (∀ y, Below w.heap.size w y → Crdd y y.heap.size (.agg #[.slice A0 q.ts.length c0, .slice B0 q.os.length k0]) q) := fun y hy => hv.on hy hy.size
  have HW := hid hw
  have x0 := Blk2s.new_ w 51 (.slice A0 q.ts.length c0) (.slice B0 q.os.length k0)
  have b1 := (Below.refl w.heap.size w).alloc (Nat.le_refl _) (.cells #[.slice A0 q.ts.length c0, .slice B0 q.os.length k0] 51)
  go_enter Tryz.func8, Tryz.ntmps8
  go_upto_region 1 with fail
  obtain ⟨w0, hw0⟩ : ∃ x, w.alloc (.cells #[.slice A0 q.ts.length c0, .slice B0 q.os.length k0] 51) = x := ⟨_, rfl⟩
  rw [hw0] at x0 b1 ⊢
  clear hw0 hv hw
  obtain ⟨ya0, ya1, -⟩ := id x0.reads
  go_wp2_with fail
  refine (szCoordinator_any _ q 1048576 w0 (HA.out _ b1) HW.out (by omega) (by omega)).mono ?_
  rintro e w1 ⟨r, rfl, hr, d⟩
  replace b1 := b1.trans ((d).mono b1.size)
  replace x0 := x0.later d
  try replace bS := bS.trans ((d).mono bS.size)
  try replace bX := bX.trans ((d).mono bX.size)
  try replace bG := bG.trans ((d).mono bG.size)
  try replace b5 := b5.trans ((d).mono b5.size)
  try replace kG := kG.trans (Keeps.of_below d _)
  try replace kQ := kQ.trans (Keeps.of_below d _)
  try replace bQ := bQ.trans ((d).mono bQ.size)
  try replace xb := xb.later d
  try replace xw := xw.later d
  try replace xg := xg.later d
  try clear ya0 ya1
  try clear yb0 yb1
  try clear yw0 yw1
  try clear yg0 yg1
  obtain ⟨ya0, ya1, -⟩ := id x0.reads
  try obtain ⟨yb0, yb1, -⟩ := id xb.reads
  try obtain ⟨yw0, yw1, -⟩ := id xw.reads
  try obtain ⟨yg0, yg1, -⟩ := id xg.reads
  clear d
  rcases hr with rfl | ⟨hr0, hr⟩
  · go_wp2
    go_ret
    exact .mk_ b1
  have hneg1 : ¬ r < 0 := by omega
  have CZ := hid fun (x : World) (hx : Below w.heap.size w x) => szShardS_any A1 c1 ss r x (HL.out x hx) HS.out (by omega) (by omega)
  have HR := hid hr
  clear hr
  go_wp2_with fail
  refine (CZ.out _ b1).mono ?_
  rintro e w2 ⟨r2, rfl, hr2, d⟩
  replace b1 := b1.trans ((d).mono b1.size)
  replace x0 := x0.later d
  try replace bS := bS.trans ((d).mono bS.size)
  try replace bX := bX.trans ((d).mono bX.size)
  try replace bG := bG.trans ((d).mono bG.size)
  try replace b5 := b5.trans ((d).mono b5.size)
  try replace kG := kG.trans (Keeps.of_below d _)
  try replace kQ := kQ.trans (Keeps.of_below d _)
  try replace bQ := bQ.trans ((d).mono bQ.size)
  try replace xb := xb.later d
  try replace xw := xw.later d
  try replace xg := xg.later d
  try clear ya0 ya1
  try clear yb0 yb1
  try clear yw0 yw1
  try clear yg0 yg1
  obtain ⟨ya0, ya1, -⟩ := id x0.reads
  try obtain ⟨yb0, yb1, -⟩ := id xb.reads
  try obtain ⟨yw0, yw1, -⟩ := id xw.reads
  try obtain ⟨yg0, yg1, -⟩ := id xg.reads
  clear d CZ
  rcases hr2 with rfl | ⟨hr20, hr2⟩
  · go_wp2
    go_ret
    exact .mk_ b1
  have hneg : ¬ r2 < 0 := by omega
  have hal : allC q ≤ 1048576 := by have := HR.out; omega
  have hll : allSzL ss ≤ 1048576 := by have := HR.out; omega
  have HAL := hid hal
  have HFT := hid (allC_fit hal (Nat.le_refl _))
  have HFL := hid (allSzL_fit hll (Nat.le_refl _))
  have CTO := hid fun (x : World) (hx : Below w.heap.size w x) => toCoordinator_any _ q x (HA.out x hx) HFT.out
  have CTL := hid fun (x : World) (hx : Below w.heap.size w x) => toShardS_any A1 c1 ss x (HL.out x hx) HFL.out.1 HFL.out.2
  clear hr2 hal hll HR
  go_wp2_with fail
  refine (CTO.out _ b1).mono ?_
  rintro e w2 ⟨v2, col2, rfl, o2, d⟩
  replace b1 := b1.trans ((d).mono b1.size)
  replace x0 := x0.later d
  try replace bS := bS.trans ((d).mono bS.size)
  try replace bX := bX.trans ((d).mono bX.size)
  try replace bG := bG.trans ((d).mono bG.size)
  try replace b5 := b5.trans ((d).mono b5.size)
  try replace kG := kG.trans (Keeps.of_below d _)
  try replace kQ := kQ.trans (Keeps.of_below d _)
  try replace bQ := bQ.trans ((d).mono bQ.size)
  try replace xb := xb.later d
  try replace xw := xw.later d
  try replace xg := xg.later d
  try clear ya0 ya1
  try clear yb0 yb1
  try clear yw0 yw1
  try clear yg0 yg1
  obtain ⟨ya0, ya1, -⟩ := id x0.reads
  try obtain ⟨yb0, yb1, -⟩ := id xb.reads
  try obtain ⟨yw0, yw1, -⟩ := id xw.reads
  try obtain ⟨yg0, yg1, -⟩ := id xg.reads
  clear d
  obtain ⟨A2, c2, B2, k2, rfl, -⟩ := o2.form
  have p2 := o2.crd
  unfold crV at p2 ⊢
  clear o2
  go_wp2_with fail
  refine (CTL.out _ b1).mono ?_
  rintro e w3 ⟨g3, rfl, l3, d⟩
  replace b1 := b1.trans ((d).mono b1.size)
  replace x0 := x0.later d
  try replace bS := bS.trans ((d).mono bS.size)
  try replace bX := bX.trans ((d).mono bX.size)
  try replace bG := bG.trans ((d).mono bG.size)
  try replace b5 := b5.trans ((d).mono b5.size)
  try replace kG := kG.trans (Keeps.of_below d _)
  try replace kQ := kQ.trans (Keeps.of_below d _)
  try replace bQ := bQ.trans ((d).mono bQ.size)
  try replace xb := xb.later d
  try replace xw := xw.later d
  try replace xg := xg.later d
  try clear ya0 ya1
  try clear yb0 yb1
  try clear yw0 yw1
  try clear yg0 yg1
  obtain ⟨ya0, ya1, -⟩ := id x0.reads
  try obtain ⟨yb0, yb1, -⟩ := id xb.reads
  try obtain ⟨yw0, yw1, -⟩ := id xw.reads
  try obtain ⟨yg0, yg1, -⟩ := id xg.reads
  replace p2 := p2.on d d.size
  clear d
  go_wp2_with fail
  refine (specSnapshotReady_is z _ q _ _ ss w3 p2 l3.shl HFT.out HFL.out.2 HFL.out.1 HZ.out).mono ?_
  rintro e w4 ⟨rfl, d⟩
  replace b1 := b1.trans ((d).mono b1.size)
  replace x0 := x0.later d
  try replace bS := bS.trans ((d).mono bS.size)
  try replace bX := bX.trans ((d).mono bX.size)
  try replace bG := bG.trans ((d).mono bG.size)
  try replace b5 := b5.trans ((d).mono b5.size)
  try replace kG := kG.trans (Keeps.of_below d _)
  try replace kQ := kQ.trans (Keeps.of_below d _)
  try replace bQ := bQ.trans ((d).mono bQ.size)
  try replace xb := xb.later d
  try replace xw := xw.later d
  try replace xg := xg.later d
  try clear ya0 ya1
  try clear yb0 yb1
  try clear yw0 yw1
  try clear yg0 yg1
  obtain ⟨ya0, ya1, -⟩ := id x0.reads
  try obtain ⟨yb0, yb1, -⟩ := id xb.reads
  try obtain ⟨yw0, yw1, -⟩ := id xw.reads
  try obtain ⟨yg0, yg1, -⟩ := id xg.reads
  clear d p2 l3
  go_wp2_with fail
  refine (CTO.out _ b1).mono ?_
  rintro e w4 ⟨v4, col4, rfl, o4, d⟩
  replace b1 := b1.trans ((d).mono b1.size)
  replace x0 := x0.later d
  try replace bS := bS.trans ((d).mono bS.size)
  try replace bX := bX.trans ((d).mono bX.size)
  try replace bG := bG.trans ((d).mono bG.size)
  try replace b5 := b5.trans ((d).mono b5.size)
  try replace kG := kG.trans (Keeps.of_below d _)
  try replace kQ := kQ.trans (Keeps.of_below d _)
  try replace bQ := bQ.trans ((d).mono bQ.size)
  try replace xb := xb.later d
  try replace xw := xw.later d
  try replace xg := xg.later d
  try clear ya0 ya1
  try clear yb0 yb1
  try clear yw0 yw1
  try clear yg0 yg1
  obtain ⟨ya0, ya1, -⟩ := id x0.reads
  try obtain ⟨yb0, yb1, -⟩ := id xb.reads
  try obtain ⟨yw0, yw1, -⟩ := id xw.reads
  try obtain ⟨yg0, yg1, -⟩ := id xg.reads
  clear d
  obtain ⟨A4, c4, B4, k4, rfl, -⟩ := o4.form
  unfold crV at o4 ⊢
  have bX := Below.refl w4.heap.size w4
  go_upto_region 10 with fail
  have xb := Blk2s.new_ w4 26 (.slice A4 q.ts.length c4) (.slice B4 q.os.length k4)
  have al := (Below.refl w4.heap.size w4).alloc (Nat.le_refl _) (.cells #[.slice A4 q.ts.length c4, .slice B4 q.os.length k4] 26)
  obtain ⟨w5, hw5⟩ : ∃ x, w4.alloc (.cells #[.slice A4 q.ts.length c4, .slice B4 q.os.length k4] 26) = x := ⟨_, rfl⟩
  obtain ⟨gb, hgb⟩ : ∃ x, w4.heap.size = x := ⟨_, rfl⟩
  rw [hw5] at xb al ⊢
  rw [hgb] at xb ⊢
  have hgb2 : w4.heap.size ≤ gb := by rw [hgb]; exact Nat.le_refl _
  clear hw5 hgb
  replace b1 := b1.trans (al.mono b1.size)
  replace x0 := x0.later al
  try replace bS := bS.trans (al.mono bS.size)
  try replace xw := xw.later al
  replace bX := bX.trans (al.mono bX.size)
  clear al
  try clear ya0 ya1
  try clear yb0 yb1
  try clear yw0 yw1
  try clear yg0 yg1
  obtain ⟨ya0, ya1, -⟩ := id x0.reads
  try obtain ⟨yb0, yb1, -⟩ := id xb.reads
  try obtain ⟨yw0, yw1, -⟩ := id xw.reads
  try obtain ⟨yg0, yg1, -⟩ := id xg.reads
  have HX : Hid (∀ y, Below w4.heap.size w4 y → Crdd y y.heap.size (.agg #[.slice A4 q.ts.length c4, .slice B4 q.os.length k4]) q) := fun y hy => (o4.below hy).crd
  go_wp2_with fail
  refine (CTL.out _ b1).mono ?_
  rintro e w6 ⟨g6, rfl, l6, d⟩
  replace b1 := b1.trans ((d).mono b1.size)
  replace x0 := x0.later d
  try replace bS := bS.trans ((d).mono bS.size)
  try replace bX := bX.trans ((d).mono bX.size)
  try replace bG := bG.trans ((d).mono bG.size)
  try replace b5 := b5.trans ((d).mono b5.size)
  try replace kG := kG.trans (Keeps.of_below d _)
  try replace kQ := kQ.trans (Keeps.of_below d _)
  try replace bQ := bQ.trans ((d).mono bQ.size)
  try replace xb := xb.later d
  try replace xw := xw.later d
  try replace xg := xg.later d
  try clear ya0 ya1
  try clear yb0 yb1
  try clear yw0 yw1
  try clear yg0 yg1
  obtain ⟨ya0, ya1, -⟩ := id x0.reads
  try obtain ⟨yb0, yb1, -⟩ := id xb.reads
  try obtain ⟨yw0, yw1, -⟩ := id xw.reads
  try obtain ⟨yg0, yg1, -⟩ := id xg.reads
  clear d
  have bS := Below.refl w6.heap.size w6
  have HX6 : Hid (∀ y, Below w6.heap.size w6 y → ShL y y.heap.size (some ⟨g6, 0, none⟩) ss) := fun y hy => l6.shl.on hy
  clear l6
  go_wp2_with fail
  refine (implSnapshotReady_is z _ q _ _ ss w6 er0 er1 (HX.out _ bX) (HX6.out _ bS) (HEx.out _ b1) HFT.out HFL.out.2 HFL.out.1 HZ.out).mono ?_
  rintro e w7 ⟨rfl, d⟩
  replace b1 := b1.trans ((d).mono b1.size)
  replace x0 := x0.later d
  try replace bS := bS.trans ((d).mono bS.size)
  try replace bX := bX.trans ((d).mono bX.size)
  try replace bG := bG.trans ((d).mono bG.size)
  try replace b5 := b5.trans ((d).mono b5.size)
  try replace kG := kG.trans (Keeps.of_below d _)
  try replace kQ := kQ.trans (Keeps.of_below d _)
  try replace bQ := bQ.trans ((d).mono bQ.size)
  try replace xb := xb.later d
  try replace xw := xw.later d
  try replace xg := xg.later d
  try clear ya0 ya1
  try clear yb0 yb1
  try clear yw0 yw1
  try clear yg0 yg1
  obtain ⟨ya0, ya1, -⟩ := id x0.reads
  try obtain ⟨yb0, yb1, -⟩ := id xb.reads
  try obtain ⟨yw0, yw1, -⟩ := id xw.reads
  try obtain ⟨yg0, yg1, -⟩ := id xg.reads
  clear d HZ
  go_wp2_with fail
  have b0 := (Below.refl (w7).heap.size w7).drew
  have HH : Hid (∀ y, Below (w7).heap.size w7 y → y.cell? ⟨w.heap.size, 0, none⟩ = some (.slice A0 q.ts.length c0) ∧ y.cell? ⟨w.heap.size, 1, none⟩ = some (.slice B0 q.os.length k0) ∧ y.cell? ⟨gb, 0, none⟩ = some (.slice A4 q.ts.length c4) ∧ y.cell? ⟨gb, 1, none⟩ = some (.slice B4 q.os.length k4)) := fun y hy => ⟨(x0.later hy).reads.1, (x0.later hy).reads.2.1, (xb.later hy).reads.1, (xb.later hy).reads.2.1⟩
  refine wp_region_held_drew (S := fun y => y.cell? ⟨w.heap.size, 0, none⟩ = some (.slice A0 q.ts.length c0) ∧ y.cell? ⟨w.heap.size, 1, none⟩ = some (.slice B0 q.os.length k0) ∧ y.cell? ⟨gb, 0, none⟩ = some (.slice A4 q.ts.length c4) ∧ y.cell? ⟨gb, 1, none⟩ = some (.slice B4 q.os.length k4)) (by kernel_rfl) (HH.out _ b0) (fun hHeld => ?_)
  obtain ⟨W, hW⟩ : ∃ x, (w7).drew = x := ⟨_, rfl⟩
  rw [hW] at b0 hHeld ⊢
  clear hW
  try simp only [Act.put, List.getElem_toArray, List.getElem_cons_succ, List.getElem_cons_zero, List.setIfInBounds_toArray, List.set_cons_zero, List.set_cons_succ]
  refine wpAnyH_take (i := 0) (oi := _) (v := ?_) rfl (by kernel_rfl) (by kernel_rfl) (by kernel_rfl) (fun _ _ _ h => h) (Or.inl ⟨by rfl, ?_⟩) hHeld ?_
  rotate_left
  · (intro w' hSw; (try dsimp only at hSw); go_simp <;> with_reducible rfl)
  try simp only [Act.put, List.getElem_toArray, List.getElem_cons_succ, List.getElem_cons_zero, List.setIfInBounds_toArray, List.set_cons_zero, List.set_cons_succ]
  refine wpAnyH_take (i := 1) (oi := _) (v := ?_) rfl (by kernel_rfl) (by kernel_rfl) (by kernel_rfl) (fun _ _ _ h => h) (Or.inl ⟨by rfl, ?_⟩) hHeld ?_
  rotate_left
  · (intro w' hSw; (try dsimp only at hSw); go_simp <;> with_reducible rfl)
  try simp only [Act.put, List.getElem_toArray, List.getElem_cons_succ, List.getElem_cons_zero, List.setIfInBounds_toArray, List.set_cons_zero, List.set_cons_succ]
  refine wpAnyH_ready (rs := [2]) (by kernel_rfl) (by simp) (AllReadyH.cons (o := _) rfl (fun K hK => ?_) AllReadyH.nil)
  try simp only [Act.put, List.getElem_toArray, List.getElem_cons_succ, List.getElem_cons_zero, List.setIfInBounds_toArray, List.set_cons_zero, List.set_cons_succ]
  go_simp
  go_at_call 20
  refine (CTO.out _ (b1.trans (b0.mono b1.size))).mono ?_
  rintro e W ⟨v9, col9, rfl, o9, d⟩
  have p9 := o9.crd
  replace b0 := b0.trans (d.mono b0.size)
  clear d
  refine hK.out _ _ (HH.out _ b0) (fun hHeld => ?_)
  clear hK K
  try simp only [Act.put, List.getElem_toArray, List.getElem_cons_succ, List.getElem_cons_zero, List.setIfInBounds_toArray, List.set_cons_zero, List.set_cons_succ]
  refine wpAnyH_ready (rs := [3]) (by kernel_rfl) (by simp) (AllReadyH.cons (o := _) rfl (fun K hK => ?_) AllReadyH.nil)
  try simp only [Act.put, List.getElem_toArray, List.getElem_cons_succ, List.getElem_cons_zero, List.setIfInBounds_toArray, List.set_cons_zero, List.set_cons_succ]
  go_simp
  go_at_call 22
  refine (eqCoordinator_is _ _ q _ (HX.out _ (bX.trans (b0.mono bX.size))) p9 HFT.out).mono ?_
  rintro e W ⟨rfl, d⟩
  replace b0 := b0.trans (d.mono b0.size)
  clear d
  refine hK.out _ _ (HH.out _ b0) (fun hHeld => ?_)
  clear hK K
  try simp only [Act.put, List.getElem_toArray, List.getElem_cons_succ, List.getElem_cons_zero, List.setIfInBounds_toArray, List.set_cons_zero, List.set_cons_succ]
  refine wpAnyH_take (i := 4) (oi := _) (v := ?_) rfl (by kernel_rfl) (by kernel_rfl) (by kernel_rfl) (fun _ _ _ h => h) (Or.inl ⟨by rfl, ?_⟩) hHeld ?_
  rotate_left
  · (intro w' hSw; (try dsimp only at hSw); go_simp <;> with_reducible rfl)
  try simp only [Act.put, List.getElem_toArray, List.getElem_cons_succ, List.getElem_cons_zero, List.setIfInBounds_toArray, List.set_cons_zero, List.set_cons_succ]
  refine wpAnyH_done (by kernel_rfl) ?_ _
  clear hHeld HH o9 p9
  replace b1 := b1.trans ((b0).mono b1.size)
  replace x0 := x0.later b0
  try replace bS := bS.trans ((b0).mono bS.size)
  try replace bX := bX.trans ((b0).mono bX.size)
  try replace bG := bG.trans ((b0).mono bG.size)
  try replace b5 := b5.trans ((b0).mono b5.size)
  try replace kG := kG.trans (Keeps.of_below b0 _)
  try replace kQ := kQ.trans (Keeps.of_below b0 _)
  try replace bQ := bQ.trans ((b0).mono bQ.size)
  try replace xb := xb.later b0
  try replace xw := xw.later b0
  try replace xg := xg.later b0
  try clear ya0 ya1
  try clear yb0 yb1
  try clear yw0 yw1
  try clear yg0 yg1
  obtain ⟨ya0, ya1, -⟩ := id x0.reads
  try obtain ⟨yb0, yb1, -⟩ := id xb.reads
  try obtain ⟨yw0, yw1, -⟩ := id xw.reads
  try obtain ⟨yg0, yg1, -⟩ := id xg.reads
  clear b0
  go_wp2_with fail
  refine (CTL.out _ b1).mono ?_
  rintro e w9 ⟨g9, rfl, l9, d⟩
  replace b1 := b1.trans ((d).mono b1.size)
  replace x0 := x0.later d
  try replace bS := bS.trans ((d).mono bS.size)
  try replace bX := bX.trans ((d).mono bX.size)
  try replace bG := bG.trans ((d).mono bG.size)
  try replace b5 := b5.trans ((d).mono b5.size)
  try replace kG := kG.trans (Keeps.of_below d _)
  try replace kQ := kQ.trans (Keeps.of_below d _)
  try replace bQ := bQ.trans ((d).mono bQ.size)
  try replace xb := xb.later d
  try replace xw := xw.later d
  try replace xg := xg.later d
  try clear ya0 ya1
  try clear yb0 yb1
  try clear yw0 yw1
  try clear yg0 yg1
  obtain ⟨ya0, ya1, -⟩ := id x0.reads
  try obtain ⟨yb0, yb1, -⟩ := id xb.reads
  try obtain ⟨yw0, yw1, -⟩ := id xw.reads
  try obtain ⟨yg0, yg1, -⟩ := id xg.reads
  clear d
  go_wp2_with fail
  refine (eqShardS_is _ _ _ _ ss w9 (HX6.out _ bS) l9.shl HFL.out.1 HFL.out.2).mono ?_
  rintro e w10 ⟨rfl, d⟩
  replace b1 := b1.trans ((d).mono b1.size)
  replace x0 := x0.later d
  try replace bS := bS.trans ((d).mono bS.size)
  try replace bX := bX.trans ((d).mono bX.size)
  try replace bG := bG.trans ((d).mono bG.size)
  try replace b5 := b5.trans ((d).mono b5.size)
  try replace kG := kG.trans (Keeps.of_below d _)
  try replace kQ := kQ.trans (Keeps.of_below d _)
  try replace bQ := bQ.trans ((d).mono bQ.size)
  try replace xb := xb.later d
  try replace xw := xw.later d
  try replace xg := xg.later d
  try clear ya0 ya1
  try clear yb0 yb1
  try clear yw0 yw1
  try clear yg0 yg1
  obtain ⟨ya0, ya1, -⟩ := id x0.reads
  try obtain ⟨yb0, yb1, -⟩ := id xb.reads
  try obtain ⟨yw0, yw1, -⟩ := id xw.reads
  try obtain ⟨yg0, yg1, -⟩ := id xg.reads
  clear d l9
  go_wp2
  go_ret
  exact .mk_ b1
end Go.Proofs.YteaibflloeipaaaGreatDoor
