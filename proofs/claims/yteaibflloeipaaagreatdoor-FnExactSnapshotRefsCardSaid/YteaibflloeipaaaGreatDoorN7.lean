/- Walks for the exact law on SnapshotRefs: merged texts of this seat. -/
import Derived.Test.YteaibflloeipaaaGreatDoorN6
import Derived.Deep.Cut
set_option linter.unusedSimpArgs false
set_option linter.unusedVariables false
namespace Go.Proofs.YteaibflloeipaaaGreatDoor
open Go.RowKit Wo Pu Rf Lk Sh
def BegO (w : World) (e : Ending) (w' : World) : Prop := ∃ A c A2 c2, e = .returned (.agg #[.slice A 4 c, .slice A2 4 c2]) ∧ OwnI w' w.heap.size (.slice A 4 c) [-1, -1, -1, -1] ∧ 4 ≤ c ∧ OwnI w' w.heap.size (.slice A2 4 c2) [-1, -1, -1, -1] ∧ 4 ≤ c2 ∧ Below w.heap.size w w'
set_option maxRecDepth 100000 in
set_option maxHeartbeats 4000000 in
theorem l21Begin_own (w : World) : Calls Tryz.prog 85 #[] w (BegO w) := by
  obtain ⟨i0, hi, hz0, hz1, hz2⟩ := info_of info_int
  have x0 := (Blk2s.new_ w 119 (.slice none 0 0) (.slice none 0 0)).alloc (.cells #[.slice none 0 0, .slice none 0 0] 119)
  have x1 := Blk2s.new_ (w.alloc (.cells #[.slice none 0 0, .slice none 0 0] 119)) 119 (.slice none 0 0) (.slice none 0 0)
  have b1 := ((Below.refl w.heap.size w).alloc (Nat.le_refl _) (.cells #[.slice none 0 0, .slice none 0 0] 119)).alloc (by simp) (.cells #[.slice none 0 0, .slice none 0 0] 119)
  rw [World.size_alloc] at x1
  have E0 : BegE w w.heap.size (w.heap.size + 1) 0 0 (.slice none 0 0) (.slice none 0 0) _ := ⟨x0, x1, ⟨Nat.le_refl _, by omega, Nat.le_succ _⟩, ⟨rfl, .inl ⟨rfl, rfl⟩⟩, ⟨rfl, .inl ⟨rfl, rfl⟩⟩, fun g h => (by cases h), b1⟩
  clear x0 x1 b1
  go_enter Tryz.func85, Tryz.ntmps85
  go_wp2_with fail
  go_loopw [2] (fun i wr => ∃ (k : Nat) (v u : Value), k ≤ 4 ∧ i = .int .i64 k ∧ BegE w w.heap.size (w.heap.size + 1) k k v u wr) (fun i _ => 4 - (intOf i).toNat)
  case atStart => exact ⟨0, _, _, Nat.zero_le _, rfl, E0⟩
  case round =>
    clear E0
    obtain ⟨k, v, u, hk, rfl, E⟩ := hrel
    obtain ⟨y0, y1, -⟩ := id E.2.1.reads
    have hz := E.size
    by_cases hlt : k < 4
    · have q1 : (k : Int) < 4 := by omega
      go_wp2_with (first
        | (at_builtin; refine wpList_append_lies _ rfl _ _ 24 rfl w.heap.size 3 i0 (.int .i64 0) 1 8 Tryz.underlying24 hi hz0 hz1 hz2 rfl (by decide) _ k _ rfl (World.ownsRow.alloc E.row0 _) ⟨wr.heap.size, 0, none⟩ 1 1 [.int .i64 (-1)] rfl rfl (cell_one_new _ _ _) (one_int _) (by omega) (by unfold maxLen; omega) (by omega) (by simp; omega) (wr.heap.size + 1) (by simp) ?_; intro gg cap w7 hown hg hat hlt7; have EE := E.add0 hown hg hat; obtain ⟨⟨t0, tf⟩, E7⟩ := EE; obtain ⟨s0, s1, -⟩ := id E7.2.1.reads; have z7 := E7.size)
        | (at_builtin; go_loud (refine wpList_append_lies _ rfl _ _ 24 rfl w.heap.size 3 i0 (.int .i64 0) 1 8 Tryz.underlying24 hi hz0 hz1 hz2 rfl (by decide) _ k _ rfl (World.ownsRow.alloc E7.row1 _) ⟨w7.heap.size, 0, none⟩ 1 1 [.int .i64 (-1)] rfl rfl (one_after _ _ _ _ _) (one_int _) (by omega) (by unfold maxLen; omega) (by omega) (by simp at z7 ⊢; omega) (w7.heap.size + 1) (by simp) ?_; intro gg2 cap2 w8 hown2 hg2 hat2 hlt8; have EE2 := E7.add1 hown2 hg2 (hat2.imp id (fun e => by simpa using e)); obtain ⟨⟨t2, tf2⟩, E8⟩ := EE2)))
      go_roundw
      case rel => exact ⟨k + 1, _, _, by omega, by go_num, E8⟩
      case measure => simp [intOf]; omega
    · have hk' : k = 4 := by omega
      subst hk'
      obtain ⟨E1, E2, E3, E4, E5, E6, E7⟩ := E
      obtain ⟨A, c, e4, r4, hc⟩ := E4.form
      obtain ⟨A2, c2, e5, r5, hc2⟩ := E5.form
      rw [nones_length] at e4 hc e5 hc2
      subst e4 e5
      obtain ⟨t0, t1, tf⟩ := id E1.reads
      have tf0 := tf 0
      have tf1 := tf 1
      have o1 := (E4.keptT (by decide) (but_set wr w.heap.size 0 (.slice A 4 c)) (blk_type E1)).keptT (by decide) (but_set _ w.heap.size 1 (.slice A2 4 c2)) (blk_type (E1.set0 _))
      have o2 := (E5.keptT (by decide) (but_set wr w.heap.size 0 (.slice A 4 c)) (blk_type E1)).keptT (by decide) (but_set _ w.heap.size 1 (.slice A2 4 c2)) (blk_type (E1.set0 _))
      have b7 := (E7.setCell (p := ⟨w.heap.size, 0, none⟩) (Nat.le_refl _) (.slice A 4 c)).setCell (p := ⟨w.heap.size, 1, none⟩) (Nat.le_refl _) (.slice A2 4 c2)
      obtain ⟨p0, p1, -⟩ := ((E1.set0 (.slice A 4 c)).set1 (.slice A2 4 c2)).reads
      obtain ⟨A', c', e, r6, -⟩ := o1.form
      obtain ⟨A2', c2', e2, r7, -⟩ := o2.form
      injection e with e q1 q2
      injection e2 with e2 q3 q4
      clear q1 q2 q3 q4
      subst e e2
      have H6 : Hid (OwnI _ w.heap.size (.slice A 4 c) [-1, -1, -1, -1]) := o1
      have H7 : Hid (OwnI _ w.heap.size (.slice A2 4 c2) [-1, -1, -1, -1]) := o2
      clear o1 o2 r4 r5 r6 r7 E2 E3 E4 E5 E6 E7
      go_wp2
      refine bodyPost_ret (v := .agg #[.slice A 4 c, .slice A2 4 c2]) (by simp [results, Tryz.results85, go_sem, p0, p1]) rfl ⟨A, c, A2, c2, rfl, H6.out, hc, H7.out, hc2, b7⟩
end Go.Proofs.YteaibflloeipaaaGreatDoor
namespace Go.Proofs.YteaibflloeipaaaGreatDoor
open Go.RowKit Wo Pu Rf Lk Sh Co Si
set_option linter.unusedVariables false
set_option linter.unusedSimpArgs false
def VlS (ss : List (List Rec)) (k : Nat) : Prop := ∀ j (hj : j < ss.length), j < k → Vld ss[j]
theorem VlS.zero (ss : List (List Rec)) : VlS ss 0 := fun _ _ h => absurd h (Nat.not_lt_zero _)
theorem VlS.next {ss : List (List Rec)} {k : Nat} (h : VlS ss k) (hk : k < ss.length) (e : Vld ss[k]) : VlS ss (k + 1) := fun i hi hl => by
  by_cases ei : i = k
  · subst ei; exact e
  · exact h i hi (by omega)
theorem VlS.all {ss : List (List Rec)} (h : VlS ss ss.length) : ∀ rs ∈ ss, Vld rs := fun r hr => by
  obtain ⟨j, hj, rfl⟩ := List.mem_iff_getElem.1 hr
  exact h j hj hj
set_option maxRecDepth 100000 in
set_option maxHeartbeats 4000000 in
theorem l31Shards_is (b : Bool) (A3 : Option Addr) (c3 : Nat) (ss : List (List Rec)) (w : World) (hl : ShL w w.heap.size A3 ss) (hfr : ∀ rs ∈ ss, FitR rs) (hm : ss.length ≤ 1048576) (hb : b = true ↔ (∀ rs ∈ ss, Vld rs) ∧ ss.length = 3) :
    Calls Tryz.prog 38 #[.slice A3 ss.length c3] w (Ret (.bool b) w) := by
  have HB := hid hb
  clear hb
  go_enter Tryz.func38, Tryz.ntmps38
  go_wp2_with fail
  go_loopw [3] (fun i wr => ∃ k : Nat, k ≤ ss.length ∧ i = .int .i64 k ∧ Hid (VlS ss k) ∧ Below w.heap.size w wr) (fun i _ => ss.length - (intOf i).toNat)
  case atStart => exact ⟨0, Nat.zero_le _, rfl, .zero _, Below.refl _ _⟩
  case round =>
    obtain ⟨k, hk, rfl, H, hb⟩ := hrel
    by_cases hlt : k < ss.length
    · obtain ⟨rs, ad, A', c', ho, rfl, had, hc9, hcc, hrec⟩ := (hl.below hb (Nat.le_refl _)).at_ hlt
      obtain ⟨bk, hbk⟩ := bool_ofP (Vld rs)
      have k0 : (0 : Int) ≤ (k : Int) := by omega
      have k1 : (k : Int) < (ss.length : Int) := by omega
      have CX := hid (specShardValid_is bk (shV A' rs.length c') rs wr ⟨A', c', rfl, hrec.more hb.size, hcc⟩ (hfr rs (by rw [← ho]; exact List.getElem_mem hlt)) hbk)
      unfold shV at CX
      have HK : Hid (bk = true ↔ Vld ss[k]) := by show _ ↔ _; rw [ho]; exact hbk
      clear ho hbk hrec
      go_wp2_with fail
      refine CX.out.mono ?_
      rintro e w5 ⟨rfl, d⟩
      replace hb := hb.trans (d.mono hb.size)
      clear CX d hc9
      cases bk with
      | true =>
        have HN := hid (H.out.next hlt (HK.out.1 rfl))
        clear H HK
        go_wp2
        go_roundw
        case rel => exact ⟨k + 1, by omega, by go_num, HN, hb⟩
        case measure => simp [intOf]; omega
      | false =>
        have F : Hid (b = false) := by
          show b = false
          rw [← Bool.not_eq_true]
          exact fun e => by have := HK.out.2 ((HB.out.1 e).1 _ (List.getElem_mem hlt)); cases this
        clear H HK HB
        go_wp2
        go_ret
        rw [F.out]
        exact .mk_ hb
    · have hk' : k = ss.length := by omega
      subst hk'
      by_cases h3 : ss.length = 3
      · have F : Hid (b = true) := HB.out.2 ⟨H.out.all, h3⟩
        have e0 : ((ss.length : Int) == 3) = true := by rw [beq_iff_eq]; omega
        clear H HB h3
        go_wp2
        go_ret
        rw [F.out]
        exact .mk_ hb
      · have F : Hid (b = false) := by
          show b = false
          rw [← Bool.not_eq_true]
          exact fun e => h3 (HB.out.1 e).2
        have e0 : ((ss.length : Int) == 3) = false := by rw [beq_eq_false_iff_ne]; omega
        clear H HB h3
        go_wp2
        go_ret
        rw [F.out]
        exact .mk_ hb
set_option maxRecDepth 100000 in
set_option maxHeartbeats 8000000 in
theorem l31Have_is (b : Bool) (v : Value) (q : Crd) (A3 : Option Addr) (c3 : Nat) (ss : List (List Rec)) (n : Nat) (w : World) (h : Crdd w w.heap.size v q) (hl : ShL w w.heap.size A3 ss) (hv : SV q ss) (hf : FitC q) (hfr : ∀ rs ∈ ss, FitR rs) (hn : n < q.ts.length) (hb : b = haveB q ss (n : Int)) :
    Calls Tryz.prog 39 #[v, .slice A3 ss.length c3, .int .i64 (n : Int)] w (Ret (.bool b) w) := by
  have HI : Hid (b = true ↔ ∀ j (hj : j < q.ts[n].ps.length), ∃ k, ∃ hk : k < ss.length, q.ts[n].ps[j].s = (k : Int) ∧ Sh.ask ss[k] (n : Int) = 2) := by
    show _ ↔ _
    rw [hb]
    exact haveB_iff hv hn
  have HV := hid hv
  have HF := hid hf
  clear hb
  obtain ⟨A, c, A2, c2, rfl, hT, hc, -, hc2⟩ := h
  have h1 := hf.ts
  clear hv hf
  unfold crV at *
  have b1 := (Below.refl w.heap.size w).alloc (Nat.le_refl _) (.cells #[.slice A q.ts.length c, .slice A2 q.os.length c2] 26)
  have x0 := Blk2s.new_ w 26 (.slice A q.ts.length c) (.slice A2 q.os.length c2)
  go_enter Tryz.func39, Tryz.ntmps39
  go_upto_region 1 with fail
  obtain ⟨w1, hw1⟩ : ∃ x, w.alloc (.cells #[.slice A q.ts.length c, .slice A2 q.os.length c2] 26) = x := ⟨_, rfl⟩
  rw [hw1] at b1 x0 ⊢
  clear hw1
  obtain ⟨y0, y1, -⟩ := id x0.reads
  obtain ⟨t, ad, A', c', A9, c9, ho, rfl, had, g0, -, -, -, -, g5, -⟩ := hT.tx hn
  replace g0 := (b1.cell had).trans g0
  rw [ho] at HI
  have hps := (HF.out.ps t (by rw [← ho]; exact List.getElem_mem hn)).1
  have htv := hid (HV.out.cv.txs t (by rw [← ho]; exact List.getElem_mem hn)).parts
  have h3 := hid HV.out.n
  have i0 : (0 : Int) ≤ (n : Int) := by omega
  have i1 : (n : Int) < (q.ts.length : Int) := by omega
  clear ho
  go_wp2_with fail
  go_loopw [8] (fun i wr => ∃ j : Nat, j ≤ t.ps.length ∧ i = .int .i64 j ∧ Hid (HasTo ss t n j) ∧ Below w.heap.size w wr) (fun i _ => t.ps.length - (intOf i).toNat)
  case atStart => exact ⟨0, Nat.zero_le _, rfl, .zero _ _ _, b1⟩
  case round =>
    clear x0 b1 y0 y1 g0
    obtain ⟨j, hj, rfl, H, hb⟩ := hrel
    have hz := hb.size
    by_cases hlt : j < t.ps.length
    · obtain ⟨p, adp, A5, c5, hop, rfl, hbp, p0, p1, -, -⟩ := (g5.below hb (Nat.le_refl _)).part hlt
      have hpr := htv.out.2.1 p (by rw [← hop]; exact List.getElem_mem hlt)
      obtain ⟨k, hk⟩ := Int.eq_ofNat_of_zero_le hpr.1
      have hk3 : k < ss.length := by rw [h3.out]; omega
      obtain ⟨rs, ad3, A6, c6, ho3, rfl, had3, hc9, hcc, hrec⟩ := (hl.below hb (Nat.le_refl _)).at_ hk3
      have j0 : (0 : Int) ≤ (j : Int) := by omega
      have j1 : (j : Int) < (t.ps.length : Int) := by omega
      have k0 : (0 : Int) ≤ (k : Int) := by omega
      have k1 : (k : Int) < (ss.length : Int) := by omega
      rw [hk] at p0
      obtain ⟨a, hae⟩ : ∃ a, Sh.ask rs (n : Int) = a := ⟨_, rfl⟩
      have hfk := hfr rs (by rw [← ho3]; exact List.getElem_mem hk3)
      have CX := hid (l21Ask_is a A6 c6 rs (n : Int) wr _ hrec (by have := hfk.1; omega) hae)
      have HA : Hid (Sh.ask ss[k] (n : Int) = a) := by show _ = _; rw [ho3]; exact hae
      have HP := hid (hop ▸ hk : t.ps[j].s = (k : Int))
      clear hae hop hk ho3 hrec hpr hfk
      go_wp2_with fail
      refine CX.out.mono ?_
      rintro e w5 ⟨rfl, rfl⟩
      clear CX
      by_cases ha : a = 2
      · have e0 : (a != 2) = false := by rw [bne_eq_false_iff_eq]; exact ha
        have HN := hid (H.out.next hlt hk3 HP.out (by rw [HA.out]; exact ha))
        clear ha H HA HP
        go_wp2
        go_roundw
        case rel => exact ⟨j + 1, by omega, by go_num, HN, hb⟩
        case measure => simp [intOf]; omega
      · have e0 : (a != 2) = true := by rw [bne_iff_ne]; exact ha
        have F : Hid (b = false) := by
          show b = false
          rw [← Bool.not_eq_true]
          intro e
          obtain ⟨k', hk', e1, e2⟩ := HI.out.1 e j hlt
          have ek : k' = k := by have := HP.out; omega
          subst ek
          exact ha (HA.out.symm.trans e2)
        clear ha H HA HP HI
        go_wp2
        go_ret
        rw [F.out]
        exact .mk_ hb
    · have hj' : j = t.ps.length := by omega
      subst hj'
      have F : Hid (b = true) := HI.out.2 fun j hj => H.out j hj hj
      clear HI H
      go_wp2
      go_ret
      rw [F.out]
      exact .mk_ hb
end Go.Proofs.YteaibflloeipaaaGreatDoor
namespace Go.Proofs.YteaibflloeipaaaGreatDoor
open Go.RowKit Wo Pu Rf Lk Sh Co Si
set_option linter.unusedVariables false
set_option linter.unusedSimpArgs false
set_option maxRecDepth 100000 in
set_option maxHeartbeats 16000000 in
theorem specSnapshotReady_is (z : Int) (v : Value) (q : Crd) (A3 : Option Addr) (c3 : Nat) (ss : List (List Rec)) (w : World) (h : Crdd w w.heap.size v q) (hl : ShL w w.heap.size A3 ss) (hf : FitC q) (hfr : ∀ rs ∈ ss, FitR rs) (hm : ss.length ≤ 1048576) (hz : ReadyO q ss z) :
    Calls Tryz.prog 12 #[v, .slice A3 ss.length c3] w (Ret (.int .i64 z) w) := by
  obtain ⟨bv, hbv⟩ := bool_ofP' (CV q)
  obtain ⟨bs, hbs⟩ := bool_ofP ((∀ rs ∈ ss, Vld rs) ∧ ss.length = 3)
  have HZ := hid hz
  have HBV := hid hbv
  have HBS := hid hbs
  have CVal : Hid (∀ y, Below w.heap.size w y → Calls Tryz.prog 37 #[v] y (Ret (.bool bv) y)) := fun y hy => specCoordinatorValid_is bv v q y (h.on hy hy.size) hf hbv
  have CSh : Hid (∀ y, Below w.heap.size w y → Calls Tryz.prog 38 #[.slice A3 ss.length c3] y (Ret (.bool bs) y)) := fun y hy => l31Shards_is bs A3 c3 ss y (hl.on hy) hfr hm hbs
  have CH : Hid (∀ (n : Nat) (b : Bool) y, Below w.heap.size w y → SV q ss → n < q.ts.length → b = haveB q ss (n : Int) → Calls Tryz.prog 39 #[v, .slice A3 ss.length c3, .int .i64 (n : Int)] y (Ret (.bool b) y)) := fun n b y hy hv hn hb => l31Have_is b v q A3 c3 ss n y (h.on hy hy.size) (hl.on hy) hv hf hfr hn hb
  have hf2 := hf.os
  obtain ⟨A, c, A2, c2, rfl, -, hc, hO, hc2⟩ := h
  clear hl hf hfr hbv hbs hz
  unfold crV at *
  have b1 := (Below.refl w.heap.size w).alloc (Nat.le_refl _) (.cells #[.slice A q.ts.length c, .slice A2 q.os.length c2] 26)
  have x0 := Blk2s.new_ w 26 (.slice A q.ts.length c) (.slice A2 q.os.length c2)
  go_enter Tryz.func12, Tryz.ntmps12
  go_upto_region 1 with fail
  obtain ⟨w1, hw1⟩ : ∃ x, w.alloc (.cells #[.slice A q.ts.length c, .slice A2 q.os.length c2] 26) = x := ⟨_, rfl⟩
  rw [hw1] at b1 x0 ⊢
  clear hw1
  obtain ⟨y0, y1, -⟩ := id x0.reads
  go_wp2_with fail
  refine (CVal.out _ b1).mono ?_
  rintro e w2 ⟨rfl, d⟩
  replace b1 := b1.trans (d.mono b1.size)
  replace x0 := x0.later d
  clear y0 y1 d CVal
  obtain ⟨y0, y1, -⟩ := id x0.reads
  cases bv with
  | false =>
    have F : Hid (z = -1) := HZ.out.no fun e => by have := HBV.out.2 e.cv; cases this
    clear HZ HBV HBS CSh CH
    go_wp2
    go_ret
    rw [F.out]
    exact .mk_ b1
  | true =>
    have HVq := hid (HBV.out.1 rfl)
    go_wp2_with fail
    refine (CSh.out _ b1).mono ?_
    rintro e w3 ⟨rfl, d⟩
    replace b1 := b1.trans (d.mono b1.size)
    replace x0 := x0.later d
    clear y0 y1 d CSh
    obtain ⟨y0, y1, -⟩ := id x0.reads
    cases bs with
    | false =>
      have F : Hid (z = -1) := HZ.out.no fun e => by have := HBS.out.2 ⟨e.vld, e.n⟩; cases this
      clear HZ HBV HBS CH
      go_wp2
      go_ret
      rw [F.out]
      exact .mk_ b1
    | true =>
      have hs2 := HBS.out.1 rfl
      have HSV : Hid (SV q ss) := ⟨HVq.out, hs2.2, hs2.1⟩
      have F := hid (HZ.out.yes HSV.out)
      clear HZ HBV HBS hs2
      go_wp2_with fail
      go_loopw [5] (fun i wr => ∃ k : Nat, k ≤ q.os.length ∧ i = .int .i64 k ∧ Hid (RdTo q ss k) ∧ Blk2s wr w.heap.size 26 (.slice A q.ts.length c) (.slice A2 q.os.length c2) ∧ Below w.heap.size w wr) (fun i _ => q.os.length - (intOf i).toNat)
      case atStart => exact ⟨0, Nat.zero_le _, rfl, .zero _ _, x0, b1⟩
      case round =>
        clear x0 b1 y0 y1
        obtain ⟨k, hk, rfl, H, x0, hb⟩ := hrel
        have hz := hb.size
        obtain ⟨y0, y1, -⟩ := id x0.reads
        by_cases hlt : k < q.os.length
        · obtain ⟨n, hn, eo, -⟩ := HVq.out.order.2 _ (List.getElem_mem hlt)
          obtain ⟨ad, rfl, hbl, hc9⟩ := (hO.below hb (Nat.le_refl _)).int_ hlt
          rw [eo] at hc9
          have HC9 : Hid (∀ x, Below w.heap.size wr x → x.cell? (ad.add k) = some (.int .i64 (n : Int))) := fun x hx => (hx.cell (by unfold Addr.add; split <;> exact hbl)).trans hc9
          have k0 : (0 : Int) ≤ (k : Int) := by omega
          have k1 : (k : Int) < (q.os.length : Int) := by omega
          obtain ⟨b, hbe⟩ : ∃ b, haveB q ss (n : Int) = b := ⟨_, rfl⟩
          have CX := hid fun (y : World) (hy : Below w.heap.size w y) => CH.out n b y hy HSV.out hn hbe.symm
          have HB : Hid (haveB q ss q.os[k] = b) := by show _ = b; rw [eo]; exact hbe
          clear eo hbe
          go_upto_region 4 with fail
          refine wp_region_held_drew (S := fun x => x.cell? ⟨w.heap.size, 0, none⟩ = some (.slice A q.ts.length c) ∧ x.cell? ⟨w.heap.size, 1, none⟩ = some (.slice (some ad) q.os.length c2) ∧ x.cell? (ad.add k) = some (.int .i64 (n : Int))) (by kernel_rfl) ⟨y0, y1, hc9⟩ (fun hHeld => ?_)
          have dr := (Below.refl wr.heap.size wr).drew
          obtain ⟨w7, hW⟩ : ∃ x, wr.drew = x := ⟨_, rfl⟩
          rw [hW] at dr hHeld ⊢
          replace x0 := x0.later dr
          have dx := dr.mono hz
          replace hb := hb.trans dx
          clear hW y0 y1 hc9 dr
          try simp only [Act.put, List.getElem_toArray, List.getElem_cons_succ, List.getElem_cons_zero, List.setIfInBounds_toArray, List.set_cons_zero, List.set_cons_succ]
          refine wpAnyH_take (i := 0) (oi := _) (v := ?_) rfl (by kernel_rfl) (by kernel_rfl) (by kernel_rfl) (fun _ _ _ h => h) (Or.inl ⟨by rfl, ?_⟩) hHeld ?_
          rotate_left
          · (intro w' hSw; (try dsimp only at hSw); go_simp <;> with_reducible rfl)
          try simp only [Act.put, List.getElem_toArray, List.getElem_cons_succ, List.getElem_cons_zero, List.setIfInBounds_toArray, List.set_cons_zero, List.set_cons_succ]
          refine wpAnyH_take (i := 1) (oi := _) (v := ?_) rfl (by kernel_rfl) (by kernel_rfl) (by kernel_rfl) (fun _ _ _ h => h) (Or.inl ⟨by rfl, ?_⟩) hHeld ?_
          rotate_left
          · (intro w' hSw; (try dsimp only at hSw); go_simp <;> with_reducible rfl)
          try simp only [Act.put, List.getElem_toArray, List.getElem_cons_succ, List.getElem_cons_zero, List.setIfInBounds_toArray, List.set_cons_zero, List.set_cons_succ]
          refine wpAnyH_take (i := 2) (oi := _) (v := ?_) rfl (by kernel_rfl) (by kernel_rfl) (by kernel_rfl) (fun _ _ _ h => h) (Or.inl ⟨by rfl, ?_⟩) hHeld ?_
          rotate_left
          · (intro w' hSw; (try dsimp only at hSw); go_simp <;> with_reducible rfl)
          try simp only [Act.put, List.getElem_toArray, List.getElem_cons_succ, List.getElem_cons_zero, List.setIfInBounds_toArray, List.set_cons_zero, List.set_cons_succ]
          refine wpAnyH_take (i := 3) (oi := _) (v := ?_) rfl (by kernel_rfl) (by kernel_rfl) (by kernel_rfl) (fun _ _ _ h => h) (Or.inl ⟨by rfl, ?_⟩) hHeld ?_
          rotate_left
          · (intro w' hSw; (try dsimp only at hSw); go_simp <;> with_reducible rfl)
          try simp only [Act.put, List.getElem_toArray, List.getElem_cons_succ, List.getElem_cons_zero, List.setIfInBounds_toArray, List.set_cons_zero, List.set_cons_succ]
          refine wpAnyH_take (i := 4) (oi := _) (v := ?_) rfl (by kernel_rfl) (by kernel_rfl) (by kernel_rfl) (fun _ _ _ h => h) (Or.inl ⟨by rfl, ?_⟩) hHeld ?_
          rotate_left
          · (intro w' hSw; (try dsimp only at hSw); go_simp <;> with_reducible rfl)
          try simp only [Act.put, List.getElem_toArray, List.getElem_cons_succ, List.getElem_cons_zero, List.setIfInBounds_toArray, List.set_cons_zero, List.set_cons_succ]
          refine wpAnyH_take (i := 5) (oi := _) (v := ?_) rfl (by kernel_rfl) (by kernel_rfl) (by kernel_rfl) (fun _ _ _ h => h) (Or.inl ⟨by rfl, ?_⟩) hHeld ?_
          rotate_left
          · (intro w' hSw; (try dsimp only at hSw); go_simp <;> with_reducible rfl)
          try simp only [Act.put, List.getElem_toArray, List.getElem_cons_succ, List.getElem_cons_zero, List.setIfInBounds_toArray, List.set_cons_zero, List.set_cons_succ]
          refine wpAnyH_take (i := 6) (oi := _) (v := ?_) rfl (by kernel_rfl) (by kernel_rfl) (by kernel_rfl) (fun _ _ _ h => h) (Or.inl ⟨by rfl, ?_⟩) hHeld ?_
          rotate_left
          · (intro w' hSw; (try dsimp only at hSw); go_simp <;> with_reducible rfl)
          try simp only [Act.put, List.getElem_toArray, List.getElem_cons_succ, List.getElem_cons_zero, List.setIfInBounds_toArray, List.set_cons_zero, List.set_cons_succ]
          refine wpAnyH_take (i := 7) (oi := _) (v := ?_) rfl (by kernel_rfl) (by kernel_rfl) (by kernel_rfl) (fun _ _ _ h => h) (Or.inl ⟨by rfl, ?_⟩) hHeld ?_
          rotate_left
          · (intro w' hSw; (try dsimp only at hSw); go_simp <;> with_reducible rfl)
          try simp only [Act.put, List.getElem_toArray, List.getElem_cons_succ, List.getElem_cons_zero, List.setIfInBounds_toArray, List.set_cons_zero, List.set_cons_succ]
          refine wpAnyH_take (i := 8) (oi := _) (v := ?_) rfl (by kernel_rfl) (by kernel_rfl) (by kernel_rfl) (fun _ _ _ h => h) (Or.inl ⟨by rfl, ?_⟩) hHeld ?_
          rotate_left
          · (intro w' hSw; (try dsimp only at hSw); go_simp <;> with_reducible rfl)
          try simp only [Act.put, List.getElem_toArray, List.getElem_cons_succ, List.getElem_cons_zero, List.setIfInBounds_toArray, List.set_cons_zero, List.set_cons_succ]
          refine wpAnyH_take (i := 9) (oi := _) (v := ?_) rfl (by kernel_rfl) (by kernel_rfl) (by kernel_rfl) (fun _ _ _ h => h) (Or.inl ⟨by rfl, ?_⟩) hHeld ?_
          rotate_left
          · (intro w' hSw; (try dsimp only at hSw); go_simp <;> with_reducible rfl)
          try simp only [Act.put, List.getElem_toArray, List.getElem_cons_succ, List.getElem_cons_zero, List.setIfInBounds_toArray, List.set_cons_zero, List.set_cons_succ]
          refine wpAnyH_take (i := 10) (oi := _) (v := ?_) rfl (by kernel_rfl) (by kernel_rfl) (by kernel_rfl) (fun _ _ _ h => h) (Or.inl ⟨by rfl, ?_⟩) hHeld ?_
          rotate_left
          · (intro w' hSw; (try dsimp only at hSw); go_simp <;> with_reducible rfl)
          try simp only [Act.put, List.getElem_toArray, List.getElem_cons_succ, List.getElem_cons_zero, List.setIfInBounds_toArray, List.set_cons_zero, List.set_cons_succ]
          refine wpAnyH_take (i := 11) (oi := _) (v := ?_) rfl (by kernel_rfl) (by kernel_rfl) (by kernel_rfl) (fun _ _ _ h => h) (Or.inl ⟨by rfl, ?_⟩) hHeld ?_
          rotate_left
          · (intro w' hSw; (try dsimp only at hSw); go_simp <;> with_reducible rfl)
          try simp only [Act.put, List.getElem_toArray, List.getElem_cons_succ, List.getElem_cons_zero, List.setIfInBounds_toArray, List.set_cons_zero, List.set_cons_succ]
          refine wpAnyH_take (i := 12) (oi := _) (v := ?_) rfl (by kernel_rfl) (by kernel_rfl) (by kernel_rfl) (fun _ _ _ h => h) (Or.inl ⟨by rfl, ?_⟩) hHeld ?_
          rotate_left
          · (intro w' hSw; (try dsimp only at hSw); go_simp <;> with_reducible rfl)
          try simp only [Act.put, List.getElem_toArray, List.getElem_cons_succ, List.getElem_cons_zero, List.setIfInBounds_toArray, List.set_cons_zero, List.set_cons_succ]
          refine wpAnyH_ready (rs := [13]) (by kernel_rfl) (by simp) (AllReadyH.cons (o := _) rfl (fun K hK => ?_) AllReadyH.nil)
          try simp only [Act.put, List.getElem_toArray, List.getElem_cons_succ, List.getElem_cons_zero, List.setIfInBounds_toArray, List.set_cons_zero, List.set_cons_succ]
          go_simp
          go_at_call 39
          refine (CX.out w7 hb).mono ?_
          rintro e w8 ⟨rfl, d⟩
          replace x0 := x0.later d
          replace dx := dx.trans (d.mono hb.size)
          replace hb := hb.trans (d.mono hb.size)
          clear d CX
          refine hK.out _ _ ⟨x0.reads.1, x0.reads.2.1, HC9.out _ dx⟩ (fun hHeld => ?_)
          clear hK K
          try simp only [Act.put, List.getElem_toArray, List.getElem_cons_succ, List.getElem_cons_zero, List.setIfInBounds_toArray, List.set_cons_zero, List.set_cons_succ]
          refine wpAnyH_take (i := 14) (oi := _) (v := ?_) rfl (by kernel_rfl) (by kernel_rfl) (by kernel_rfl) (fun _ _ _ h => h) (Or.inl ⟨by rfl, ?_⟩) hHeld ?_
          rotate_left
          · (intro w' hSw; (try dsimp only at hSw); go_simp <;> with_reducible rfl)
          try simp only [Act.put, List.getElem_toArray, List.getElem_cons_succ, List.getElem_cons_zero, List.setIfInBounds_toArray, List.set_cons_zero, List.set_cons_succ]
          refine wpAnyH_done (by kernel_rfl) ?_ _
          clear hHeld HC9 dx
          cases b with
          | true =>
            have HN := hid (H.out.next hlt HB.out)
            clear H HB
            go_wp2
            go_roundw
            case rel => exact ⟨k + 1, by omega, by go_num, HN, x0, hb⟩
            case measure => simp [intOf]; omega
          | false =>
            have F2 : Hid (z = (k : Int)) := by
              show _ = _
              rw [F.out, readyN_eq (Nat.le_of_lt hlt) H.out (fun _ => HB.out)]
            clear H HB CH F
            go_wp2
            go_ret
            rw [F2.out]
            exact .mk_ hb
        · have hk' : k = q.os.length := by omega
          subst hk'
          have F2 : Hid (z = (q.os.length : Int)) := by
            show _ = _
            rw [F.out, readyN_eq (Nat.le_refl _) H.out (fun h => absurd h (Nat.lt_irrefl _))]
          clear H CH F
          go_wp2
          go_quiet (fail)
          go_wp2
          go_ret
          rw [F2.out]
          exact .mk_ (Wo.Below.drewN hb _)
end Go.Proofs.YteaibflloeipaaaGreatDoor
namespace Go.Proofs.YteaibflloeipaaaGreatDoor
open Go.RowKit Wo Pu Rf Lk Sh
section
variable {B D : Nat} {w w1 w2 : World}
theorem OwnRecF.only {C : Nat} {v : Value} {rs : List Rec} (h : OwnRecF w C v rs) (k : OnlyBD B D w w1) (hD : D ≤ C) : OwnRecF w1 C v rs := by
  obtain ⟨xs, h1, h2, h3⟩ := h
  refine ⟨xs, k.row h1 hD, fun j hj => ?_, h3⟩
  obtain ⟨A, c, q0, q1, q2, q3, q4⟩ := h2 j hj
  exact ⟨A, c, q0, q1, q2, q3, k.row q4 hD⟩
theorem OwnShF.only {C : Nat} {v : Value} {rs : List Rec} (h : OwnShF w C v rs) (k : OnlyBD B D w w1) (hD : D ≤ C) : OwnShF w1 C v rs := by
  obtain ⟨A, c, e, h1, h2⟩ := h
  exact ⟨A, c, e, h1.only k hD, h2⟩
theorem OwnRecF.keep {v : Value} {rs : List Rec} (h : OwnRecF w B v rs) (k : Keeps B w w1) : OwnRecF w1 B v rs := by
  obtain ⟨xs, h1, h2, h3⟩ := h
  refine ⟨xs, k.row h1, fun j hj => ?_, h3⟩
  obtain ⟨A, c, q0, q1, q2, q3, q4⟩ := h2 j hj
  exact ⟨A, c, q0, q1, q2, q3, k.row q4⟩
theorem OwnShF.keep {v : Value} {rs : List Rec} (h : OwnShF w B v rs) (k : Keeps B w w1) : OwnShF w1 B v rs := by
  obtain ⟨A, c, e, h1, h2⟩ := h
  exact ⟨A, c, e, h1.keep k, h2⟩
end
def kR (k0 : Nat) (rs : List Rec) (m : Nat) : Nat := k0 + ((rs.take m).map fun r => 2 + 3 * r.us.length).sum
theorem kR_zero (k0 : Nat) (rs : List Rec) : kR k0 rs 0 = k0 := rfl
theorem kR_succ {k0 : Nat} {rs : List Rec} {m : Nat} (hm : m < rs.length) : kR k0 rs (m + 1) = kR k0 rs m + (2 + 3 * rs[m].us.length) := by
  unfold kR
  rw [List.take_succ_eq_append_getElem hm, List.map_append, List.sum_append]
  simp
  omega
theorem kR_eq (k0 : Nat) (rs : List Rec) : ∀ m, m ≤ rs.length → kR k0 rs m = k0 + 2 * m + 3 * partSzR rs m := by
  intro m
  induction m with
  | zero => intro _; rfl
  | succ m ih =>
    intro h
    rw [kR_succ (by omega), ih (by omega), partSzR_succ (by omega)]
    omega
theorem kR_mono {k0 : Nat} {rs : List Rec} {m : Nat} (hm : m ≤ rs.length) : kR k0 rs m ≤ kR k0 rs rs.length := by
  have hp : ∀ k, m ≤ k → k ≤ rs.length → partSzR rs m ≤ partSzR rs k := by
    intro k
    induction k with
    | zero => intro h _; rw [show m = 0 by omega]; exact Nat.le_refl _
    | succ k ih =>
      intro a b
      rcases Nat.lt_or_ge k m with e | e
      · rw [show m = k + 1 by omega]; exact Nat.le_refl _
      · have := ih e (by omega)
        rw [partSzR_succ (by omega)]
        omega
  rw [kR_eq k0 rs m hm, kR_eq k0 rs rs.length (Nat.le_refl _)]
  have := hp rs.length hm (Nat.le_refl _)
  omega
theorem kR_le {k0 : Nat} {rs : List Rec} : kR k0 rs rs.length ≤ k0 + 3 * allSzR rs := by
  rw [kR_eq k0 rs rs.length (Nat.le_refl _)]
  unfold allSzR
  omega
def mkR (k : Nat) (r : Rec) : Rec := ⟨(k : Int), ((k + 1 : Nat) : Int), mksU (k + 2) r.us.length⟩
def BelR (xs : List Value) (n D : Nat) : Prop := ∀ i v q, i < n → xs[i * 3 + 2]? = some v → v.ownBlock = some q → q < D
def MixR (k0 : Nat) (w : World) (B D g c : Nat) (rs : List Rec) (m : Nat) : Prop :=
  ∃ xs, w.ownsRow B 128 3 (.slice (some ⟨g, 0, none⟩) rs.length c) rs.length xs ∧ (∀ j (hj : j < rs.length), RecIs w B xs j (if j < m then mkR (kR k0 rs j) rs[j] else rs[j])) ∧ AptR xs rs.length ∧ BelR xs rs.length D ∧ g < D
theorem MixR.begin_ {w : World} {B g c k0 : Nat} {rs : List Rec} (h : OwnRecF w B (.slice (some ⟨g, 0, none⟩) rs.length c) rs) : MixR k0 w B w.heap.size g c rs 0 := by
  obtain ⟨xs, h1, h2, h3⟩ := h
  exact ⟨xs, h1, fun j hj => by rw [if_neg (Nat.not_lt_zero _)]; exact h2 j hj, h3, fun i v q hi hv hq => ((h2 i hi).lt v q hv hq).2, (World.ownsRow.lt h1 g rfl).2⟩
theorem MixR.step {w : World} {B D g c k0 m : Nat} {rs : List Rec} (h : MixR k0 w B D g c rs m) (hm : m < rs.length) (K : Nat) (hK : K = kR k0 rs m) :
    ∃ (A : Option Addr) (c' : Nat), (∃ v, w.cell? ⟨g, m * 3, none⟩ = some v) ∧ (∃ v, w.cell? ⟨g, m * 3 + 1, none⟩ = some v) ∧ (∀ o, w.frozen? ⟨g, o, none⟩ = false) ∧ w.cell? ⟨g, m * 3 + 2, none⟩ = some (.slice A rs[m].us.length c') ∧ (B ≤ g ∧ g < D) ∧
      OwnUps ((w.setCell ⟨g, m * 3, none⟩ (.int .i64 (K : Nat))).setCell ⟨g, m * 3 + 1, none⟩ (.int .i64 ((K : Int) + 1))) B (.slice A rs[m].us.length c') rs[m].us ∧ (∀ q, (Value.slice A rs[m].us.length c').ownBlock = some q → B ≤ q ∧ q < D) ∧
      ∀ R w2, InB A R → (A = none → w.heap.size ≤ R) → But R ((w.setCell ⟨g, m * 3, none⟩ (.int .i64 (K : Nat))).setCell ⟨g, m * 3 + 1, none⟩ (.int .i64 ((K : Int) + 1))) w2 → OwnUps w2 B (.slice A rs[m].us.length c') (mksU (K + 2) rs[m].us.length) → MixR k0 w2 B D g c rs (m + 1) := by
  obtain ⟨xs, h1, h2, h3, h4, h5⟩ := h
  have hl := h1.1
  obtain ⟨A, c', q0, q1, q2, q3, q4⟩ := h2 m hm
  rw [if_neg (Nat.lt_irrefl m)] at q0 q1 q2 q3 q4
  have s1 := (World.ownsRow.stored h1 (m * 3) (.int .i64 (K : Nat))).1
  have s2 := (World.ownsRow.stored s1 (m * 3 + 1) (.int .i64 ((K : Int) + 1))).1
  have keep : ∀ {u : Value} {us : List Up}, OwnUps w B u us → OwnUps ((w.setCell ⟨g, m * 3, none⟩ (.int .i64 (K : Nat))).setCell ⟨g, m * 3 + 1, none⟩ (.int .i64 ((K : Int) + 1))) B u us := fun {u us} h =>
    (h.keptT (by decide) (but_set w g (m * 3) _) (fun q hq => row_typed h1 q (by injection hq with hq; rw [← hq]; rfl))).keptT (by decide) (but_set _ g (m * 3 + 1) _) (fun q hq => row_typed s1 q (by injection hq with hq; rw [← hq]; rfl))
  have rd : ∀ j, j < rs.length * 3 → w.cell? ⟨g, j, none⟩ = xs[j]? := fun j hj => World.ownsRow.cellAt h1 j hj
  have t : ∀ j d, j < rs.length → d < 3 → (j ≠ m ∨ d = 2) → ((xs.set (m * 3) (.int .i64 (K : Nat))).set (m * 3 + 1) (.int .i64 ((K : Int) + 1)))[j * 3 + d]? = xs[j * 3 + d]? := fun j d hj hd hne => by
    rw [List.getElem?_set_ne (by omega), List.getElem?_set_ne (by omega)]
  refine ⟨A, c', ⟨_, (rd _ (by omega)).trans (List.getElem?_eq_getElem (by omega))⟩, ⟨_, (rd _ (by omega)).trans (List.getElem?_eq_getElem (by omega))⟩, fun o => World.ownsRow.frozenAt h1 o, (rd _ (by omega)).trans q2, ⟨(World.ownsRow.lt h1 g rfl).1, h5⟩, keep q4, fun q hq => ⟨(World.ownsRow.lt q4 q hq).1, h4 m _ q hm q2 hq⟩, fun R w2 hR hN hb ho => ?_⟩
  have hty : ∀ q, some R = some q → A ≠ none → ∃ cur fr, ((w.setCell ⟨g, m * 3, none⟩ (.int .i64 (K : Nat))).setCell ⟨g, m * 3 + 1, none⟩ (.int .i64 ((K : Int) + 1))).heap[q]? = some (.cells cur 164 fr) := fun q hq hA => by
    injection hq with hq
    subst hq
    rcases A with _ | ad
    · exact absurd rfl hA
    · have := hR ad rfl
      have k4 := keep q4
      refine row_typed k4 R ?_
      rw [← this]
      rfl
  have big : A = none → ∀ {C n sz : Nat} {e : TypeId} {u : Value} {ys : List Value}, ((w.setCell ⟨g, m * 3, none⟩ (.int .i64 (K : Nat))).setCell ⟨g, m * 3 + 1, none⟩ (.int .i64 ((K : Int) + 1))).ownsRow C e sz u n ys → w2.ownsRow C e sz u n ys := fun hA {C n sz e u ys} hr => by
    refine World.ownsRow.kept hr hb ?_
    rcases hu : u.ownBlock with _ | q
    · exact .inl rfl
    · refine .inr fun e => ?_
      injection e with e
      have h1 := (World.ownsRow.lt hr q hu).2
      have h2 := hN hA
      simp [World.setCell] at h1
      omega
  refine ⟨(xs.set (m * 3) (.int .i64 (K : Nat))).set (m * 3 + 1) (.int .i64 ((K : Int) + 1)), ?_, fun j hj => ?_, fun i j a b hi hj hij ha hb' => ?_, fun i v q hi hv hq => ?_, h5⟩
  · rcases A with _ | ad
    · exact big rfl s2
    · exact row_far_type s2 (by decide) hb (fun q hq => hty q hq (by simp))
  · by_cases e : j = m
    · subst e
      rw [if_pos (Nat.lt_succ_self _)]
      have e2 : (mkR (kR k0 rs j) rs[j]).us.length = rs[j].us.length := mksU_length _ _
      refine ⟨A, c', ?_, ?_, ?_, ?_, ?_⟩
      · rw [List.getElem?_set_ne (by omega), List.getElem?_set_self (by omega), hK]; rfl
      · rw [List.getElem?_set_self (by simp; omega), hK]; rfl
      · rw [e2, t j 2 hj (by omega) (.inr rfl)]; exact q2
      · rw [e2]; exact q3
      · rw [e2]
        rw [hK] at ho
        exact ho
    · have e3 : (if j < m + 1 then mkR (kR k0 rs j) rs[j] else rs[j]) = (if j < m then mkR (kR k0 rs j) rs[j] else rs[j]) := by
        by_cases hjm : j < m
        · rw [if_pos hjm, if_pos (by omega)]
        · rw [if_neg hjm, if_neg (by omega)]
      rw [e3]
      obtain ⟨A2, c2, r0, r1, r2, r3, r4⟩ := h2 j hj
      refine ⟨A2, c2, by rw [show j * 3 = j * 3 + 0 from rfl, t j 0 hj (by omega) (.inl e)]; exact r0, by rw [t j 1 hj (by omega) (.inl e)]; exact r1, by rw [t j 2 hj (by omega) (.inl e)]; exact r2, r3, ?_⟩
      have k4 := keep r4
      rcases A with _ | ad
      · exact big rfl k4
      · refine World.ownsRow.kept k4 hb ?_
        rcases hu : (Value.slice A2 (if j < m then mkR (kR k0 rs j) rs[j] else rs[j]).us.length c2).ownBlock with _ | q
        · exact .inl rfl
        · refine .inr fun e9 => ?_
          injection e9 with e9
          have := h3 j m _ _ hj hm e r2 q2 q hu
          apply this
          show some ad.block = some q
          rw [hR ad rfl, e9]
  · rw [t i 2 hi (by omega) (.inr rfl)] at ha
    rw [t j 2 hj (by omega) (.inr rfl)] at hb'
    exact h3 i j a b hi hj hij ha hb'
  · rw [t i 2 hi (by omega) (.inr rfl)] at hv
    exact h4 i v q hi hv hq
end Go.Proofs.YteaibflloeipaaaGreatDoor
namespace Go.Proofs.YteaibflloeipaaaGreatDoor
open Go.RowKit Wo Pu Rf Lk Sh
set_option linter.unusedVariables false
set_option linter.unusedSimpArgs false
theorem OnlyBD.wide {B D B' D' : Nat} {w w1 : World} (h : OnlyBD B D w w1) (hB : B' ≤ B) (hD : D ≤ D') : OnlyBD B' D' w w1 := ⟨h.os, h.tape, h.output, h.size, fun k hk hc => h.block k hk fun e => hc ⟨by omega, by omega⟩⟩
def OwnRecD (w : World) (B D : Nat) (v : Value) (rs : List Rec) : Prop :=
  ∃ xs, w.ownsRow B 128 3 v rs.length xs ∧ (∀ j (hj : j < rs.length), RecIs w B xs j rs[j]) ∧ AptR xs rs.length ∧ BelR xs rs.length D ∧ ∀ g, v.ownBlock = some g → g < D
section
variable {w w1 : World} {B D : Nat} {v : Value} {rs : List Rec}
theorem OwnRecD.of_ (h : OwnRecF w B v rs) : OwnRecD w B w.heap.size v rs := by
  obtain ⟨xs, h1, h2, h3⟩ := h
  exact ⟨xs, h1, h2, h3, fun i v q hi hv hq => ((h2 i hi).lt v q hv hq).2, fun g hg => (World.ownsRow.lt h1 g hg).2⟩
theorem OwnRecD.f (h : OwnRecD w B D v rs) : OwnRecF w B v rs := by
  obtain ⟨xs, h1, h2, h3, -, -⟩ := h
  exact ⟨xs, h1, h2, h3⟩
theorem OwnRecD.keep (h : OwnRecD w B D v rs) (k : Keeps B w w1) : OwnRecD w1 B D v rs := by
  obtain ⟨xs, h1, h2, h3, h4, h5⟩ := h
  refine ⟨xs, k.row h1, fun j hj => ?_, h3, h4, h5⟩
  obtain ⟨A, c, q0, q1, q2, q3, q4⟩ := h2 j hj
  exact ⟨A, c, q0, q1, q2, q3, k.row q4⟩
end
theorem kR_add (k0 : Nat) (rs : List Rec) (m : Nat) : kR k0 rs m = k0 + kR 0 rs m := by unfold kR; omega
def kL (k0 : Nat) (ss : List (List Rec)) (m : Nat) : Nat := k0 + ((ss.take m).map fun rs => kR 0 rs rs.length).sum
theorem kL_succ {k0 : Nat} {ss : List (List Rec)} {m : Nat} (hm : m < ss.length) : kL k0 ss (m + 1) = kR (kL k0 ss m) ss[m] ss[m].length := by
  rw [kR_add]
  unfold kL
  rw [List.take_succ_eq_append_getElem hm, List.map_append, List.sum_append]
  simp
  omega
theorem kL_le {k0 : Nat} {ss : List (List Rec)} : ∀ m, m ≤ ss.length → kL k0 ss m ≤ k0 + 3 * partSzL ss m := by
  intro m
  induction m with
  | zero => intro _; simp [kL]
  | succ m ih =>
    intro h
    rw [kL_succ (by omega), kR_add, partSzL_succ (by omega)]
    have := ih (by omega)
    have := kR_le (k0 := 0) (rs := ss[m])
    omega
theorem partSzL_mono {ss : List (List Rec)} {m : Nat} : ∀ k, m ≤ k → k ≤ ss.length → partSzL ss m ≤ partSzL ss k := by
  intro k
  induction k with
  | zero => intro h _; rw [show m = 0 by omega]; exact Nat.le_refl _
  | succ k ih =>
    intro a b
    rcases Nat.lt_or_ge k m with e | e
    · rw [show m = k + 1 by omega]; exact Nat.le_refl _
    · have := ih e (by omega)
      rw [partSzL_succ (by omega)]
      omega
def FilD (w : World) (B D g : Nat) (ss : List (List Rec)) (m k : Nat) : Prop :=
  ∃ (xs : List Value) (bs : Nat → Nat), w.ownsRow B 37 1 (.slice (some ⟨g, 0, none⟩) ss.length ss.length) ss.length xs ∧ g < bs 0 ∧ (∀ i j, i ≤ j → bs i ≤ bs j) ∧ bs k ≤ D ∧
    ∀ j (hj : j < ss.length), m ≤ j → j < k → ∃ (A : Option Addr) (c : Nat), xs[j]? = some (.slice A ss[j].length c) ∧ ss[j].length ≤ c ∧ OwnRecD w (bs j) (bs (j + 1)) (.slice A ss[j].length c) ss[j]
section
variable {w w1 : World} {B D g k m : Nat} {ss : List (List Rec)}
theorem FilD.low (h : FilD w B D g ss m k) : B ≤ g := by
  obtain ⟨xs, bs, h1, -⟩ := h
  exact (World.ownsRow.lt h1 g rfl).1
theorem FilD.keep (h : FilD w B D g ss m k) (hk : Keeps B w w1) : FilD w1 B D g ss m k := by
  obtain ⟨xs, bs, h1, h2, h3, h4, h5⟩ := h
  have hg := (World.ownsRow.lt h1 g rfl).1
  refine ⟨xs, bs, hk.row h1, h2, h3, h4, fun j hj hm hjk => ?_⟩
  obtain ⟨A, c, q0, q1, q2⟩ := h5 j hj hm hjk
  have := h3 0 j (Nat.zero_le _)
  exact ⟨A, c, q0, q1, q2.keep ⟨hk.1, fun i hi hs => hk.2 i (by omega) hs⟩⟩
theorem FilD.cell1 {i : Nat} (h : FilD w B D g ss m k) (hk : i < ss.length) : (∃ v, w.cell? ⟨g, i, none⟩ = some v) ∧ w.frozen? ⟨g, i, none⟩ = false ∧ B ≤ g := by
  obtain ⟨xs, bs, hm, _⟩ := h
  have hlen := hm.1
  exact ⟨⟨_, (World.ownsRow.cellAt hm i (by omega)).trans (List.getElem?_eq_getElem (by omega))⟩, World.ownsRow.frozenAt hm i, (World.ownsRow.lt hm g rfl).1⟩
theorem FilD.step {A : Option Addr} {c : Nat} (hk : k < ss.length) (h : FilD w B w.heap.size g ss m k) (d : Below w.heap.size w w1) (hc : ss[k].length ≤ c) (hl : OwnRecF w1 w.heap.size (.slice A ss[k].length c) ss[k]) :
    FilD (w1.setCell ⟨g, k, none⟩ (.slice A ss[k].length c)) B w1.heap.size g ss m (k + 1) := by
  obtain ⟨xs, bs, h1, h2, h3, h4, h5⟩ := h
  have hlen := h1.1
  have hz := d.size
  have hg := (World.ownsRow.lt h1 g rfl).2
  have h1' := own_below h1 d (Nat.le_refl _)
  have s1 := (World.ownsRow.stored h1' k (.slice A ss[k].length c)).1
  have keep : ∀ {C D : Nat} {u : Value} {rs : List Rec}, g < C → OwnRecD w1 C D u rs → OwnRecD (w1.setCell ⟨g, k, none⟩ (.slice A ss[k].length c)) C D u rs := fun {C D u rs} hC h => h.keep (Keeps.of_only (OnlyBD.of_but (B := g) (D := g + 1) (but_set w1 g k _) (.inl ⟨Nat.le_refl _, Nat.lt_succ_self _⟩)) hC)
  refine ⟨_, fun j => if j ≤ k then bs j else w1.heap.size, s1, ?_, fun i j hij => ?_, ?_, fun j hj hm hjk => ?_⟩
  · simpa using h2
  · have := h3 i j hij
    have := h3 i k
    dsimp only
    split <;> split <;> omega
  · dsimp only
    rw [if_neg (by omega)]; exact Nat.le_refl _
  · dsimp only
    by_cases e : j = k
    · subst e
      rw [if_pos (Nat.le_refl _), if_neg (by omega)]
      have h0 := h3 0 j (Nat.zero_le _)
      exact ⟨A, c, by rw [List.getElem?_set_self (by omega)], hc, keep (by omega) (OwnRecD.of_ (hl.base h4))⟩
    · rw [if_pos (by omega), if_pos (by omega)]
      obtain ⟨A2, c2, q0, q1, q2⟩ := h5 j hj hm (by omega)
      have h0 := h3 0 j (Nat.zero_le _)
      refine ⟨A2, c2, by rw [List.getElem?_set_ne (by omega)]; exact q0, q1, keep (by omega) (q2.keep (Keeps.of_below d _))⟩
theorem FilD.fil (h : FilD w B D g ss 0 ss.length) : FilS w B g ss ss.length := by
  obtain ⟨xs, bs, h1, h2, h3, h4, h5⟩ := h
  have hg := (World.ownsRow.lt h1 g rfl).1
  refine ⟨xs, h1, fun j hj hk => ?_⟩
  obtain ⟨A, c, q0, q1, q2⟩ := h5 j hj (Nat.zero_le _) hk
  have h0 := h3 0 j (Nat.zero_le _)
  exact ⟨A, c, q0, q1, q2.f.base (by omega)⟩
theorem FilD.round (h : FilD w B D g ss m ss.length) (hm : m < ss.length) :
    ∃ (A : Option Addr) (c b0 b1 : Nat), w.cell? ⟨g, m, none⟩ = some (.slice A ss[m].length c) ∧ OwnRecD w b0 b1 (.slice A ss[m].length c) ss[m] ∧ B ≤ b0 ∧ b1 ≤ D ∧ ∀ w2, OnlyBD b0 b1 w w2 → FilD w2 B D g ss (m + 1) ss.length := by
  obtain ⟨xs, bs, h1, h2, h3, h4, h5⟩ := h
  have hg := (World.ownsRow.lt h1 g rfl).1
  have hlen := h1.1
  obtain ⟨A, c, q0, q1, q2⟩ := h5 m hm (Nat.le_refl _) hm
  have h0 := h3 0 m (Nat.zero_le _)
  have h6 := h3 (m + 1) ss.length hm
  refine ⟨A, c, bs m, bs (m + 1), (World.ownsRow.cellAt h1 m (by omega)).trans q0, q2, by omega, by omega, fun w2 ho => ⟨xs, bs, ?_, h2, h3, h4, fun j hj hmj hjk => ?_⟩⟩
  · exact row_same h1 fun g' hg' => by
      have e : g = g' := by simpa [Value.ownBlock] using hg'
      subst e
      exact ho.block g (World.ownsRow.lt h1 g rfl).2 (by omega)
  · obtain ⟨A2, c2, r0, r1, r2⟩ := h5 j hj (by omega) hjk
    have := h3 (m + 1) j hmj
    exact ⟨A2, c2, r0, r1, r2.keep (Keeps.of_only ho this)⟩
end
def NewD (ss : List (List Rec)) (w : World) (e : Ending) (w' : World) : Prop := ∃ g, e = .returned (.slice (some ⟨g, 0, none⟩) ss.length ss.length) ∧ FilD w' w.heap.size w'.heap.size g ss 0 ss.length ∧ Below w.heap.size w w'
set_option maxHeartbeats 4000000 in
theorem toShardS_D (A : Option Addr) (c : Nat) (ss : List (List Rec)) (w : World) (h : ShL w w.heap.size A ss) (hn : ss.length ≤ 1048576) (hs : ∀ rs ∈ ss, FitR rs) :
    Calls Tryz.prog 21 #[.slice A ss.length c] w (NewD ss w) := by
  obtain ⟨i0, hi, hz0, hz1, hz2⟩ := info_of info_shard
  go_enter Tryz.func21, Tryz.ntmps21
  go_wp2_with (at_make; go_must (refine wpList_make_full _ rfl (.tmp 6) (.tmp 6) 27 rfl w.heap.size 37 i0 (.agg #[.slice none 0 0]) 1 Tryz.underlying27 hi hz0 hz1 .i64 .i64 ss.length ss.length ss.length rfl rfl rfl rfl (by rw [hz2]; omega) (by unfold maxLen; omega) (Nat.le_refl _) ?_); intro w1 hown hg)
  have hb1 : Below w.heap.size w w1 := (Below.refl _ _).grown hg (Nat.le_refl _) (by simp)
  have f1 : FilD w1 w.heap.size w1.heap.size w.heap.size ss 0 0 := ⟨_, fun _ => w1.heap.size, hown, (World.ownsRow.lt hown _ rfl).2, fun _ _ _ => Nat.le_refl _, Nat.le_refl _, fun j _ _ hj => absurd hj (by omega)⟩
  clear hown hg
  go_loopw [4] (fun i wr => ∃ k : Nat, k ≤ ss.length ∧ i = .int .i64 k ∧ FilD wr w.heap.size wr.heap.size w.heap.size ss 0 k ∧ Below w.heap.size w wr) (fun i _ => ss.length - (intOf i).toNat)
  case atStart => exact ⟨0, Nat.zero_le _, rfl, f1, hb1⟩
  case round =>
    clear f1 hb1
    obtain ⟨k, hk, rfl, hf, hb⟩ := hrel
    by_cases hlt : k < ss.length
    · obtain ⟨rs, ad, A', c', hre, rfl, ha, g0, hcc, hrec⟩ := (h.below hb (Nat.le_refl _)).at_ hlt
      have hsk := hs rs (by rw [← hre]; exact List.getElem_mem hlt)
      have k0 : 0 ≤ (k : Int) := by omega
      have k1 : (k : Int) < (ss.length : Int) := by omega
      have CX := hid (toShard_any (shV A' rs.length c') rs wr ⟨A', c', rfl, hrec.more hb.size, hcc⟩ hsk)
      unfold shV at CX
      have HRE := hid hre
      clear hre hrec
      go_wp2_with fail
      refine CX.out.mono ?_
      rintro e w2 ⟨v2, rfl, o2, d2⟩
      have hf2 := hf.keep (Keeps.of_below d2 _)
      have hb2 := hb.trans (d2.mono hb.size)
      obtain ⟨A2, c2, rfl, o3, hc2⟩ := o2
      unfold shV
      obtain ⟨⟨u0, y0⟩, y1, hBg⟩ := hf2.cell1 hlt
      have hst : Hid (FilD (w2.setCell ⟨w.heap.size, k, none⟩ (.slice A2 rs.length c2)) w.heap.size (w2.setCell ⟨w.heap.size, k, none⟩ (.slice A2 rs.length c2)).heap.size w.heap.size ss 0 (k + 1)) := by
        have e := HRE.out
        subst e
        have := hf.step hlt d2 hc2 o3
        show FilD _ _ _ _ _ _ _
        rw [show (w2.setCell ⟨w.heap.size, k, none⟩ (.slice A2 ss[k].length c2)).heap.size = w2.heap.size by simp [World.setCell]]
        exact this
      clear hf hf2 o3 d2 CX HRE g0
      go_wp2_with fail
      go_roundw
      case rel => exact ⟨k + 1, by omega, by go_num, hst.out, hb2.setCell (Nat.le_refl _) _⟩
      case measure => simp [intOf]; omega
    · have hk' : k = ss.length := by omega
      subst hk'
      go_wp2
      go_ret
      exact ⟨_, rfl, hf, hb⟩
set_option maxRecDepth 100000 in
set_option maxHeartbeats 4000000 in
theorem markRecordS_k (k0 B D g c : Nat) (rs : List Rec) (w : World) (h0 : MixR k0 w B D g c rs 0) (_ : D ≤ w.heap.size) (hf : FitR rs) (h1 : 1 ≤ k0) (hk : kR k0 rs rs.length ≤ 4000000) :
    Calls Tryz.prog 57 #[.slice (some ⟨g, 0, none⟩) rs.length c, .int .i64 (k0 : Int)] w (fun e w' => e = .returned (.int .i64 (kR k0 rs rs.length : Nat)) ∧ OnlyBD B D w w') := by
  have hf1 := hf.1
  have HF := hid hf.2
  have HKM : Hid (∀ m, m ≤ rs.length → kR k0 rs m ≤ 4000000) := fun m hm => Nat.le_trans (kR_mono hm) hk
  go_enter Tryz.func57, Tryz.ntmps57
  go_wp2_with fail
  go_loopw [1, 5] (fun q i wr => ∃ m K : Nat, m ≤ rs.length ∧ i = .int .i64 m ∧ q = .int .i64 (K : Nat) ∧ K ≤ 4000000 ∧ 1 ≤ K ∧ Hid (K = kR k0 rs m) ∧ MixR k0 wr B D g c rs m ∧ OnlyBD B D w wr) (fun _ i _ => rs.length - (intOf i).toNat)
  case atStart => exact ⟨0, k0, Nat.zero_le _, rfl, rfl, by have := HKM.out 0 (Nat.zero_le _); rwa [kR_zero] at this, h1, rfl, h0, OnlyBD.refl _ _ _⟩
  case round =>
    obtain ⟨m, K, hm, rfl, rfl, hK1, hK2, HK, hX, hO⟩ := hrel
    clear h0
    by_cases hlt : m < rs.length
    · obtain ⟨A, c', ⟨v0, c0⟩, ⟨v1, c1⟩, cf, c2, hgB, ou, hq, HN⟩ := hX.step hlt K HK.out
      have hk2 := HKM.out (m + 1) (by omega)
      have hks := kR_succ (k0 := k0) hlt
      have hul := HF.out _ (List.getElem_mem hlt)
      obtain ⟨us, hus⟩ : ∃ us, rs[m].us = us := ⟨_, rfl⟩
      rw [hus] at c2 ou hq HN hks hul
      rw [← HK.out] at hks
      have HKS := hid hks
      rw [hks] at hk2
      have hz := hO.size
      have f0 := cf (m * 3)
      have f1 := cf (m * 3 + 1)
      obtain ⟨R, hR1, hR2⟩ := inB_of A wr.heap.size
      have k0' : 0 ≤ (m : Int) := by omega
      have k1 : (m : Int) < (rs.length : Int) := by omega
      have HOS : Hid (OnlyBD B D w ((wr.setCell ⟨g, m * 3, none⟩ (.int .i64 (K : Nat))).setCell ⟨g, m * 3 + 1, none⟩ (.int .i64 ((K : Int) + 1)))) := (hO.trans (OnlyBD.of_but (but_set wr g (m * 3) _) (.inl hgB))).trans (OnlyBD.of_but (but_set _ g (m * 3 + 1) _) (.inl hgB))
      have HNN := hid HN
      have HRR : Hid ((B ≤ R ∧ R < D) ∨ wr.heap.size ≤ R) := by
        show _ ∨ _
        rcases A with _ | ad
        · exact .inr (by rw [hR2 rfl]; exact Nat.le_refl _)
        · have := hR1 ad rfl
          exact .inl (hq R (by rw [← this]; rfl))
      have e2 : ((K + 2 : Nat) : Int) = (K : Int) + 2 := by omega
      have HMU : Hid (∀ x : World, OwnUps x B (.slice A us.length c') us → Calls Tryz.prog 96 #[.slice A us.length c', .int .i64 ((K : Int) + 2)] x (UpsMarked ((K : Int) + 2 + 3 * (us.length : Int)) (.slice A us.length c') (K + 2) us.length R B x)) := fun x ho => by
        have := markUps_to ((K : Int) + 2 + 3 * (us.length : Int)) (K + 2) R B A c' us x ho hR1 hul (by omega) (by omega) (by omega)
        rwa [e2] at this
      have HOU := hid ou
      clear HN hX hO hks cf hq hus e2 ou
      go_wp2_with fail
      refine (HMU.out _ HOU.out).mono ?_
      rintro e w2 ⟨rfl, ho2, hb2⟩
      have X2 := HNN.out R w2 hR1 (fun e => by rw [hR2 e]; exact Nat.le_refl _) hb2 ho2
      have O2 := HOS.out.trans (OnlyBD.of_but hb2 (HRR.out.imp id (fun e => by simpa [World.setCell] using e)))
      have HK3 : Hid (K + 2 + 3 * us.length = kR k0 rs (m + 1)) := by show _ = _; rw [HKS.out]; omega
      clear HMU HNN HOS HOU ho2 hb2
      go_wp2_with fail
      go_roundw
      case rel => exact ⟨m + 1, K + 2 + 3 * us.length, by omega, by go_num, by congr 1, by omega, by omega, HK3, X2, O2⟩
      case measure => simp [intOf]; omega
    · have hm' : m = rs.length := by omega
      subst hm'
      go_wp2
      go_ret
      exact ⟨by rw [HK.out]; rfl, hO⟩
set_option maxHeartbeats 1000000 in
theorem markRecordS_D (k0 B D c : Nat) (A : Option Addr) (rs : List Rec) (w : World) (h : OwnRecD w B D (.slice A rs.length c) rs) (hD : D ≤ w.heap.size) (hf : FitR rs) (h1 : 1 ≤ k0) (hk : kR k0 rs rs.length ≤ 4000000) :
    Calls Tryz.prog 57 #[.slice A rs.length c, .int .i64 (k0 : Int)] w (fun e w' => e = .returned (.int .i64 (kR k0 rs rs.length : Nat)) ∧ OnlyBD B D w w') := by
  rcases Nat.eq_zero_or_pos rs.length with hz | hz
  · have hrs : rs = [] := List.eq_nil_of_length_eq_zero hz
    subst hrs
    rw [show kR k0 [] ([] : List Rec).length = k0 from rfl] at hk ⊢
    clear h hz hf hD
    have hO := OnlyBD.refl B D w
    go_enter Tryz.func57, Tryz.ntmps57
    go_wp2_with fail
    go_loopw [1, 5] (fun q i wr => i = .int .i64 0 ∧ q = .int .i64 (k0 : Int) ∧ w = wr) (fun _ _ _ => 0)
    case atStart => exact ⟨rfl, rfl, rfl⟩
    case round =>
      obtain ⟨rfl, rfl, rfl⟩ := hrel
      go_wp2
      go_ret
      exact ⟨rfl, hO⟩
  · obtain ⟨xs, a1, a2, a3, a4, a5⟩ := h
    obtain ⟨g, cap, e, hg1, hg2⟩ := World.ownsRow.form a1 hz
    injection e with eA _ ec
    subst eA
    exact markRecordS_k k0 B D g c rs w ⟨xs, a1, fun j hj => by rw [if_neg (Nat.not_lt_zero _)]; exact a2 j hj, a3, a4, a5 g rfl⟩ hD hf h1 hk
set_option maxRecDepth 100000 in
set_option maxHeartbeats 4000000 in
theorem markShardS_D (k0 B D g : Nat) (ss : List (List Rec)) (w : World) (h0 : FilD w B D g ss 0 ss.length) (hD : D ≤ w.heap.size) (hB : B ≤ D) (hn : ss.length ≤ 1048576) (hs : ∀ rs ∈ ss, FitR rs) (h1 : 1 ≤ k0) (hk : k0 + 3 * partSzL ss ss.length ≤ 4000000) :
    Calls Tryz.prog 26 #[.slice (some ⟨g, 0, none⟩) ss.length ss.length, .int .i64 (k0 : Int)] w (fun e w' => e = .returned (.int .i64 (kL k0 ss ss.length : Nat)) ∧ OnlyBD B D w w') := by
  have HF := hid hs
  have HKM : Hid (∀ m, m ≤ ss.length → kL k0 ss m ≤ 4000000) := fun m hm => by
    have := kL_le (k0 := k0) m hm
    have := partSzL_mono (ss := ss) ss.length hm (Nat.le_refl _)
    omega
  clear hk hs
  go_enter Tryz.func26, Tryz.ntmps26
  go_wp2_with fail
  go_loopw [1, 5] (fun q i wr => ∃ m K : Nat, m ≤ ss.length ∧ i = .int .i64 m ∧ q = .int .i64 (K : Nat) ∧ 1 ≤ K ∧ Hid (K = kL k0 ss m) ∧ FilD wr B D g ss m ss.length ∧ OnlyBD B D w wr) (fun _ i _ => ss.length - (intOf i).toNat)
  case atStart => exact ⟨0, k0, Nat.zero_le _, rfl, rfl, h1, rfl, h0, OnlyBD.refl _ _ _⟩
  case round =>
    obtain ⟨m, K, hm, rfl, rfl, hK2, HK, hX, hO⟩ := hrel
    clear h0
    by_cases hlt : m < ss.length
    · obtain ⟨A, c', b0, b1, g0, o0, hb0, hb1, HN⟩ := hX.round hlt
      have hfk := HF.out _ (List.getElem_mem hlt)
      have hks := kL_succ (k0 := k0) hlt
      have hk2 := HKM.out (m + 1) (by omega)
      rw [hks, ← HK.out] at hk2
      rw [← HK.out] at hks
      have hz := hO.size
      have CM := hid (markRecordS_D K b0 b1 c' A ss[m] wr o0 (by omega) hfk hK2 hk2)
      obtain ⟨rs, hrs⟩ : ∃ rs, ss[m] = rs := ⟨_, rfl⟩
      rw [hrs] at g0 CM hks
      have k0' : 0 ≤ (m : Int) := by omega
      have k1 : (m : Int) < (ss.length : Int) := by omega
      obtain ⟨K2, hK3⟩ : ∃ K2, kR K rs rs.length = K2 := ⟨_, rfl⟩
      rw [hK3] at CM hks
      have hK4 : 1 ≤ K2 := by rw [← hK3, kR_add]; omega
      have HK5 : Hid (K2 = kL k0 ss (m + 1)) := hks.symm
      have HNN := hid HN
      clear HN hX o0 hks hk2 hK3 hrs hfk
      go_wp2_with fail
      refine CM.out.mono ?_
      rintro e w2 ⟨rfl, ho⟩
      have X2 := HNN.out w2 ho
      have O2 := hO.trans (ho.wide hb0 hb1)
      clear HNN CM ho
      go_wp2_with fail
      go_roundw
      case rel => exact ⟨m + 1, K2, by omega, by go_num, rfl, hK4, HK5, X2, O2⟩
      case measure => simp [intOf]; omega
    · have hm' : m = ss.length := by omega
      subst hm'
      go_wp2
      go_ret
      exact ⟨by rw [HK.out]; rfl, hO⟩
end Go.Proofs.YteaibflloeipaaaGreatDoor
namespace Go.Proofs.YteaibflloeipaaaGreatDoor
open Go.RowKit Wo Pu Rf
set_option linter.unusedVariables false
def OwnLL (w : World) (B : Nat) (v : Value) (zss : List (List Int)) : Prop :=
  ∃ xs, w.ownsRow B 24 1 v zss.length xs ∧ (∀ i (hi : i < zss.length), ∃ (A : Option Addr) (c : Nat), xs[i]? = some (.slice A zss[i].length c) ∧ OwnI w B (.slice A zss[i].length c) zss[i]) ∧
    ∀ i j u v, i < zss.length → j < zss.length → i ≠ j → xs[i]? = some u → xs[j]? = some v → Ap2R u v
def RdLL (w : World) (B : Nat) (A : Option Addr) (zss : List (List Int)) : Prop :=
  zss = [] ∨ ∃ ad, A = some ad ∧ ad.block < B ∧ ∀ i (h : i < zss.length), ∃ (A' : Option Addr) (c : Nat), w.cell? (ad.add i) = some (.slice A' zss[i].length c) ∧ Row w B A' (ints zss[i])
section
variable {w w' : World} {B C : Nat} {v : Value} {A : Option Addr} {zss : List (List Int)}
theorem RdLL.below (h : RdLL w B A zss) (hb : Below C w w') (hC : B ≤ C) : RdLL w' B A zss := by
  rcases h with rfl | ⟨ad, e, ha, hh⟩
  · exact .inl rfl
  · refine .inr ⟨ad, e, ha, fun i hi => ?_⟩
    obtain ⟨A', c, h0, h1⟩ := hh i hi
    exact ⟨A', c, by rw [hb.cell (by rw [add_block]; omega)]; exact h0, h1.below hb hC⟩
theorem RdLL.at_ (h : RdLL w B A zss) {k : Nat} (hk : k < zss.length) : ∃ (zs : List Int) (ad : Addr) (A' : Option Addr) (c : Nat), zss[k] = zs ∧ A = some ad ∧ (ad.add k).block < B ∧ w.cell? (ad.add k) = some (.slice A' zs.length c) ∧ Row w B A' (ints zs) := by
  rcases h with rfl | ⟨ad, e, ha, hh⟩
  · simp at hk
  · obtain ⟨A', c, h0, h1⟩ := hh k hk
    exact ⟨_, ad, A', c, rfl, e, by rw [add_block]; exact ha, h0, h1⟩
theorem OwnLL.below (h : OwnLL w B v zss) (hb : Below w.heap.size w w') : OwnLL w' B v zss := by
  obtain ⟨xs, h1, h2, h3⟩ := h
  refine ⟨xs, own_below h1 hb (Nat.le_refl _), fun i hi => ?_, h3⟩
  obtain ⟨A, c, q0, q1⟩ := h2 i hi
  exact ⟨A, c, q0, q1.below hb (Nat.le_refl _)⟩
theorem OwnLL.nil_new (hB : B ≤ w.heap.size) : OwnLL (w.alloc (.cells #[] 24)) B (.slice (some ⟨w.heap.size, 0, none⟩) 0 0) [] :=
  ⟨[], nil_own hB _ _, fun i hi => absurd hi (by simp), fun i j u v hi => absurd hi (by simp)⟩
theorem OwnLL.form (h : OwnLL w B v zss) : ∃ A c, v = .slice A zss.length c := by
  obtain ⟨xs, h1, -⟩ := h
  rcases h1.2 with ⟨rfl, e⟩ | ⟨g, c, cur, rfl, -⟩
  · exact ⟨none, 0, by rw [e]⟩
  · exact ⟨_, _, rfl⟩
theorem OwnLL.rd (h : OwnLL w B v zss) : ∃ A c, v = .slice A zss.length c ∧ RdLL w w.heap.size A zss := by
  obtain ⟨xs, h1, h2, h3⟩ := h
  rcases Nat.eq_zero_or_pos zss.length with h0 | h0
  · obtain ⟨A, c, e⟩ := OwnLL.form ⟨xs, h1, h2, h3⟩
    exact ⟨A, c, e, .inl (List.length_eq_zero_iff.1 h0)⟩
  · obtain ⟨g, cap, e, hB, hg⟩ := World.ownsRow.form h1 h0
    subst e
    refine ⟨_, _, rfl, .inr ⟨_, rfl, hg, fun i hi => ?_⟩⟩
    obtain ⟨A, c, q0, q1⟩ := h2 i hi
    exact ⟨A, c, World.ownsRow.cells h1 (g := g) rfl i _ q0, q1.row.more (Nat.le_refl _)⟩
theorem OwnLL.app {w1 : World} {v' : Value} {A : Option Addr} {c D : Nat} {zs : List Int} {ys : List Value} (hys : ∀ i (hi : i < zss.length), ∃ (A : Option Addr) (c : Nat), ys[i]? = some (.slice A zss[i].length c) ∧ OwnI w B (.slice A zss[i].length c) zss[i])
    (hap : ∀ i j u v, i < zss.length → j < zss.length → i ≠ j → ys[i]? = some u → ys[j]? = some v → Ap2R u v) (hlen : ys.length = zss.length)
    (hold : ∀ i u g, i < zss.length → ys[i]? = some u → u.ownBlock = some g → g < D) (hnew : ∀ g, (Value.slice A zs.length c).ownBlock = some g → D ≤ g) (hz : OwnI w B (.slice A zs.length c) zs)
    (hown : w1.ownsRow B 24 1 v' (zss.length + 1) (ys ++ [.slice A zs.length c])) {row : Option Nat} (hg : w.grownBy w1 row) (hr : ∀ g, row = some g → ∃ cur fr, w.heap[g]? = some (.cells cur 24 fr)) :
    OwnLL w1 B v' (zss ++ [zs]) := by
  have keep : ∀ {u : Value} {xs : List Int}, OwnI w B u xs → OwnI w1 B u xs := fun h => row_far_type h (by decide) hg hr
  refine ⟨ys ++ [.slice A zs.length c], by rw [List.length_append]; exact hown, fun i hi => ?_, fun i j u v hi hj hij hu hv => ?_⟩
  · rw [List.length_append, List.length_singleton] at hi
    by_cases e : i < zss.length
    · obtain ⟨A2, c2, q0, q1⟩ := hys i e
      rw [List.getElem_append_left e]
      exact ⟨A2, c2, by rw [List.getElem?_append_left (by omega)]; exact q0, keep q1⟩
    · have ei : i = zss.length := by omega
      subst ei
      rw [List.getElem_append_right (Nat.le_refl _)]
      simp only [Nat.sub_self, List.getElem_cons_zero]
      exact ⟨A, c, by rw [List.getElem?_append_right (by omega), hlen]; simp, keep hz⟩
  · rw [List.length_append, List.length_singleton] at hi hj
    have low : ∀ i u, i < zss.length → (ys ++ [Value.slice A zs.length c])[i]? = some u → ys[i]? = some u := fun i u hi hu => by rwa [List.getElem?_append_left (by omega)] at hu
    have hi2 : ∀ u, (ys ++ [Value.slice A zs.length c])[zss.length]? = some u → u = .slice A zs.length c := fun u hu => by
      rw [List.getElem?_append_right (by omega), hlen] at hu
      simp at hu
      exact hu.symm
    by_cases ei : i < zss.length
    · by_cases ej : j < zss.length
      · exact hap i j u v ei ej hij (low i u ei hu) (low j v ej hv)
      · obtain rfl : j = zss.length := by omega
        rw [hi2 v hv]
        intro g h1 h2
        have := hold i u g ei (low i u ei hu) h1
        have := hnew g h2
        omega
    · obtain rfl : i = zss.length := by omega
      have ej : j < zss.length := by omega
      rw [hi2 u hu]
      intro g h1 h2
      have := hold j v g ej (low j v ej hv) h2
      have := hnew g h1
      omega
end
def SnapR (zss : List (List Int)) (b : Bool) (w : World) (e : Ending) (w' : World) : Prop := ∃ v, e = .returned (.tuple #[v, .bool b]) ∧ OwnLL w' w.heap.size v zss ∧ Below w.heap.size w w'
theorem info_ints2 : (Tryz.prog.info? 24).map (fun i => (i.zero, i.size, i.bytes)) = some (some (.slice none 0 0), 1, 24) := by kernel_rfl
end Go.Proofs.YteaibflloeipaaaGreatDoor
namespace Go.Proofs.YteaibflloeipaaaGreatDoor
open Go.RowKit Wo Pu Rf
set_option linter.unusedVariables false
set_option linter.unusedSimpArgs false
theorem OwnLL.only {B D C : Nat} {w w1 : World} {v : Value} {zss : List (List Int)} (h : OwnLL w C v zss) (k : OnlyBD B D w w1) (hD : D ≤ C) : OwnLL w1 C v zss := by
  obtain ⟨xs, h1, h2, h3⟩ := h
  refine ⟨xs, k.row h1 hD, fun i hi => ?_, h3⟩
  obtain ⟨A, c, q0, q1⟩ := h2 i hi
  exact ⟨A, c, q0, q1.only k hD⟩
theorem OwnLL.keep {C : Nat} {w w1 : World} {v : Value} {zss : List (List Int)} (h : OwnLL w C v zss) (k : Keeps C w w1) : OwnLL w1 C v zss := by
  obtain ⟨xs, h1, h2, h3⟩ := h
  refine ⟨xs, k.row h1, fun i hi => ?_, h3⟩
  obtain ⟨A, c, q0, q1⟩ := h2 i hi
  exact ⟨A, c, q0, k.row q1⟩
theorem OwnLL.put {B R k : Nat} {w w1 : World} {v : Value} {zss : List (List Int)} {A : Option Addr} {c : Nat} {zs : List Int} {xs : List Value} (h1 : w.ownsRow B 24 1 v zss.length xs) (h2 : ∀ i (hi : i < zss.length), ∃ (A : Option Addr) (c : Nat), xs[i]? = some (.slice A zss[i].length c) ∧ OwnI w B (.slice A zss[i].length c) zss[i])
    (h3 : ∀ i j u v, i < zss.length → j < zss.length → i ≠ j → xs[i]? = some u → xs[j]? = some v → Ap2R u v) (hk : k < zss.length) (q0 : xs[k]? = some (.slice A zss[k].length c)) (q1 : OwnI w B (.slice A zss[k].length c) zss[k]) (hR : (Value.slice A zss[k].length c).ownBlock = some R) (hb : But R w w1)
    (hl : zs.length = zss[k].length) (hz : OwnI w1 B (.slice A zss[k].length c) zs) : OwnLL w1 B v (zss.set k zs) := by
  refine ⟨xs, ?_, fun i hi => ?_, fun i j u v hi hj hij hu hv => ?_⟩
  · rw [List.length_set]
    exact row_far_type (T' := 3) h1 (by decide) hb fun g hg => by
      injection hg with hg
      subst hg
      exact row_typed q1 R hR
  · rw [List.length_set] at hi
    by_cases e : i = k
    · subst e
      rw [List.getElem_set_self]
      exact ⟨A, c, by rw [hl]; exact q0, by rw [hl]; exact hz⟩
    · obtain ⟨A2, c2, r0, r1⟩ := h2 i hi
      rw [List.getElem_set_ne (by omega)]
      refine ⟨A2, c2, r0, ?_⟩
      refine World.ownsRow.kept r1 hb ?_
      rcases hu : (Value.slice A2 zss[i].length c2).ownBlock with _ | g
      · exact .inl rfl
      · refine .inr fun e9 => ?_
        injection e9 with e9
        subst e9
        exact h3 i k _ _ hi hk e r0 q0 g hu hR
  · rw [List.length_set] at hi hj
    exact h3 i j u v hi hj hij hu hv
set_option maxRecDepth 100000 in
set_option maxHeartbeats 4000000 in
theorem eqIntSS_is (A A' : Option Addr) (c c' : Nat) (zss : List (List Int)) (w : World) (h0 : RdLL w w.heap.size A zss) (h0' : RdLL w w.heap.size A' zss) (hn : zss.length ≤ 1048576) (hf : ∀ zs ∈ zss, zs.length = 4) :
    Calls Tryz.prog 24 #[.slice A zss.length c, .slice A' zss.length c'] w (Ret (.bool true) w) := by
  go_enter Tryz.func24, Tryz.ntmps24
  go_wp2_with fail
  go_loopw [5] (fun i wr => ∃ k : Nat, k ≤ zss.length ∧ i = .int .i64 k ∧ Below w.heap.size w wr) (fun i _ => zss.length - (intOf i).toNat)
  case atStart => exact ⟨0, Nat.zero_le _, rfl, Below.refl _ _⟩
  case round =>
    obtain ⟨k, hk, rfl, hbw⟩ := hrel
    by_cases hlt : k < zss.length
    · obtain ⟨zs, ad, A1, c1, ho, rfl, ha1, g0, r1⟩ := (h0.below hbw (Nat.le_refl _)).at_ hlt
      obtain ⟨zs2, ad2, A2, c2, ho2, rfl, ha2, g20, r2⟩ := (h0'.below hbw (Nat.le_refl _)).at_ hlt
      obtain rfl : zs = zs2 := by rw [← ho, ← ho2]
      have HMK := hid (hf zs (by rw [← ho]; exact List.getElem_mem hlt))
      have k0 : 0 ≤ (k : Int) := by omega
      have k1 : (k : Int) < (zss.length : Int) := by omega
      have hz := hbw.size
      have HKP : Hid (∀ x, Below wr.heap.size wr x → x.cell? (ad.add k) = some (.slice A1 zs.length c1) ∧ x.cell? (ad2.add k) = some (.slice A2 zs.length c2)) := fun x hx => ⟨(hx.cell (Nat.lt_of_lt_of_le ha1 hz)).trans g0, (hx.cell (Nat.lt_of_lt_of_le ha2 hz)).trans g20⟩
      clear ho ho2 g0 g20
      go_wp2_with fail
      have Dwd := (Below.refl wr.heap.size wr).drew
      refine wp_region_held_drew (S := fun x => x.cell? (ad.add k) = some (.slice A1 zs.length c1) ∧ x.cell? (ad2.add k) = some (.slice A2 zs.length c2)) (by kernel_rfl) (HKP.out _ Dwd) (fun hHeld => ?_)
      obtain ⟨wd, hwd⟩ : ∃ wd, wr.drew = wd := ⟨_, rfl⟩
      rw [hwd] at hHeld Dwd ⊢
      clear hwd
      refine wpAnyH_take (i := 0) (oi := _) (v := ?_) rfl (by kernel_rfl) (by kernel_rfl) (by kernel_rfl) (fun _ _ _ h => h) (Or.inl ⟨by rfl, ?_⟩) hHeld ?_
      rotate_left
      · (intro w' hSw; (try dsimp only at hSw); go_simp <;> with_reducible rfl)
      try simp only [Act.put, List.getElem_toArray, List.getElem_cons_succ, List.getElem_cons_zero, List.setIfInBounds_toArray, List.set_cons_zero, List.set_cons_succ]
      refine wpAnyH_take (i := 1) (oi := _) (v := ?_) rfl (by kernel_rfl) (by kernel_rfl) (by kernel_rfl) (fun _ _ _ h => h) (Or.inl ⟨by rfl, ?_⟩) hHeld ?_
      rotate_left
      · (intro w' hSw; (try dsimp only at hSw); go_simp <;> with_reducible rfl)
      try simp only [Act.put, List.getElem_toArray, List.getElem_cons_succ, List.getElem_cons_zero, List.setIfInBounds_toArray, List.set_cons_zero, List.set_cons_succ]
      refine wpAnyH_take (i := 2) (oi := _) (v := ?_) rfl (by kernel_rfl) (by kernel_rfl) (by kernel_rfl) (fun _ _ _ h => h) (Or.inl ⟨by rfl, ?_⟩) hHeld ?_
      rotate_left
      · (intro w' hSw; (try dsimp only at hSw); go_simp <;> with_reducible rfl)
      try simp only [Act.put, List.getElem_toArray, List.getElem_cons_succ, List.getElem_cons_zero, List.setIfInBounds_toArray, List.set_cons_zero, List.set_cons_succ]
      refine wpAnyH_take (i := 3) (oi := _) (v := ?_) rfl (by kernel_rfl) (by kernel_rfl) (by kernel_rfl) (fun _ _ _ h => h) (Or.inl ⟨by rfl, ?_⟩) hHeld ?_
      rotate_left
      · (intro w' hSw; (try dsimp only at hSw); go_simp <;> with_reducible rfl)
      try simp only [Act.put, List.getElem_toArray, List.getElem_cons_succ, List.getElem_cons_zero, List.setIfInBounds_toArray, List.set_cons_zero, List.set_cons_succ]
      refine wpAnyH_take (i := 4) (oi := _) (v := ?_) rfl (by kernel_rfl) (by kernel_rfl) (by kernel_rfl) (fun _ _ _ h => h) (Or.inl ⟨by rfl, ?_⟩) hHeld ?_
      rotate_left
      · (intro w' hSw; (try dsimp only at hSw); go_simp <;> with_reducible rfl)
      try simp only [Act.put, List.getElem_toArray, List.getElem_cons_succ, List.getElem_cons_zero, List.setIfInBounds_toArray, List.set_cons_zero, List.set_cons_succ]
      refine wpAnyH_take (i := 5) (oi := _) (v := ?_) rfl (by kernel_rfl) (by kernel_rfl) (by kernel_rfl) (fun _ _ _ h => h) (Or.inl ⟨by rfl, ?_⟩) hHeld ?_
      rotate_left
      · (intro w' hSw; (try dsimp only at hSw); go_simp <;> with_reducible rfl)
      try simp only [Act.put, List.getElem_toArray, List.getElem_cons_succ, List.getElem_cons_zero, List.setIfInBounds_toArray, List.set_cons_zero, List.set_cons_succ]
      refine wpAnyH_take (i := 6) (oi := _) (v := ?_) rfl (by kernel_rfl) (by kernel_rfl) (by kernel_rfl) (fun _ _ _ h => h) (Or.inl ⟨by rfl, ?_⟩) hHeld ?_
      rotate_left
      · (intro w' hSw; (try dsimp only at hSw); go_simp <;> with_reducible rfl)
      try simp only [Act.put, List.getElem_toArray, List.getElem_cons_succ, List.getElem_cons_zero, List.setIfInBounds_toArray, List.set_cons_zero, List.set_cons_succ]
      refine wpAnyH_take (i := 7) (oi := _) (v := ?_) rfl (by kernel_rfl) (by kernel_rfl) (by kernel_rfl) (fun _ _ _ h => h) (Or.inl ⟨by rfl, ?_⟩) hHeld ?_
      rotate_left
      · (intro w' hSw; (try dsimp only at hSw); go_simp <;> with_reducible rfl)
      try simp only [Act.put, List.getElem_toArray, List.getElem_cons_succ, List.getElem_cons_zero, List.setIfInBounds_toArray, List.set_cons_zero, List.set_cons_succ]
      refine wpAnyH_ready (rs := [8]) (by kernel_rfl) (by simp) (AllReadyH.cons (o := _) rfl (fun K hK => ?_) AllReadyH.nil)
      try simp only [Act.put, List.getElem_toArray, List.getElem_cons_succ, List.getElem_cons_zero, List.setIfInBounds_toArray, List.set_cons_zero, List.set_cons_succ]
      go_simp
      go_at_call 53
      refine (eqIntS_ret A1 A2 c1 c2 zs wd _ _ (r1.below Dwd hz) (r2.below Dwd hz) (by rw [HMK.out]; unfold maxLen; omega)).mono ?_
      rintro e we ⟨rfl, de⟩
      have De := Dwd.trans (de.mono Dwd.size)
      have hb9 := hbw.trans (De.mono hz)
      refine hK.out _ _ (HKP.out _ De) (fun hHeld => ?_)
      clear hK K
      try simp only [Act.put, List.getElem_toArray, List.getElem_cons_succ, List.getElem_cons_zero, List.setIfInBounds_toArray, List.set_cons_zero, List.set_cons_succ]
      refine wpAnyH_take (i := 9) (oi := _) (v := ?_) rfl (by kernel_rfl) (by kernel_rfl) (by kernel_rfl) (fun _ _ _ h => h) (Or.inl ⟨by rfl, ?_⟩) hHeld ?_
      rotate_left
      · (intro w' hSw; (try dsimp only at hSw); go_simp <;> with_reducible rfl)
      try simp only [Act.put, List.getElem_toArray, List.getElem_cons_succ, List.getElem_cons_zero, List.setIfInBounds_toArray, List.set_cons_zero, List.set_cons_succ]
      refine wpAnyH_done (by kernel_rfl) ?_ _
      clear hHeld HKP Dwd de De
      go_wp2
      go_roundw
      case rel => exact ⟨k + 1, by omega, by go_num, hb9⟩
      case measure => simp [intOf]; omega
    · have hk' : k = zss.length := by omega
      subst hk'
      go_wp2
      go_ret
      exact ⟨rfl, hbw⟩
def MksLL (zss : List (List Int)) (m : Nat) : Prop := (∀ zs ∈ zss, zs.length = 4) ∧ ∀ j (h : j < zss.length), j < m → zss[j] = marks (1 + 4 * (j : Int)) 4
theorem MksLL.step {zss : List (List Int)} {m : Nat} (h : MksLL zss m) : MksLL (zss.set m (marks (1 + 4 * (m : Int)) 4)) (m + 1) := by
  refine ⟨fun zs hz => ?_, fun j hj hm => ?_⟩
  · rcases List.mem_or_eq_of_mem_set hz with hz | rfl
    · exact h.1 zs hz
    · exact marks_length _ _
  · rw [List.length_set] at hj
    by_cases e : j = m
    · subst e
      rw [List.getElem_set_self]
    · rw [List.getElem_set_ne (by omega)]
      exact h.2 j hj (by omega)
set_option maxRecDepth 100000 in
set_option maxHeartbeats 4000000 in
theorem markIntSS_is (B : Nat) (A : Option Addr) (c : Nat) (zss : List (List Int)) (w : World) (h0 : OwnLL w B (.slice A zss.length c) zss) (hB : B ≤ w.heap.size) (hm : MksLL zss 0) (hn : zss.length ≤ 1024) :
    Calls Tryz.prog 27 #[.slice A zss.length c, .int .i64 1] w (fun e w' => e = .returned (.int .i64 (1 + 4 * (zss.length : Int))) ∧ (∃ zss', zss'.length = zss.length ∧ MksLL zss' zss.length ∧ OwnLL w' B (.slice A zss.length c) zss') ∧ Below B w w') := by
  have hX0 : ∃ zss', Hid (zss'.length = zss.length) ∧ MksLL zss' 0 ∧ OwnLL w B (.slice A zss.length c) zss' := ⟨zss, rfl, hm, h0⟩
  clear h0 hm
  go_enter Tryz.func27, Tryz.ntmps27
  go_wp2_with fail
  go_loopw [1, 5] (fun q i wr => ∃ m : Nat, m ≤ zss.length ∧ i = .int .i64 m ∧ q = .int .i64 (1 + 4 * (m : Int)) ∧ (∃ zss', Hid (zss'.length = zss.length) ∧ MksLL zss' m ∧ OwnLL wr B (.slice A zss.length c) zss') ∧ Below B w wr) (fun _ i _ => zss.length - (intOf i).toNat)
  case atStart => exact ⟨0, Nat.zero_le _, rfl, rfl, hX0, Below.refl _ _⟩
  case round =>
    obtain ⟨m, hm, rfl, rfl, ⟨zs', hl', hk', hX⟩, hb⟩ := hrel
    clear hX0
    by_cases hlt : m < zss.length
    · have hR : ∃ (g R c1 : Nat), A = some ⟨g, 0, none⟩ ∧ wr.cell? ⟨g, m, none⟩ = some (.slice (some ⟨R, 0, none⟩) 4 c1) ∧ B ≤ R ∧ (∃ ys, wr.ownsRow B 3 1 (.slice (some ⟨R, 0, none⟩) 4 c1) 4 ys) ∧
          ∀ w2, But R wr w2 → w2.ownsRow B 3 1 (.slice (some ⟨R, 0, none⟩) 4 c1) 4 (ints (marks (1 + 4 * (m : Int)) 4)) → ∃ zss', Hid (zss'.length = zss.length) ∧ MksLL zss' (m + 1) ∧ OwnLL w2 B (.slice A zss.length c) zss' := by
        have hl := hl'.out
        have hlm : m < zs'.length := by omega
        obtain ⟨xs, h1, h2, h3⟩ := id hX
        obtain ⟨A1, c1, q0, q1⟩ := h2 m hlm
        have h4 : zs'[m].length = 4 := hk'.1 _ (List.getElem_mem hlm)
        obtain ⟨g, cap, e, hg1, hg2⟩ := World.ownsRow.form h1 (by omega)
        injection e with eA _ _
        subst eA
        have h1' := h1
        rw [hl] at h1'
        have hc0 : wr.cell? ⟨g, m, none⟩ = some (.slice A1 zs'[m].length c1) := (World.ownsRow.cellAt h1' m (by omega)).trans q0
        have o4 := q1
        unfold OwnI at o4
        obtain ⟨R, cap2, e2, hR1, hR2⟩ := World.ownsRow.form o4 (by omega)
        injection e2 with eA2 _ _
        subst eA2
        rw [h4] at hc0 o4
        refine ⟨g, R, c1, rfl, hc0, hR1, ⟨_, o4⟩, fun w2 hb2 ho2 => ⟨_, by show _ = _; rw [List.length_set]; exact hl, hk'.step, ?_⟩⟩
        exact OwnLL.put h1 h2 h3 hlm q0 q1 rfl hb2 (by rw [marks_length, h4]) (by rw [h4]; exact ho2)
      obtain ⟨g, R, c1, rfl, g0, hBR, ⟨ys, o4⟩, HN⟩ := hR
      have k0 : 0 ≤ (m : Int) := by omega
      have k1 : (m : Int) < (zss.length : Int) := by omega
      have CM := hid (markIntS_own B R 4 c1 (1 + 4 * (m : Int)) ys wr o4 (by omega) (by omega) (by omega))
      have HNN := hid HN
      have hz := hb.size
      clear HN hX hk' hl' o4
      go_wp2_with fail
      refine CM.out.mono ?_
      rintro e w2 ⟨rfl, hw, ho2⟩
      have hX2 := HNN.out w2 hw.1 ho2
      have hb2 : Below B w w2 := hb.trans (But.below hw.1 (Nat.le_trans hB hz) hBR)
      clear CM HNN hw ho2
      go_wp2_with fail
      go_roundw
      case rel => exact ⟨m + 1, by omega, by go_num, by go_num, hX2, hb2⟩
      case measure => simp [intOf]; omega
    · have hm' : m = zss.length := by omega
      subst hm'
      go_wp2
      go_ret
      exact ⟨rfl, ⟨zs', hl'.out, hk', hX⟩, hb⟩
set_option maxRecDepth 100000 in
set_option maxHeartbeats 4000000 in
theorem heldIntSS_is (A : Option Addr) (c : Nat) (zss : List (List Int)) (w : World) (h : RdLL w w.heap.size A zss) (hm : MksLL zss zss.length) (hn : zss.length ≤ 1024) :
    Calls Tryz.prog 28 #[.slice A zss.length c, .int .i64 1] w (Same (.int .i64 (1 + 4 * (zss.length : Int))) w) := by
  go_enter Tryz.func28, Tryz.ntmps28
  go_wp2_with fail
  go_loopw [1, 5] (fun q i wr => ∃ m : Nat, m ≤ zss.length ∧ i = .int .i64 m ∧ q = .int .i64 (1 + 4 * (m : Int)) ∧ w = wr) (fun _ i _ => zss.length - (intOf i).toNat)
  case atStart => exact ⟨0, Nat.zero_le _, rfl, rfl, rfl⟩
  case round =>
    obtain ⟨m, hk, rfl, rfl, rfl⟩ := hrel
    by_cases hlt : m < zss.length
    · obtain ⟨zs, ad, A1, c1, ho, rfl, ha, g0, r1⟩ := h.at_ hlt
      have ez : zs = marks (1 + 4 * (m : Int)) 4 := by rw [← ho]; exact hm.2 m hlt hlt
      subst ez
      rw [marks_length] at g0
      have k0 : 0 ≤ (m : Int) := by omega
      have k1 : (m : Int) < (zss.length : Int) := by omega
      have CH := hid (heldIntS_yes _ A1 c1 4 (1 + 4 * (m : Int)) w r1 (by omega) (by omega) (by omega))
      have hneg : ¬ (1 + 4 * (m : Int) + 4 < 0) := by omega
      clear ho r1
      go_wp2_with fail
      refine CH.out.mono ?_
      rintro e w2 ⟨rfl, rfl⟩
      clear CH
      go_wp2_with fail
      go_roundw
      case rel => exact ⟨m + 1, by omega, by go_num, by go_num, by trivial⟩
      case measure => simp [intOf]; omega
    · have hk' : m = zss.length := by omega
      subst hk'
      go_wp2
      go_ret
      exact ⟨rfl, rfl⟩
end Go.Proofs.YteaibflloeipaaaGreatDoor
namespace Go.Proofs.YteaibflloeipaaaGreatDoor
open Go.RowKit Wo Pu Rf Co
set_option linter.unusedVariables false
set_option linter.unusedSimpArgs false
def pZ (p : Part) : Nat := 1 + 3 * p.us.length
def zPs (ps : List Part) : Nat := preS pZ ps ps.length
def mkP (k : Nat) (p : Part) : Part := ⟨(k : Int), mksU (k + 1) p.us.length⟩
def mkPs (k : Nat) (ps : List Part) : List Part := (List.finRange ps.length).map fun j => mkP (k + preS pZ ps j.1) ps[j.1]
def tZ (t : Tx) : Nat := zPs t.ps + t.vs.length + 1
def zTs (ts : List Tx) : Nat := preS tZ ts ts.length
def mkT (k : Nat) (t : Tx) : Tx := ⟨mkPs k t.ps, marks ((k + zPs t.ps : Nat) : Int) t.vs.length, ((k + zPs t.ps + t.vs.length : Nat) : Int)⟩
def mkTs (k : Nat) (ts : List Tx) : List Tx := (List.finRange ts.length).map fun j => mkT (k + preS tZ ts j.1) ts[j.1]
def zC (q : Crd) : Nat := zTs q.ts + q.os.length
def mkC (k : Nat) (q : Crd) : Crd := ⟨mkTs k q.ts, marks ((k + zTs q.ts : Nat) : Int) q.os.length⟩
theorem mkPs_length (k : Nat) (ps : List Part) : (mkPs k ps).length = ps.length := by simp [mkPs]
theorem mkPs_get {k : Nat} {ps : List Part} {j : Nat} (h : j < ps.length) : (mkPs k ps)[j]'(by rw [mkPs_length]; exact h) = mkP (k + preS pZ ps j) ps[j] := by simp [mkPs]
theorem mkTs_length (k : Nat) (ts : List Tx) : (mkTs k ts).length = ts.length := by simp [mkTs]
theorem mkTs_get {k : Nat} {ts : List Tx} {j : Nat} (h : j < ts.length) : (mkTs k ts)[j]'(by rw [mkTs_length]; exact h) = mkT (k + preS tZ ts j) ts[j] := by simp [mkTs]
theorem zPs_le (ps : List Part) : zPs ps ≤ 3 * allP ps := by
  have : ∀ k, k ≤ ps.length → preS pZ ps k ≤ k + 3 * preS uN ps k := by
    intro k
    induction k with
    | zero => intro _; simp [preS_zero]
    | succ k ih =>
      intro h
      rw [preS_succ (by omega), preS_succ (by omega)]
      have h1 := ih (by omega)
      have e1 : pZ ps[k] = 1 + 3 * ps[k].us.length := rfl
      have e2 : uN ps[k] = ps[k].us.length := rfl
      omega
  have := this ps.length (Nat.le_refl _)
  unfold zPs allP
  omega
theorem zTs_le (ts : List Tx) : zTs ts ≤ 3 * allT ts := by
  have : ∀ k, k ≤ ts.length → preS tZ ts k ≤ k + 3 * preS tN ts k := by
    intro k
    induction k with
    | zero => intro _; simp [preS_zero]
    | succ k ih =>
      intro h
      rw [preS_succ (by omega), preS_succ (by omega)]
      have h1 := ih (by omega)
      have h2 := zPs_le ts[k].ps
      have e1 : tZ ts[k] = zPs ts[k].ps + ts[k].vs.length + 1 := rfl
      have e2 : tN ts[k] = allP ts[k].ps + ts[k].vs.length := rfl
      omega
  have := this ts.length (Nat.le_refl _)
  unfold zTs allT
  omega
theorem zC_le (q : Crd) : zC q ≤ 3 * allC q := by
  have := zTs_le q.ts
  unfold zC allC
  omega
def KeepI (w w' : World) : Prop := ∀ (B sz n : Nat) (u : Value) (ys : List Value), w.ownsRow B 3 sz u n ys → w'.ownsRow B 3 sz u n ys
theorem KeepI.refl (w : World) : KeepI w w := fun _ _ _ _ _ h => h
theorem KeepI.trans {a b c : World} (h : KeepI a b) (k : KeepI b c) : KeepI a c := fun _ _ _ _ _ r => k _ _ _ _ _ (h _ _ _ _ _ r)
theorem OwnPs.mark {col : Nat → Nat} {c B g l cc n : Nat} {w : World} {ps : List Part} {p : Part} (h : OwnPs col c w B (.slice (some ⟨g, 0, none⟩) l cc) ps) (hn : n < ps.length) (hp : ps[n] = p) (x : Int) :
    ∃ (A : Option Addr) (c' : Nat), (∃ v, w.cell? ⟨g, n * 2, none⟩ = some v) ∧ w.frozen? ⟨g, n * 2, none⟩ = false ∧ w.cell? ⟨g, n * 2 + 1, none⟩ = some (.slice A p.us.length c') ∧ col g = c ∧ g < w.heap.size ∧
      (∀ q, (Value.slice A p.us.length c').ownBlock = some q → col q = c) ∧ OwnUps (w.setCell ⟨g, n * 2, none⟩ (.int .i64 x)) B (.slice A p.us.length c') p.us ∧
      ∀ R w2 (us' : List Up), us'.length = p.us.length → InB A R → (A = none → w.heap.size ≤ R) → But R (w.setCell ⟨g, n * 2, none⟩ (.int .i64 x)) w2 → OwnUps w2 B (.slice A p.us.length c') us' → OwnPs col c w2 B (.slice (some ⟨g, 0, none⟩) l cc) (ps.set n ⟨x, us'⟩) ∧ KeepI w w2 := by
  obtain rfl := h.len_
  subst hp
  obtain ⟨xs, h1, h2, h3, h4, h5⟩ := h
  have hl : xs.length = ps.length * 2 := h1.1
  obtain ⟨A, c', q0, q1, q2, q3⟩ := h2 n hn
  have s1 := (World.ownsRow.stored h1 (n * 2) (.int .i64 x)).1
  have keep : ∀ {u : Value} {us : List Up}, OwnUps w B u us → OwnUps (w.setCell ⟨g, n * 2, none⟩ (.int .i64 x)) B u us := fun h => row_far_type h (by decide) (but_set w g _ _) (row_typed h1)
  have hgl := (World.ownsRow.lt h1 g rfl).2
  refine ⟨A, c', ⟨_, (World.ownsRow.cellAt h1 _ (by omega)).trans (List.getElem?_eq_getElem (by omega))⟩, World.ownsRow.frozenAt h1 _, (World.ownsRow.cellAt h1 _ (by omega)).trans q1, h5 g rfl, hgl, fun q hq => h4 n _ hn q1 q hq, keep q3, fun R w2 us' hus hR hN hb ho => ?_⟩
  have notR : ∀ q, q < w.heap.size → (∀ ad, A = some ad → ad.block ≠ q) → q ≠ R := fun q hq hne => by
    rcases A with _ | ad
    · have := hN rfl; omega
    · have := hR ad rfl
      have := hne ad rfl
      omega
  have keptR : ∀ {e : TypeId} {sz m : Nat} {u : Value} {ys : List Value}, (w.setCell ⟨g, n * 2, none⟩ (.int .i64 x)).ownsRow B e sz u m ys → (∀ q, u.ownBlock = some q → ∀ ad, A = some ad → ad.block ≠ q) → w2.ownsRow B e sz u m ys := fun hr hne => by
    refine World.ownsRow.kept hr hb ?_
    rcases hu : Value.ownBlock _ with _ | q
    · exact .inl rfl
    · refine .inr fun e => ?_
      injection e with e
      have hq := (World.ownsRow.lt hr q hu).2
      have := notR q (by simpa [World.setCell] using hq) (hne q hu)
      omega
  have hgA : ∀ ad, A = some ad → ad.block ≠ g := fun ad e1 e2 => by
    subst e1
    obtain ⟨cur, fr, t1⟩ := row_typed q3 ad.block rfl
    obtain ⟨cur2, fr2, t2⟩ := row_typed h1 g rfl
    rw [e2, t2] at t1
    injection t1 with t1
    injection t1 with _ t1
    exact absurd t1 (by decide)
  have hrow : w2.ownsRow B 40 2 (.slice (some ⟨g, 0, none⟩) ps.length cc) ps.length (xs.set (n * 2) (.int .i64 x)) := keptR s1 fun q hq ad e => by
    have e2 : g = q := by simpa [Value.ownBlock] using hq
    rw [← e2]
    exact hgA ad e
  have hI : KeepI w w2 := fun B' sz m u ys hr => by
    have r1 := row_far_type hr (by decide) (but_set w g (n * 2) (.int .i64 x)) (row_typed h1)
    refine World.ownsRow.kept r1 hb ?_
    rcases hu : u.ownBlock with _ | q
    · exact .inl rfl
    · refine .inr fun e => ?_
      injection e with e
      have hq := (World.ownsRow.lt hr q hu).2
      have := notR q hq fun ad e1 e2 => by
        subst e1
        obtain ⟨cur, fr, t1⟩ := row_typed q3 ad.block rfl
        obtain ⟨cur2, fr2, t2⟩ := row_typed hr q hu
        rw [e2, t2] at t1
        injection t1 with t1
        injection t1 with _ t1
        exact absurd t1 (by decide)
      omega
  refine ⟨?_, hI⟩
  refine ⟨xs.set (n * 2) (.int .i64 x), by rw [List.length_set]; exact hrow, fun j hj => ?_, fun i j a b hi hj hij ha hb' => ?_, fun i a hi ha => ?_, h5⟩
  · have hj' : j < ps.length := by rw [List.length_set] at hj; exact hj
    rw [List.getElem_set]
    by_cases e : n = j
    · subst e
      rw [if_pos rfl]
      refine ⟨A, c', List.getElem?_set_self (by omega), ?_, ?_, ?_⟩
      · rw [List.getElem?_set_ne (by omega)]
        show _ = some (Value.slice A us'.length c')
        rw [hus]; exact q1
      · show us'.length ≤ c'
        rw [hus]; exact q2
      · show OwnUps w2 B (.slice A us'.length c') us'
        rw [hus]; exact ho
    · rw [if_neg e]
      obtain ⟨A2, c2, r0, r1, r2, r3⟩ := h2 j hj'
      refine ⟨A2, c2, by rw [List.getElem?_set_ne (by omega)]; exact r0, by rw [List.getElem?_set_ne (by omega)]; exact r1, r2, keptR (keep r3) fun q hq ad e1 e2 => ?_⟩
      subst e1
      exact h3 j n _ _ hj' hn (fun q => e q.symm) r1 q1 q hq (by show some ad.block = some q; rw [e2])
  · rw [List.length_set] at hi hj
    rw [List.getElem?_set_ne (by omega)] at ha hb'
    exact h3 i j a b hi hj hij ha hb'
  · rw [List.length_set] at hi
    rw [List.getElem?_set_ne (by omega)] at ha
    exact h4 i a hi ha
theorem OwnPs.head {col : Nat → Nat} {c B l cc : Nat} {w : World} {A : Option Addr} {ps : List Part} (h : OwnPs col c w B (.slice A l cc) ps) (hp : 0 < ps.length) : ∃ g, A = some ⟨g, 0, none⟩ := by
  obtain rfl := h.len_
  obtain ⟨xs, h1, -⟩ := h
  obtain ⟨g, cap, e, -⟩ := World.ownsRow.form h1 hp
  injection e with e
  exact ⟨g, e⟩
def PsMarked (col : Nat → Nat) (c B k : Nat) (v : Value) (ps : List Part) (w : World) (e : Ending) (w' : World) : Prop := e = .returned (.int .i64 ((k + zPs ps : Nat) : Int)) ∧ OwnPs col c w' B v (mkPs k ps) ∧ Only (Hue col c) w w' ∧ KeepI w w'
set_option maxRecDepth 100000 in
set_option maxHeartbeats 4000000 in
theorem markPartS_C (col : Nat → Nat) (c B k : Nat) (v : Value) (ps : List Part) (w : World) (h : OwnPs col c w B v ps) (hm : ps.length ≤ 1048576) (hu : ∀ p ∈ ps, p.us.length ≤ 1048576) (h1 : 1 ≤ k) (hk : k + zPs ps ≤ 4000000) :
    Calls Tryz.prog 95 #[v, .int .i64 (k : Int)] w (PsMarked col c B k v ps w) := by
  have HKM : Hid (∀ m, m ≤ ps.length → k + preS pZ ps m ≤ 4000000) := fun m hm => by
    have := preS_mono (f := pZ) (l := ps) (i := m) ps.length hm (Nat.le_refl _)
    unfold zPs at hk
    omega
  have HLN := hid (mkPs_length k ps)
  obtain ⟨A, cc, rfl, -, -⟩ := h.form
  by_cases h0 : ps.length = 0
  · have e : ps = [] := List.eq_nil_of_length_eq_zero h0
    subst e
    have hz : Hid (PsMarked col c B k (.slice A 0 cc) [] w (.returned (.int .i64 (k : Int))) w) := ⟨rfl, h, Only.refl _ _, KeepI.refl _⟩
    clear h HKM HLN hk hu hm
    go_enter Tryz.func95, Tryz.ntmps95
    go_wp2_with fail
    go_loopw [1, 5] (fun q i wr => i = .int .i64 0 ∧ q = .int .i64 (k : Int) ∧ w = wr) (fun _ _ _ => 0)
    case atStart => exact ⟨rfl, rfl, rfl⟩
    case round =>
      obtain ⟨rfl, rfl, rfl⟩ := hrel
      go_wp2
      go_ret
      exact hz.out
  · obtain ⟨g, rfl⟩ := h.head (by omega)
    have HU := hid hu
    have hX : OwnPs col c w B (.slice (some ⟨g, 0, none⟩) ps.length cc) (mixL (mkPs k ps) ps 0) := by rw [mixL_zero]; exact h
    clear hk hu h
    go_enter Tryz.func95, Tryz.ntmps95
    go_wp2_with fail
    go_loopw [1, 5] (fun q i wr => ∃ m K : Nat, m ≤ ps.length ∧ i = .int .i64 m ∧ q = .int .i64 (K : Nat) ∧ K ≤ 4000000 ∧ 1 ≤ K ∧ Hid (K = k + preS pZ ps m) ∧ OwnPs col c wr B (.slice (some ⟨g, 0, none⟩) ps.length cc) (mixL (mkPs k ps) ps m) ∧ Only (Hue col c) w wr ∧ KeepI w wr) (fun _ i _ => ps.length - (intOf i).toNat)
    case atStart => exact ⟨0, k, Nat.zero_le _, rfl, rfl, by have := HKM.out 0 (Nat.zero_le _); rw [preS_zero] at this; omega, h1, by show _ = _; rw [preS_zero]; rfl, hX, Only.refl _ _, KeepI.refl _⟩
    case round =>
      clear hX
      obtain ⟨m, K, hm9, rfl, rfl, hK1, hK2, HK, hX, hO, hI⟩ := hrel
      by_cases hlt : m < ps.length
      · obtain ⟨p, hp⟩ : ∃ p, ps[m] = p := ⟨_, rfl⟩
        have hlm : m < (mixL (mkPs k ps) ps m).length := by rw [mixL_len HLN.out]; exact hlt
        obtain ⟨A, c', ⟨v0, c0⟩, f0, c1, hcg, hgl, hq, ou, HN⟩ := hX.mark hlm ((mixL_at HLN.out hlt hlm).trans hp) (K : Nat)
        have hk2 := HKM.out (m + 1) (by omega)
        have hks := preS_succ (f := pZ) hlt
        have hul := HU.out p (by rw [← hp]; exact List.getElem_mem hlt)
        have HST : Hid ((mixL (mkPs k ps) ps m).set m (mkP K p) = mixL (mkPs k ps) ps (m + 1)) := by
          show _ = _
          rw [← mixL_set HLN.out hlt, mkPs_get hlt, ← HK.out, hp]
        have HKS : Hid (k + preS pZ ps (m + 1) = K + (1 + 3 * p.us.length)) := by
          show _ = _
          rw [hks, hp, HK.out]
          unfold pZ
          omega
        rw [HKS.out] at hk2
        obtain ⟨R, hR1, hR2⟩ := inB_of A wr.heap.size
        have k0 : 0 ≤ (m : Int) := by omega
        have k1 : (m : Int) < (ps.length : Int) := by omega
        have HOS : Hid (Only (Hue col c) w (wr.setCell ⟨g, m * 2, none⟩ (.int .i64 (K : Nat)))) := hO.set_ hcg _ _
        have HNN := hid HN
        have HRR : Hid (∀ w2, But R (wr.setCell ⟨g, m * 2, none⟩ (.int .i64 (K : Nat))) w2 → Only (Hue col c) w w2) := fun w2 hb => by
          refine HOS.out.trans ⟨hb.os, hb.tape, hb.output, hb.size, fun i hi hc => hb.block i hi fun e => ?_⟩
          injection e with e
          rcases A with _ | ad
          · have := hR2 rfl
            simp [World.setCell] at hi
            omega
          · refine hc (hq i ?_)
            have := hR1 ad rfl
            show some ad.block = some i
            rw [this, e]
        have e2 : ((K + 1 : Nat) : Int) = (K : Int) + 1 := by omega
        have HMU : Hid (∀ x : World, OwnUps x B (.slice A p.us.length c') p.us → Calls Tryz.prog 96 #[.slice A p.us.length c', .int .i64 ((K : Int) + 1)] x (UpsMarked ((K : Int) + 1 + 3 * (p.us.length : Int)) (.slice A p.us.length c') (K + 1) p.us.length R B x)) := fun x ho => by
          have := markUps_to ((K : Int) + 1 + 3 * (p.us.length : Int)) (K + 1) R B A c' p.us x ho hR1 hul (by omega) (by omega) (by omega)
          rwa [e2] at this
        have HOU := hid ou
        clear HN hX hO hks hq hp e2 ou hlm
        go_wp2_with fail
        refine (HMU.out _ HOU.out).mono ?_
        rintro e w2 ⟨rfl, ho2, hb2⟩
        obtain ⟨X2, I2⟩ := HNN.out R w2 (mksU (K + 1) p.us.length) (mksU_length _ _) hR1 (fun e => by rw [hR2 e]; exact Nat.le_refl _) hb2 ho2
        have O2 := HRR.out w2 hb2
        have I3 := hI.trans I2
        have X3 : OwnPs col c w2 B (.slice (some ⟨g, 0, none⟩) ps.length cc) (mixL (mkPs k ps) ps (m + 1)) := by rw [← HST.out]; exact X2
        have HK3 : Hid (K + 1 + 3 * p.us.length = k + preS pZ ps (m + 1)) := by show _ = _; rw [HKS.out]; omega
        clear HMU HNN HOS HOU ho2 hb2 X2 HRR HST I2 hI
        go_wp2_with fail
        go_roundw
        case rel => exact ⟨m + 1, K + 1 + 3 * p.us.length, by omega, by go_num, by congr 1, by omega, by omega, HK3, X3, O2, I3⟩
        case measure => simp [intOf]; omega
      · have hm' : m = ps.length := by omega
        subst hm'
        rw [mixL_done HLN.out] at hX
        go_wp2
        go_ret
        exact ⟨by rw [HK.out]; rfl, hX, hO, hI⟩
end Go.Proofs.YteaibflloeipaaaGreatDoor
namespace Go.Proofs.YteaibflloeipaaaGreatDoor
open Go.RowKit Wo Pu Rf Co
set_option linter.unusedVariables false
set_option linter.unusedSimpArgs false
def IsMarked (col : Nat → Nat) (c B k : Nat) (v : Value) (n : Nat) (w : World) (e : Ending) (w' : World) : Prop := e = .returned (.int .i64 ((k + n : Nat) : Int)) ∧ OwnI w' B v (marks (k : Int) n) ∧ Only (Hue col c) w w' ∧ ∃ row, w.grownBy w' row ∧ ∀ g, row = some g → ∃ cur fr, w.heap[g]? = some (.cells cur 3 fr)
set_option maxHeartbeats 1000000 in
theorem markInts_C (col : Nat → Nat) (c B k : Nat) (v : Value) (zs : List Int) (w : World) (h : OwnI w B v zs) (hc : ColV col c v) (hm : zs.length ≤ 1048576) (hk : k ≤ 4000000) :
    Calls Tryz.prog 56 #[v, .int .i64 (k : Int)] w (IsMarked col c B k v zs.length w) := by
  obtain ⟨A, cc, rfl, -, -⟩ := h.form
  by_cases h0 : zs.length = 0
  · have e : zs = [] := List.eq_nil_of_length_eq_zero h0
    subst e
    have hz : Hid (IsMarked col c B k (.slice A 0 cc) 0 w (.returned (.int .i64 (k : Int))) w) := ⟨rfl, h, Only.refl _ _, none, World.grownBy.refl w _, fun g e => by cases e⟩
    clear h hc
    go_enter Tryz.func56, Tryz.ntmps56
    go_wp2_with fail
    go_loopw [1, 5] (fun q i wr => i = .int .i64 0 ∧ q = .int .i64 (k : Int) ∧ w = wr) (fun _ _ _ => 0)
    case atStart => exact ⟨rfl, rfl, rfl⟩
    case round =>
      obtain ⟨rfl, rfl, rfl⟩ := hrel
      go_wp2
      go_ret
      exact hz.out
  · obtain ⟨g, cap, e, -⟩ := World.ownsRow.form h (by omega)
    injection e with e1 _ e3
    subst e1 e3
    refine (markIntS_own B g zs.length cc (k : Int) (ints zs) w h hm (by omega) (by omega)).mono ?_
    rintro e w' ⟨rfl, hw, ho⟩
    refine ⟨by congr 2, ?_, ⟨hw.1.os, hw.1.tape, hw.1.output, hw.1.size, fun i hi hn => hw.1.block i hi fun e => ?_⟩, some g, hw.1, fun q hq => ?_⟩
    · unfold OwnI
      rw [marks_length]
      exact ho
    · injection e with e
      exact hn (hc i (by rw [e]; rfl))
    · injection hq with hq
      exact row_typed h q (by rw [hq]; rfl)
theorem only_cell {S : Nat → Prop} {w x : World} {g o : Nat} (h : Only S w x) (hg : g < w.heap.size) (hs : ¬ S g) : x.cell? ⟨g, o, none⟩ = w.cell? ⟨g, o, none⟩ := World.cell?_of_block (w := w) (a := ⟨g, o, none⟩) (h.block g hg hs)
theorem only_frozen {S : Nat → Prop} {w x : World} {g o : Nat} (h : Only S w x) (hg : g < w.heap.size) (hs : ¬ S g) : x.frozen? ⟨g, o, none⟩ = w.frozen? ⟨g, o, none⟩ := World.frozen?_of_block (w := w) (a := ⟨g, o, none⟩) (h.block g hg hs)
theorem OwnTxs.step {col : Nat → Nat} {B g l cc n : Nat} {w : World} {ts : List Tx} {t : Tx} (h : OwnTxs col w B (.slice (some ⟨g, 0, none⟩) l cc) ts) (hn : n < ts.length) (ht : ts[n] = t) :
    ∃ a b, TxOf col (n + 2) w B a b t ∧ (∀ x, Only (Hue col (n + 2)) w x → x.cell? ⟨g, n * 3, none⟩ = some a ∧ x.cell? ⟨g, n * 3 + 1, none⟩ = some b ∧ x.cell? ⟨g, n * 3 + 2, none⟩ = some (.int .i64 t.d) ∧ ∀ o, x.frozen? ⟨g, o, none⟩ = false) ∧ col g = 1 ∧ g < w.heap.size ∧
      ∀ x (t' : Tx), t'.d = t.d → TxOf col (n + 2) x B a b t' → Only (Hue col (n + 2)) w x → OwnTxs col x B (.slice (some ⟨g, 0, none⟩) l cc) (ts.set n t') := by
  obtain rfl := h.len_
  subst ht
  obtain ⟨xs, h1, h2, h3⟩ := h
  have hl : xs.length = ts.length * 3 := h1.1
  obtain ⟨a, b, q0, q1, q2, q3⟩ := h2 n hn
  have hgl := (World.ownsRow.lt h1 g rfl).2
  have hg1 : col g = 1 := h3 g rfl
  have hns : ¬ Hue col (n + 2) g := fun e => by
    have : col g = n + 2 := e
    omega
  refine ⟨a, b, q3, fun x hx => ⟨(only_cell hx hgl hns).trans ((World.ownsRow.cellAt h1 _ (by omega)).trans q0), (only_cell hx hgl hns).trans ((World.ownsRow.cellAt h1 _ (by omega)).trans q1), (only_cell hx hgl hns).trans ((World.ownsRow.cellAt h1 _ (by omega)).trans q2), fun o => (only_frozen hx hgl hns).trans (World.ownsRow.frozenAt h1 o)⟩, hg1, hgl, fun x t' hd hx hO => ?_⟩
  have hrow : x.ownsRow B 33 3 (.slice (some ⟨g, 0, none⟩) ts.length cc) ts.length xs := row_same h1 fun q hq => hO.block q (World.ownsRow.lt h1 q hq).2 (by
    have e : g = q := by simpa [Value.ownBlock] using hq
    rw [← e]
    exact hns)
  refine ⟨xs, by rw [List.length_set]; exact hrow, fun j hj => ?_, h3⟩
  have hj' : j < ts.length := by rw [List.length_set] at hj; exact hj
  rw [List.getElem_set]
  by_cases e : n = j
  · subst e
    rw [if_pos rfl]
    exact ⟨a, b, q0, q1, by rw [hd]; exact q2, hx⟩
  · rw [if_neg e]
    obtain ⟨a2, b2, r0, r1, r2, r3⟩ := h2 j hj'
    exact ⟨a2, b2, r0, r1, r2, r3.other hO fun i hi e9 => by have : col i = n + 2 := e9; omega⟩
theorem OwnTxs.dec_ {col : Nat → Nat} {w : World} {B g l c n : Nat} {ts : List Tx} {t : Tx} (h : OwnTxs col w B (.slice (some ⟨g, 0, none⟩) l c) ts) (hn : n < ts.length) (ht : ts[n] = t) (x : Int) :
    OwnTxs col (w.setCell ⟨g, n * 3 + 2, none⟩ (.int .i64 x)) B (.slice (some ⟨g, 0, none⟩) l c) (ts.set n ⟨t.ps, t.vs, x⟩) := by
  obtain rfl := h.len_
  subst ht
  exact (h.dec hn x).2.2
theorem OwnTxs.head {col : Nat → Nat} {B l cc : Nat} {w : World} {A : Option Addr} {ts : List Tx} (h : OwnTxs col w B (.slice A l cc) ts) (hp : 0 < ts.length) : ∃ g, A = some ⟨g, 0, none⟩ := by
  obtain rfl := h.len_
  obtain ⟨xs, h1, -⟩ := h
  obtain ⟨g, cap, e, -⟩ := World.ownsRow.form h1 hp
  injection e with e
  exact ⟨g, e⟩
def TsMarked (col : Nat → Nat) (B k : Nat) (v : Value) (ts : List Tx) (w : World) (e : Ending) (w' : World) : Prop := e = .returned (.int .i64 ((k + zTs ts : Nat) : Int)) ∧ OwnTxs col w' B v (mkTs k ts) ∧ Only (fun g => 1 ≤ col g ∧ col g < ts.length + 2) w w'
set_option maxRecDepth 100000 in
set_option maxHeartbeats 4000000 in
theorem markTxnS_C (col : Nat → Nat) (B k : Nat) (v : Value) (ts : List Tx) (w : World) (h : OwnTxs col w B v ts) (hm : ts.length ≤ 1048576) (hps : ∀ t ∈ ts, t.ps.length ≤ 1048576 ∧ t.vs.length ≤ 1048576) (hus : ∀ t ∈ ts, ∀ p ∈ t.ps, p.us.length ≤ 1048576) (h1 : 1 ≤ k) (hk : k + zTs ts ≤ 4000000) :
    Calls Tryz.prog 55 #[v, .int .i64 (k : Int)] w (TsMarked col B k v ts w) := by
  have HKM : Hid (∀ m, m ≤ ts.length → k + preS tZ ts m ≤ 4000000) := fun m hm => by
    have := preS_mono (f := tZ) (l := ts) (i := m) ts.length hm (Nat.le_refl _)
    unfold zTs at hk
    omega
  have HLN := hid (mkTs_length k ts)
  obtain ⟨A, cc, rfl, -, -⟩ := h.form
  by_cases h0 : ts.length = 0
  · have e : ts = [] := List.eq_nil_of_length_eq_zero h0
    subst e
    have hz : Hid (TsMarked col B k (.slice A 0 cc) [] w (.returned (.int .i64 (k : Int))) w) := ⟨rfl, h, Only.refl _ _⟩
    clear h HKM HLN hk hps hus hm
    go_enter Tryz.func55, Tryz.ntmps55
    go_wp2_with fail
    go_loopw [1, 5] (fun q i wr => i = .int .i64 0 ∧ q = .int .i64 (k : Int) ∧ w = wr) (fun _ _ _ => 0)
    case atStart => exact ⟨rfl, rfl, rfl⟩
    case round =>
      obtain ⟨rfl, rfl, rfl⟩ := hrel
      go_wp2
      go_ret
      exact hz.out
  · obtain ⟨g, rfl⟩ := h.head (by omega)
    have HP := hid hps
    have HU := hid hus
    have hX : OwnTxs col w B (.slice (some ⟨g, 0, none⟩) ts.length cc) (mixL (mkTs k ts) ts 0) := by rw [mixL_zero]; exact h
    clear hk hus hps h
    go_enter Tryz.func55, Tryz.ntmps55
    go_wp2_with fail
    go_loopw [1, 5] (fun q i wr => ∃ m K : Nat, m ≤ ts.length ∧ i = .int .i64 m ∧ q = .int .i64 (K : Nat) ∧ K ≤ 4000000 ∧ 1 ≤ K ∧ Hid (K = k + preS tZ ts m) ∧ OwnTxs col wr B (.slice (some ⟨g, 0, none⟩) ts.length cc) (mixL (mkTs k ts) ts m) ∧ Only (fun g => 1 ≤ col g ∧ col g < ts.length + 2) w wr) (fun _ i _ => ts.length - (intOf i).toNat)
    case atStart => exact ⟨0, k, Nat.zero_le _, rfl, rfl, by have := HKM.out 0 (Nat.zero_le _); rw [preS_zero] at this; omega, h1, by show _ = _; rw [preS_zero]; rfl, hX, Only.refl _ _⟩
    case round =>
      clear hX
      obtain ⟨m, K, hm9, rfl, rfl, hK1, hK2, HK, hX, hO⟩ := hrel
      by_cases hlt : m < ts.length
      · obtain ⟨t, ht⟩ : ∃ t, ts[m] = t := ⟨_, rfl⟩
        have hlm : m < (mixL (mkTs k ts) ts m).length := by rw [mixL_len HLN.out]; exact hlt
        obtain ⟨a, b, hT, hC, hg1, hgl, HN⟩ := hX.step hlm ((mixL_at HLN.out hlt hlm).trans ht)
        have hk2 := HKM.out (m + 1) (by omega)
        have hks := preS_succ (f := tZ) hlt
        have hpl := HP.out t (by rw [← ht]; exact List.getElem_mem hlt)
        have hul := HU.out t (by rw [← ht]; exact List.getElem_mem hlt)
        have HST : Hid ((mixL (mkTs k ts) ts m).set m (mkT K t) = mixL (mkTs k ts) ts (m + 1)) := by
          show _ = _
          rw [← mixL_set HLN.out hlt, mkTs_get hlt, ← HK.out, ht]
        have HKS : Hid (k + preS tZ ts (m + 1) = K + zPs t.ps + t.vs.length + 1) := by
          show _ = _
          rw [hks, ht, HK.out]
          unfold tZ
          omega
        rw [HKS.out] at hk2
        have k0 : 0 ≤ (m : Int) := by omega
        have k1 : (m : Int) < (ts.length : Int) := by omega
        have HNN := hid HN
        have HCC := hid hC
        have hHue : ∀ q, Hue col (m + 2) q → 1 ≤ col q ∧ col q < ts.length + 2 := fun q hq => by
          have : col q = m + 2 := hq
          omega
        have HHU := hid hHue
        have CP := hid (markPartS_C col (m + 2) B K a t.ps wr hT.1 hpl.1 hul hK2 (by omega))
        obtain ⟨A1, c1, A2, c2, rfl, rfl, -⟩ := hT.form
        obtain ⟨c0, c1', c2', cf⟩ := hC wr (Only.refl _ _)
        have HTT := hid hT
        have HML := hid hlm
        clear HN hX hC hks ht hlm hHue hT hul
        go_wp2_with fail
        refine CP.out.mono ?_
        rintro e w2 ⟨rfl, hP2, hO2, hI2⟩
        clear c0 c1' c2' cf CP
        obtain ⟨c0, c1', c2', cf⟩ := HCC.out w2 hO2
        have hV2 : OwnI w2 B (.slice A2 t.vs.length c2) t.vs := hI2 _ _ _ _ _ HTT.out.2.1
        have CI := hid (markInts_C col (m + 2) B (K + zPs t.ps) (.slice A2 t.vs.length c2) t.vs w2 hV2 HTT.out.2.2 hpl.2 (by omega))
        go_wp2_with fail
        refine CI.out.mono ?_
        rintro e w3 ⟨rfl, hV3, hO3, row, hg3, hr3⟩
        clear c0 c1' c2' cf CI
        have hP3 := hP2.keptI hg3 hr3
        have hO4 := hO2.trans hO3
        obtain ⟨c0, c1', c2', cf⟩ := HCC.out w3 hO4
        have hT3 : TxOf col (m + 2) w3 B (.slice A1 t.ps.length c1) (.slice A2 t.vs.length c2) ⟨mkPs K t.ps, marks ((K + zPs t.ps : Nat) : Int) t.vs.length, t.d⟩ := ⟨hP3, hV3, HTT.out.2.2⟩
        have hX3 := HNN.out w3 ⟨mkPs K t.ps, marks ((K + zPs t.ps : Nat) : Int) t.vs.length, t.d⟩ rfl hT3 hO4
        have hlm3 : m < ((mixL (mkTs k ts) ts m).set m ⟨mkPs K t.ps, marks ((K + zPs t.ps : Nat) : Int) t.vs.length, t.d⟩).length := by rw [List.length_set]; exact HML.out
        have hX4 := hX3.dec_ hlm3 (by rw [List.getElem_set_self]) ((K + zPs t.ps + t.vs.length : Nat) : Int)
        rw [List.set_set] at hX4
        have hX5 : OwnTxs col (w3.setCell ⟨g, m * 3 + 2, none⟩ (.int .i64 ((K + zPs t.ps + t.vs.length : Nat) : Int))) B (.slice (some ⟨g, 0, none⟩) ts.length cc) (mixL (mkTs k ts) ts (m + 1)) := by
          rw [← HST.out]
          exact hX4
        have hO5 : Only (fun g => 1 ≤ col g ∧ col g < ts.length + 2) w (w3.setCell ⟨g, m * 3 + 2, none⟩ (.int .i64 ((K + zPs t.ps + t.vs.length : Nat) : Int))) := (hO.trans (hO4.mono HHU.out)).set_ ⟨by omega, by omega⟩ _ _
        have cf2 := cf (m * 3 + 2)
        have HK3 : Hid (K + zPs t.ps + t.vs.length + 1 = k + preS tZ ts (m + 1)) := by show _ = _; rw [HKS.out]
        clear HNN HCC HTT hP2 hO2 hI2 hV2 hV3 hO3 hg3 hr3 hP3 hO4 hT3 hX3 hlm3 hX4 hO cf HST HML
        go_wp2_with fail
        go_roundw
        case rel => exact ⟨m + 1, K + zPs t.ps + t.vs.length + 1, by omega, by go_num, by congr 1, by omega, by omega, HK3, hX5, hO5⟩
        case measure => simp [intOf]; omega
      · have hm' : m = ts.length := by omega
        subst hm'
        rw [mixL_done HLN.out] at hX
        go_wp2
        go_ret
        exact ⟨by rw [HK.out]; rfl, hX, hO⟩
def band (B D n : Nat) (col : Nat → Nat) : Nat → Nat := fun g => if B ≤ g ∧ g < D then col g else n
theorem band_col {w : World} {col : Nat → Nat} {B sz n c m : Nat} {e : TypeId} {v : Value} {xs : List Value} (h : w.ownsRow B e sz v n xs) (hc : ColV col c v) : ColV (band B w.heap.size m col) c v := fun g hg => by
  unfold band
  rw [if_pos ⟨(World.ownsRow.lt h g hg).1, (World.ownsRow.lt h g hg).2⟩]
  exact hc g hg
def CMarked (B D k : Nat) (v : Value) (q : Crd) (w : World) (e : Ending) (w' : World) : Prop := e = .returned (.int .i64 ((k + zC q : Nat) : Int)) ∧ (∃ col, OwnCr col w' B v (mkC k q)) ∧ OnlyBD B D w w'
set_option maxRecDepth 100000 in
set_option maxHeartbeats 4000000 in
theorem markCoordinator_D (col : Nat → Nat) (B k : Nat) (v : Value) (q : Crd) (wx w : World) (h : OwnCr col wx B v q) (hb : Keeps B wx w) (hf : FitC q) (h1 : 1 ≤ k) (hk : k + zC q ≤ 4000000) :
    Calls Tryz.prog 25 #[v, .int .i64 (k : Int)] w (CMarked B wx.heap.size k v q w) := by
  have hf1 := hf.ts
  have hf2 := hf.os
  have hf3 := hf.ps
  have hf4 := hf.us
  obtain ⟨co, hco⟩ : ∃ co, band B wx.heap.size (q.ts.length + 2) col = co := ⟨_, rfl⟩
  have hB0 : OwnCr co wx B v q := by
    rw [← hco]
    exact h.map (fun _ _ _ _ _ _ _ hr hc => ⟨hr, band_col hr hc⟩) fun _ _ _ _ hr hc => ⟨hr, band_col hr hc⟩
  have hcS : ∀ g, co g < q.ts.length + 2 → B ≤ g ∧ g < wx.heap.size := fun g hg => by
    rw [← hco] at hg
    unfold band at hg
    by_cases e : B ≤ g ∧ g < wx.heap.size
    · exact e
    · rw [if_neg e] at hg
      omega
  have hB1 := hB0.keep hb
  obtain ⟨A, c1, A2, c2, rfl, -, -, -, -, hT, hI, hc0⟩ := hB1.form
  unfold crV at *
  have al := (Below.refl w.heap.size w).alloc (Nat.le_refl _) (.cells #[.slice A q.ts.length c1, .slice A2 q.os.length c2] 26)
  have x0 := Blk2s.new_ w 26 (.slice A q.ts.length c1) (.slice A2 q.os.length c2)
  have HC := hid hcS
  have hz : k + zTs q.ts ≤ 4000000 := by unfold zC at hk; omega
  have hDw : wx.heap.size ≤ w.heap.size := hb.1
  clear h hB0 hB1 hcS hco hb hf
  go_enter Tryz.func25, Tryz.ntmps25
  go_upto_region 1 with fail
  obtain ⟨w1, hw1⟩ : ∃ x, w.alloc (.cells #[.slice A q.ts.length c1, .slice A2 q.os.length c2] 26) = x := ⟨_, rfl⟩
  rw [hw1] at al x0 ⊢
  clear hw1
  have hT1 := hT.below al
  have hI1 := hI.below al (Nat.le_refl _)
  have CT := hid (markTxnS_C co B k (.slice A q.ts.length c1) q.ts w1 hT1 hf1 hf3 hf4 h1 hz)
  have hO0 : OnlyBD B wx.heap.size w w1 := OnlyBD.of_below al
  obtain ⟨y0, y1, -⟩ := id x0.reads
  clear hT hI al hf3 hf4
  go_wp2_with fail
  refine CT.out.mono ?_
  rintro e w2 ⟨rfl, hT2, hO2⟩
  have hI2 : OwnI w2 B (.slice A2 q.os.length c2) q.os := row_same hI1 fun g hg => hO2.block g (World.ownsRow.lt hI1 g hg).2 (by
    have := hc0 g hg
    omega)
  have x2 : Blk2s w2 w.heap.size 26 (.slice A q.ts.length c1) (.slice A2 q.os.length c2) := (hO2.block _ x0.lt fun hs => by
    have := HC.out _ hs.2
    omega).trans x0
  have CI := hid (markInts_C co 0 B (k + zTs q.ts) (.slice A2 q.os.length c2) q.os w2 hI2 hc0 hf2 hz)
  clear y0 y1 x0 CT hT1 hI1 hI2
  obtain ⟨y0, y1, -⟩ := id x2.reads
  go_wp2_with fail
  refine CI.out.mono ?_
  rintro e w3 ⟨rfl, hI3, hO3, -⟩
  have hT3 := hT2.other hO3 fun g hg hs => by
    have : co g = 0 := hs
    omega
  have hO4 : OnlyBD B wx.heap.size w w3 := (hO0.trans (OnlyBD.of_only hO2 fun g hg _ => HC.out g hg.2)).trans (OnlyBD.of_only hO3 fun g hg _ => HC.out g (by have : co g = 0 := hg; omega))
  have e1 : (mkTs k q.ts).length = q.ts.length := mkTs_length _ _
  have hR : Hid (CMarked B wx.heap.size k (.agg #[.slice A q.ts.length c1, .slice A2 q.os.length c2]) q w (.returned (.int .i64 ((k + zTs q.ts + q.os.length : Nat) : Int))) w3) := by
    refine ⟨?_, ⟨co, _, _, rfl, hT3, hI3, hc0⟩, hO4⟩
    unfold zC
    rw [Nat.add_assoc]
  clear CI y0 y1 x2 hT2 hO2 hI3 hO3 hT3 hO4
  go_wp2
  go_ret
  exact hR.out
end Go.Proofs.YteaibflloeipaaaGreatDoor
namespace Go.Proofs.YteaibflloeipaaaGreatDoor
open Go.RowKit Wo Pu Rf Co
set_option linter.unusedVariables false
set_option linter.unusedSimpArgs false
end Go.Proofs.YteaibflloeipaaaGreatDoor
namespace Go.Proofs.YteaibflloeipaaaGreatDoor
open Go.RowKit Wo Pu Rf Co
set_option linter.unusedVariables false in
set_option linter.unusedSimpArgs false in
theorem usAt_at {ps : List Part} {s : Int} {k : Nat} (hk : k < ps.length) (h1 : ps[k].s = s) (h2 : ∀ j (hj : j < ps.length), j < k → ps[j].s ≠ s) : usAt ps s = ps[k].us := by
  unfold usAt
  have : ps.find? (fun p => p.s == s) = some ps[k] := List.find?_eq_some_iff_getElem.2 ⟨by simpa using h1, k, hk, rfl, fun j hj => by simpa using h2 j (by omega) hj⟩
  rw [this]
set_option linter.unusedVariables false in
set_option linter.unusedSimpArgs false in
theorem usAt_no {ps : List Part} {s : Int} (h : ∀ j (hj : j < ps.length), ps[j].s ≠ s) : usAt ps s = [] := by
  unfold usAt
  rw [List.find?_eq_none.2 fun p hp => by obtain ⟨j, hj, rfl⟩ := List.getElem_of_mem hp; simpa using h j hj]
end Go.Proofs.YteaibflloeipaaaGreatDoor
namespace Go.Proofs.YteaibflloeipaaaGreatDoor
open Go.RowKit Wo Pu Rf Co
def ReadU (B : Nat) (us : List Up) (w : World) (e : Ending) (w' : World) : Prop := ∃ A c, e = .returned (.slice A us.length c) ∧ Row w' B A (upsV us) ∧ Below w.heap.size w w'
set_option linter.unusedSimpArgs false in
set_option linter.unusedVariables false in
set_option maxRecDepth 100000 in
set_option maxHeartbeats 8000000 in
theorem updatesFor_is (B : Nat) (A : Option Addr) (c : Nat) (A2 : Option Addr) (c2 : Nat) (t : Tx) (s : Int) (w : World) (hB : B ≤ w.heap.size) (h1 : Parts w B A t.ps) (hm : t.ps.length ≤ 1048576) :
    Calls Tryz.prog 114 #[.agg #[.slice A t.ps.length c, .slice A2 t.vs.length c2, .int .i64 t.d], .int .i64 s] w (ReadU B (usAt t.ps s) w) := by
  have b1 := (Below.refl w.heap.size w).alloc (Nat.le_refl _) (.cells #[.slice A t.ps.length c, .slice A2 t.vs.length c2, .int .i64 t.d] 33)
  have x0 := Blk3s.new_ w 33 (.slice A t.ps.length c) (.slice A2 t.vs.length c2) (.int .i64 t.d)
  go_enter Tryz.func114, Tryz.ntmps114
  go_upto_region 1 with fail
  obtain ⟨w1, hw1⟩ : ∃ x, w.alloc (.cells #[.slice A t.ps.length c, .slice A2 t.vs.length c2, .int .i64 t.d] 33) = x := ⟨_, rfl⟩
  rw [hw1] at b1 x0 ⊢
  clear hw1
  obtain ⟨y0, y1, y2, -⟩ := id x0.reads
  go_wp2_with fail
  go_loopw [10] (fun i wr => ∃ k : Nat, k ≤ t.ps.length ∧ i = .int .i64 k ∧ Hid (∀ j (hj : j < t.ps.length), j < k → t.ps[j].s ≠ s) ∧ Below w.heap.size w wr) (fun i _ => t.ps.length - (intOf i).toNat)
  case atStart => exact ⟨0, Nat.zero_le _, rfl, fun j _ h => absurd h (Nat.not_lt_zero _), b1⟩
  case round =>
    clear b1 x0 y0 y1 y2
    obtain ⟨k, hk, rfl, H, hb⟩ := hrel
    have hz := hb.size
    by_cases hlt : k < t.ps.length
    · obtain ⟨p, ad, A5, c5, hop, rfl, hbp, p0, p1, -, p3⟩ := (h1.below hb hB).part hlt
      have k0 : (0 : Int) ≤ (k : Int) := by omega
      have k1 : (k : Int) < (t.ps.length : Int) := by omega
      have al := (Below.refl wr.heap.size wr).alloc (Nat.le_refl _) (.cells #[.int .i64 p.s, .slice A5 p.us.length c5] 40)
      obtain ⟨z0, z1, -⟩ := (Blk2s.new_ wr 40 (.int .i64 p.s) (.slice A5 p.us.length c5)).reads
      have hb2 := hb.trans (al.mono hz)
      by_cases hps : p.s = s
      · have e0 : (p.s == s) = true := beq_iff_eq.2 hps
        have HU : Hid (usAt t.ps s = p.us) := by
          show _ = _
          rw [usAt_at hlt (by rw [hop]; exact hps) H.out, hop]
        have r3 := p3.below al (Nat.le_trans hB hz)
        clear hps hop H al p3
        go_wp2
        go_ret
        rw [HU.out]
        exact ⟨A5, c5, rfl, r3, hb2⟩
      · have e0 : (p.s == s) = false := beq_eq_false_iff_ne.2 hps
        have HN : Hid (∀ j (hj : j < t.ps.length), j < k + 1 → t.ps[j].s ≠ s) := fun j hj hl => by
          by_cases e : j = k
          · subst e; rw [hop]; exact hps
          · exact H.out j hj (by omega)
        clear hps hop H al p3
        go_wp2
        go_roundw
        case rel => exact ⟨k + 1, by omega, by go_num, HN, hb2⟩
        case measure => simp [intOf]; omega
    · have HU : Hid (usAt t.ps s = []) := usAt_no fun j hj => H.out j hj (by omega)
      clear H
      go_wp2
      go_ret
      rw [HU.out]
      exact ⟨none, 0, rfl, .inl rfl, hb⟩
end Go.Proofs.YteaibflloeipaaaGreatDoor
namespace Go.Proofs.YteaibflloeipaaaGreatDoor
open Go.RowKit Wo Pu Rf Co
end Go.Proofs.YteaibflloeipaaaGreatDoor
namespace Go.Proofs.YteaibflloeipaaaGreatDoor
open Go.RowKit Wo Pu Rf Co
set_option linter.unusedVariables false in
def CpD (w : World) (A : Option Addr) (n c : Nat) (A2 : Option Addr) (n2 c2 : Nat) (col : Nat → Nat) (Ao : Option Addr) (co : Nat) (out : List Tx) (wr : World) : Prop :=
  Blk2s wr w.heap.size 26 (.slice A n c) (.slice A2 n2 c2) ∧ Blk2s wr (w.heap.size + 1) 26 (.slice none 0 0) (.slice none 0 0) ∧ OwnTxs col wr w.heap.size (.slice Ao out.length co) out ∧ Below w.heap.size w wr
section
variable {w wr w4 : World} {A A2 Ao : Option Addr} {n c n2 c2 co : Nat} {col : Nat → Nat} {a' b' : Value} {out : List Tx}
set_option linter.unusedVariables false in
set_option linter.unusedSimpArgs false in
theorem CpD.later (h : CpD w A n c A2 n2 c2 col Ao co out wr) (hb : Below wr.heap.size wr w4) : CpD w A n c A2 n2 c2 col Ao co out w4 := by
  obtain ⟨h1, h2, h5, h6⟩ := h
  exact ⟨h1.later hb, h2.later hb, h5.below hb, h6.trans (hb.mono h6.size)⟩
set_option linter.unusedVariables false in
set_option linter.unusedSimpArgs false in
theorem CpD.put {t : Tx} (h : CpD w A n c A2 n2 c2 col Ao co out wr) (D : Below wr.heap.size wr w4) (hx : TxOf (fun _ => 0) 0 w4 wr.heap.size a' b' t) :
    ∃ ys, w4.ownsRow w.heap.size 33 3 (.slice Ao out.length co) out.length ys ∧ ∀ v' w1, w1.ownsRow w.heap.size 33 3 v' (out.length + 1) (ys ++ [a', b', .int .i64 t.d]) →
      (w4.alloc (.cells #[a', b', .int .i64 t.d] 33)).grownBy w1 (Value.slice Ao out.length co).ownBlock → ∃ Ao' co' col', v' = .slice Ao' (out.length + 1) co' ∧ CpD w A n c A2 n2 c2 col' Ao' co' (out ++ [t]) w1 := by
  obtain ⟨h1, h2, h5, h7⟩ := h
  obtain ⟨ys, hrow, H⟩ := h5.more D h7.size hx
  refine ⟨ys, hrow, fun v' w1 hown hg => ?_⟩
  have O := H v' w1 hown hg
  have al := (Below.refl w4.heap.size w4).alloc (Nat.le_refl _) (.cells #[a', b', .int .i64 t.d] 33)
  have hrow' := World.ownsRow.alloc hrow (.cells #[a', b', .int .i64 t.d] 33)
  have D' := D.trans (al.mono D.size)
  have k1 := (h1.later D').grown hg (blk_ne_row (h1.later D') hrow' (by decide))
  have k2 := (h2.later D').grown hg (blk_ne_row (h2.later D') hrow' (by decide))
  have bb := (h7.trans (D'.mono h7.size)).grown hg (by have := h7.size; have := D'.size; omega) (fun j hj => (World.ownsRow.lt hrow' j hj).1)
  obtain ⟨Ao', co', e, -, -⟩ := O.form
  rw [List.length_append, List.length_singleton] at e
  subst e
  refine ⟨Ao', co', paint w1 (tint wr col (out.length + 2)), rfl, k1, k2, ?_, bb⟩
  rw [List.length_append, List.length_singleton]
  exact O
end
end Go.Proofs.YteaibflloeipaaaGreatDoor
namespace Go.Proofs.YteaibflloeipaaaGreatDoor
open Go.RowKit Wo Pu Rf Co
def RefsA (zs : List Int) (w : World) (e : Ending) (w' : World) : Prop := e = .returned (.agg (ints zs).toArray) ∧ Below w.heap.size w w'
theorem ra_size {ys : List Int} (h : ys.length = 4) : (ints ys).toArray.size = 4 := by rw [List.size_toArray, ints_length, h]
theorem ra_info {ys : List Int} (h : ys.length = 4) : (Tryz.prog.info? 76).map (·.size) = some (ints ys).toArray.size := by rw [ra_size h]; exact info_ra
set_option linter.unusedSimpArgs false in
set_option linter.unusedVariables false in
set_option maxRecDepth 100000 in
set_option maxHeartbeats 4000000 in
theorem raSet_is (A : Option Addr) (c : Nat) (zs : List Int) (us : List Up) (w : World) (B : Nat) (h4 : zs.length = 4) (hu : Row w B A (upsV us)) (hB : B ≤ w.heap.size) (hr : Refs4 us) (hm : us.length ≤ 1048600) :
    Calls Tryz.prog 84 #[.agg (ints zs).toArray, .slice A us.length c] w (RefsA (setR zs us) w) := by
  have H4 := hid h4
  have HI := hid (ra_info h4)
  have HSZ := hid (ra_size h4)
  have HR := hid hr
  clear h4 hr
  go_enter Tryz.func84, Tryz.ntmps84
  have y0 := Arr4.new_ w 76 (ints zs)
  have b0 := (Below.refl w.heap.size w).alloc (Nat.le_refl _) (.cells (ints zs).toArray 76)
  obtain ⟨w1, hw1⟩ : ∃ w1, w.alloc (.cells (ints zs).toArray 76) = w1 := ⟨_, rfl⟩
  have z1 : w1.heap.size = w.heap.size + 1 := by rw [← hw1]; simp
  rw [hw1] at y0 b0
  have y1 := Arr4.new_ w1 76 (ints [0, 0, 0, 0])
  have y01 := y0.alloc (.cells (ints [0, 0, 0, 0]).toArray 76)
  have b1 := b0.alloc b0.size (.cells (ints [0, 0, 0, 0]).toArray 76)
  rw [z1] at y1
  subst hw1
  clear y0 b0 z1
  go_wp2_with fail
  go_loopw [9] (fun i wr => ∃ k : Nat, k ≤ us.length ∧ i = .int .i64 k ∧ Arr4 wr w.heap.size 76 (ints (setR zs (us.take k))) ∧ Arr4 wr (w.heap.size + 1) 76 (ints [0, 0, 0, 0]) ∧ Below w.heap.size w wr) (fun i _ => us.length - (intOf i).toNat)
  case atStart => exact ⟨0, Nat.zero_le _, rfl, by rw [List.take_zero, setR_nil]; exact y01, y1, b1⟩
  case round =>
    clear y01 y1 b1
    obtain ⟨k, hk, rfl, a0, a1, hb⟩ := hrel
    have hz := hb.size
    have hl4 : (setR zs (us.take k)).length = 4 := by rw [setR_length]; exact H4.out
    by_cases hlt : k < us.length
    · obtain ⟨o, ad3, ho3, rfl, ha3, p0, p1, p2⟩ := (hu.below hb hB).up_ hlt
      have h4 := HR.out o (by rw [← ho3]; exact List.getElem_mem hlt)
      obtain ⟨r, hr⟩ := Int.eq_ofNat_of_zero_le h4.1
      have i5 : (0 : Int) ≤ (k : Int) := by omega
      have i6 : (k : Int) < (us.length : Int) := by omega
      have i7 : (0 : Int) ≤ (r : Int) := by omega
      have i8 : (r : Int) < 4 := by omega
      rw [hr] at p0
      have al := (Below.refl wr.heap.size wr).alloc (Nat.le_refl _) (.cells #[.int .i64 (r : Int), .int .i64 o.o, .int .i64 o.n] 164)
      obtain ⟨z0, z1, z2, -⟩ := (Blk3s.new_ wr 164 (.int .i64 (r : Int)) (.int .i64 o.o) (.int .i64 o.n)).reads
      have a8 := a0.below al a0.lt
      have a18 := (a1.below al a1.lt).far (p := ⟨w.heap.size, r, none⟩) (by show w.heap.size + 1 ≠ w.heap.size; omega) (.int .i64 o.n)
      obtain ⟨vv, v0⟩ : ∃ v, (wr.alloc (.cells #[.int .i64 (r : Int), .int .i64 o.o, .int .i64 o.n] 164)).cell? ⟨w.heap.size, r, none⟩ = some v := ⟨_, a8.read (i := r) (by rw [ints_length, hl4]; omega)⟩
      have v1 := a8.frozen r
      have a9 := a8.set r (.int .i64 o.n)
      have e9 : (ints (setR zs (us.take k))).set r (.int .i64 o.n) = ints (setR zs (us.take (k + 1))) := by
        rw [List.take_succ_eq_append_getElem hlt, setR_snoc, ho3, hr]
        unfold ints
        rw [List.map_set]
        rfl
      rw [e9] at a9
      have b9 := (hb.trans (al.mono hz)).setCell (p := ⟨w.heap.size, r, none⟩) (Nat.le_refl _) (.int .i64 o.n)
      clear a0 a1 hb a8 e9 ho3 h4 hr hl4
      go_wp2
      go_roundw
      case rel => exact ⟨k + 1, by omega, by go_num, a9, a18, b9⟩
      case measure => simp [intOf]; omega
    · have hk' : k = us.length := by omega
      subst hk'
      rw [List.take_length] at a0 hl4
      have HYI := hid (ra_info hl4)
      have HYS := hid (ra_size hl4)
      obtain ⟨ys, hys⟩ : ∃ ys, setR zs us = ys := ⟨_, rfl⟩
      rw [hys] at a0 HYI HYS hl4
      have HY := hid hys
      clear hys
      have hl : wr.heap[w.heap.size]? = some (.cells (ints ys).toArray 76 (0, 0)) := a0
      have hs : wr.heap[w.heap.size + 1]? = some (.cells (ints [0, 0, 0, 0]).toArray 76 (0, 0)) := a1
      clear hl4 a0 a1
      go_wp2_with (first
        | (refine wpList_load_row rfl 76 _ rfl w.heap.size rfl 76 (ints ys).toArray (0, 0) _ hl Tryz.underlying76 rfl HYI.out ?_)
        | (refine wpList_store_rowTo rfl 76 _ _ rfl rfl (w.heap.size + 1) (ints ys).toArray rfl rfl 76 (ints [0, 0, 0, 0]).toArray hs HYI.out HYS.out.symm (ints_ones _) ?_))
      have h2 : (wr.setRow (w.heap.size + 1) (ints ys).toArray).heap[w.heap.size + 1]? = some (.cells (ints ys).toArray 76 (0, 0)) := setRow_heap wr _ _ _ _ _ hs
      have b9 := below_setRow hb (Nat.le_succ _) (ints ys).toArray
      refine bodyPost_ret (v := .agg (ints ys).toArray) (results_cell_row (p := 4) (by kernel_rfl) _ _ (w.heap.size + 1) 76 _ (0, 0) _ rfl h2 Tryz.underlying76 rfl HYI.out) rfl ⟨by rw [HY.out], b9⟩
end Go.Proofs.YteaibflloeipaaaGreatDoor
namespace Go.Proofs.YteaibflloeipaaaGreatDoor
open Go.RowKit Wo Pu Rf Lk Sh Co Si
set_option linter.unusedVariables false
set_option linter.unusedSimpArgs false
set_option maxHeartbeats 4000000 in
theorem hasPart_is (b : Bool) (B : Nat) (A : Option Addr) (c : Nat) (A2 : Option Addr) (c2 : Nat) (t : Tx) (s : Int) (w : World) (hB : B ≤ w.heap.size) (h1 : Parts w B A t.ps) (hm : t.ps.length ≤ 1048576) (hb : b = true ↔ usAt t.ps s ≠ []) :
    Calls Tryz.prog 83 #[.agg #[.slice A t.ps.length c, .slice A2 t.vs.length c2, .int .i64 t.d], .int .i64 s] w (Ret (.bool b) w) := by
  have CU : Hid (∀ y, Below w.heap.size w y → Calls Tryz.prog 114 #[.agg #[.slice A t.ps.length c, .slice A2 t.vs.length c2, .int .i64 t.d], .int .i64 s] y (ReadU B (usAt t.ps s) y)) := fun y hy => updatesFor_is B A c A2 c2 t s y (Nat.le_trans hB hy.size) (h1.below hy hB) hm
  obtain ⟨us, hus⟩ : ∃ us, usAt t.ps s = us := ⟨_, rfl⟩
  rw [hus] at CU hb
  have HB := hid hb
  clear h1 hus hb
  have b1 := (Below.refl w.heap.size w).alloc (Nat.le_refl _) (.cells #[.slice A t.ps.length c, .slice A2 t.vs.length c2, .int .i64 t.d] 33)
  have x0 := Blk3s.new_ w 33 (.slice A t.ps.length c) (.slice A2 t.vs.length c2) (.int .i64 t.d)
  go_enter Tryz.func83, Tryz.ntmps83
  go_upto_region 1 with fail
  obtain ⟨w1, hw1⟩ : ∃ x, w.alloc (.cells #[.slice A t.ps.length c, .slice A2 t.vs.length c2, .int .i64 t.d] 33) = x := ⟨_, rfl⟩
  rw [hw1] at b1 x0 ⊢
  clear hw1
  obtain ⟨y0, y1, y2, -⟩ := id x0.reads
  go_wp2_with fail
  refine (CU.out _ b1).mono ?_
  rintro e w2 ⟨Au, cu, rfl, -, d⟩
  replace b1 := b1.trans (d.mono b1.size)
  clear y0 y1 y2 x0 d CU
  rcases us with _ | ⟨u, us⟩
  · have F : Hid (b = false) := by
      show b = false
      rw [← Bool.not_eq_true]
      exact fun e => HB.out.1 e rfl
    clear HB
    go_wp2
    go_ret
    rw [F.out]
    exact .mk_ b1
  · have F : Hid (b = true) := HB.out.2 (by simp)
    clear HB
    go_wp2
    go_ret
    rw [F.out]
    exact .mk_ b1
set_option maxRecDepth 100000 in
set_option maxHeartbeats 16000000 in
theorem siteRefs_is (X : List Value) (q : Crd) (ss : List (List Rec)) (s m : Nat) (w : World) (h : Sit w w.heap.size X q ss) (hv : SV q ss) (hf : FitC q) (hs : s < ss.length) (hm : m ≤ readyN q ss) :
    Calls Tryz.prog 42 #[.agg X.toArray, .int .i64 (s : Int), .int .i64 (m : Int)] w (RefsA (refsS q ss[s] (s : Int) m) w) := by
  have hs3 : s < 3 := by have := hv.n; omega
  have HV := hid hv
  have HF := hid hf
  have HS := hid h
  have hml := Nat.le_trans hm (readyN_le q ss)
  obtain ⟨A, c, A2, c2, hx0, hx1, hT, hc, hO, hc2⟩ := h.crd
  have HX0 := hid hx0
  have HX1 := hid hx1
  have h1 := hf.ts
  have h2 := hf.os
  have HMR := hid hm
  obtain ⟨rs0, hrs0⟩ : ∃ r, ss[s] = r := ⟨_, rfl⟩
  have HR0 := hid hrs0
  rw [hrs0]
  clear h hv hf hx0 hx1 hm hrs0
  have b1 := ((Below.refl w.heap.size w).alloc (Nat.le_refl _) (.cells X.toArray 83)).alloc (by simp) (.cells (ints [0, 0, 0, 0]).toArray 76)
  have x0 := (Arr4.new_ w 83 X).alloc (.cells (ints [0, 0, 0, 0]).toArray 76)
  have z0 := Arr4.new_ (w.alloc (.cells X.toArray 83)) 76 (ints [0, 0, 0, 0])
  rw [World.size_alloc] at z0
  go_enter Tryz.func42, Tryz.ntmps42
  go_upto_region 1 with fail
  obtain ⟨w1, hw1⟩ : ∃ x, (w.alloc (.cells X.toArray 83)).alloc (.cells (ints [0, 0, 0, 0]).toArray 76) = x := ⟨_, rfl⟩
  have hw1' : (w.alloc (.cells X.toArray 83)).alloc (.cells #[.int .i64 0, .int .i64 0, .int .i64 0, .int .i64 0] 76) = w1 := hw1
  try rw [hw1']
  try rw [hw1]
  rw [hw1] at b1 x0 z0
  clear hw1 hw1'
  go_wp2_with fail
  refine (newRefs_is _).mono ?_
  rintro e w3 ⟨rfl, d⟩
  have b3 := b1.trans (d.mono b1.size)
  have x3 := x0.below d x0.lt
  have z3 := z0.below d z0.lt
  have hs3' : (w3.alloc (.cells (ints [0, 0, 0, 0]).toArray 76)).heap[w3.heap.size]? = some (.cells (ints [0, 0, 0, 0]).toArray 76 (0, 0)) := heap_alloc_new w3 _
  have d4 := (Below.refl w3.heap.size w3).alloc (Nat.le_refl _) (.cells (ints [0, 0, 0, 0]).toArray 76)
  have d5 := below_setRow d4 (Nat.le_refl _) (ints [-1, -1, -1, -1]).toArray
  have x5 := x3.below d5 x3.lt
  have z5 := z3.below d5 z3.lt
  have b5 := b3.trans (d5.mono b3.size)
  have a5 : Arr4 ((w3.alloc (.cells (ints [0, 0, 0, 0]).toArray 76)).setRow w3.heap.size (ints [-1, -1, -1, -1]).toArray) w3.heap.size 76 (ints [-1, -1, -1, -1]) := setRow_heap _ _ _ _ _ _ hs3'
  have hg3 : w.heap.size + 1 < w3.heap.size := z3.lt
  clear d d4 d5 x0 b1 x3 b3 z0 z3
  go_upto_region 2 with (refine wpList_store_rowTo rfl 76 _ _ rfl rfl w3.heap.size (ints [-1, -1, -1, -1]).toArray rfl rfl 76 (ints [0, 0, 0, 0]).toArray hs3' info_ra rfl (ints_ones _) ?_)
  clear hs3'
  obtain ⟨w5, hw5⟩ : ∃ x, (w3.alloc (.cells (ints [0, 0, 0, 0]).toArray 76)).setRow w3.heap.size (ints [-1, -1, -1, -1]).toArray = x := ⟨_, rfl⟩
  obtain ⟨g, hgg⟩ : ∃ x, w3.heap.size = x := ⟨_, rfl⟩
  have hw5' : (w3.alloc (.cells #[.int .i64 0, .int .i64 0, .int .i64 0, .int .i64 0] 76)).setRow w3.heap.size (ints [-1, -1, -1, -1]).toArray = w5 := hw5
  try rw [hw5']
  try rw [hw5]
  rw [hw5] at a5 x5 b5 z5
  rw [hgg] at a5 hg3
  try rw [hgg]
  clear hw5 hw5' hgg
  have y1 := x5.get_ HX1.out
  have i0 : (0 : Int) ≤ (m : Int) := by omega
  have i1 : (m : Int) ≤ (c2 : Int) := by omega
  go_wp2_with fail
  go_loopw [17] (fun i wr => ∃ j : Nat, j ≤ m ∧ i = .int .i64 j ∧ Arr4 wr g 76 (ints (refsS q rs0 (s : Int) j)) ∧ Arr4 wr (w.heap.size + 1) 76 (ints [0, 0, 0, 0]) ∧ Arr4 wr w.heap.size 83 X ∧ Below w.heap.size w wr) (fun i _ => m - (intOf i).toNat)
  case atStart => exact ⟨0, Nat.zero_le _, rfl, a5, z5, x5, b5⟩
  case round =>
    clear a5 x5 b5 y1 z5
    obtain ⟨j, hj, rfl, a, z, x0, hb⟩ := hrel
    have hz := hb.size
    have hl4 := refsS_len q rs0 (s : Int) j
    have y0 := x0.get_ HX0.out
    by_cases hlt : j < m
    · have hko : j < q.os.length := by omega
      obtain ⟨n, hn, eo, -⟩ := HV.out.cv.order.2 _ (List.getElem_mem hko)
      obtain ⟨ad2, rfl, hbl2, hc9⟩ := (hO.below hb (Nat.le_refl _)).int_ hko
      rw [eo] at hc9
      have hrd : haveB q ss (n : Int) = true := by rw [← eo]; exact readyN_get hko (by have := HMR.out; omega)
      have hrd2 := (haveB_iff HV.out hn).1 hrd
      obtain ⟨t, ad, A', c', A9, c9, ho, rfl, had, g0, g1, g2, -, -, g5, -⟩ := (hT.below hb (Nat.le_refl _)).tx hn
      rw [ho] at hrd2
      have htv := (HV.out.cv.txs t (by rw [← ho]; exact List.getElem_mem hn)).parts
      have hps := (HF.out.ps t (by rw [← ho]; exact List.getElem_mem hn)).1
      have HST : Hid (refsS q rs0 (s : Int) (j + 1) = if partB t (s : Int) = true then setR (refsS q rs0 (s : Int) j) (Sh.upd rs0 (n : Int)) else refsS q rs0 (s : Int) j) := by show _ = _; rw [refsS_succ hko hn eo, ho]
      have q0 : (0 : Int) ≤ (j : Int) := by omega
      have q1 : (j : Int) < (m : Int) := by omega
      have q2 : (0 : Int) ≤ (n : Int) := by omega
      have q3 : (n : Int) < (q.ts.length : Int) := by omega
      have q4 : (n : Int) < 12 := by have := HV.out.cv.many; omega
      have hn12 : n < 12 := by omega
      have q5 : (0 : Int) ≤ (s : Int) := by omega
      have q6 : (s : Int) < 3 := by omega
      have CH := hid fun (b : Bool) (hb' : b = true ↔ usAt t.ps (s : Int) ≠ []) (x : World) (hx : Below w.heap.size wr x) => hasPart_is b w.heap.size A' c' A9 c9 t (s : Int) x (Nat.le_trans hz hx.size) (g5.below hx (Nat.le_refl _)) hps hb'
      obtain ⟨pb, hpb⟩ : ∃ pb, partB t (s : Int) = pb := ⟨_, rfl⟩
      rw [hpb] at HST
      have CP := hid (CH.out pb (by rw [← hpb]; exact partB_us htv) wr ((Below.refl _ _).mono hz))
      clear CH g5 hps htv hrd
      go_wp2_with fail
      refine CP.out.mono ?_
      rintro e w7 ⟨rfl, d⟩
      replace a := a.below d a.lt
      replace z := z.below d z.lt
      replace x0 := x0.below d x0.lt
      replace hb := hb.trans (d.mono hz)
      replace hz := hb.size
      clear y0 g0 g1 g2 hc9 d CP ho eo
      cases pb with
      | false =>
        have HSU : Hid (refsS q rs0 (s : Int) (j + 1) = refsS q rs0 (s : Int) j) := by
          have := HST.out
          rw [if_neg (by decide)] at this
          exact this
        clear HST hrd2 hpb hl4
        go_wp2
        go_roundw
        case rel => exact ⟨j + 1, by omega, by go_num, by rw [HSU.out]; exact a, z, x0, hb⟩
        case measure => simp [intOf]; omega
      | true =>
        obtain ⟨j0, hj0, ej0⟩ := partB_iff.1 hpb
        obtain ⟨k, hk, ek, ea⟩ := hrd2 j0 hj0
        obtain rfl : k = s := by omega
        have ea' : Sh.ask rs0 (n : Int) = 2 := by rw [← HR0.out]; exact ea
        obtain ⟨Au, cu, hxu, hru⟩ := HS.out.upd hk hn12 ea
        rw [HR0.out] at hxu hru
        have huv : UV (Sh.upd rs0 (n : Int)) := upd_com (HV.out.vld rs0 (by rw [← HR0.out]; exact List.getElem_mem hk)) ea'
        have hul := uv_few huv
        have H4 := hid (refs4_of huv)
        have ru := hru.below hb (Nat.le_refl _)
        have HSU : Hid (refsS q rs0 (k : Int) (j + 1) = setR (refsS q rs0 (k : Int) j) (Sh.upd rs0 (n : Int))) := by
          have := HST.out
          rw [if_pos rfl] at this
          exact this
        have HXU := hid hxu
        obtain ⟨us, hus⟩ : ∃ us, Sh.upd rs0 (n : Int) = us := ⟨_, rfl⟩
        rw [hus] at HXU H4 ru HSU hul
        obtain ⟨rs, hrs⟩ : ∃ rs, refsS q rs0 (k : Int) j = rs := ⟨_, rfl⟩
        rw [hrs] at a HSU hl4
        have HI := hid (ra_info hl4)
        have HSZ := hid (ra_size hl4)
        have HL4 := hid hl4
        have hl5 : (setR rs us).length = 4 := by rw [setR_length]; exact hl4
        have HI5 := hid (ra_info hl5)
        have HSZ5 := hid (ra_size hl5)
        have y9 := x0.get_ HXU.out
        clear HST hrd2 hpb hl4 hl5 ej0 ek ea ea' hxu hru huv hus hrs
        go_upto_region 6 with fail
        refine wp_region_held_drew (S := fun x => x.cell? ⟨w.heap.size, 2 + k * 29 + 17 + n, none⟩ = some (.slice Au us.length cu)) (by kernel_rfl) y9 (fun hHeld => ?_)
        have dr := (Below.refl w7.heap.size w7).drew
        obtain ⟨w8, hW⟩ : ∃ x, w7.drew = x := ⟨_, rfl⟩
        rw [hW] at dr hHeld ⊢
        replace a := a.below dr a.lt
        replace z := z.below dr z.lt
        replace x0 := x0.below dr x0.lt
        replace ru := ru.below (dr.mono hz) (Nat.le_refl _)
        replace hb := hb.trans (dr.mono hz)
        replace hz := hb.size
        clear hW y9 dr
        try simp only [Act.put, List.getElem_toArray, List.getElem_cons_succ, List.getElem_cons_zero, List.setIfInBounds_toArray, List.set_cons_zero, List.set_cons_succ]
        refine wpAnyH_take (i := 1) (oi := _) (v := ?_) rfl (by kernel_rfl) (by kernel_rfl) (by kernel_rfl) (fun _ _ _ h => h) (Or.inl ⟨by rfl, ?_⟩) hHeld ?_
        rotate_left
        · (intro w' hSw; (try dsimp only at hSw); go_simp <;> with_reducible rfl)
        try simp only [Act.put, List.getElem_toArray, List.getElem_cons_succ, List.getElem_cons_zero, List.setIfInBounds_toArray, List.set_cons_zero, List.set_cons_succ]
        refine wpAnyH_take (i := 2) (oi := _) (v := ?_) rfl (by kernel_rfl) (by kernel_rfl) (by kernel_rfl) (fun _ _ _ h => h) (Or.inl ⟨by rfl, ?_⟩) hHeld ?_
        rotate_left
        · (intro w' hSw; (try dsimp only at hSw); go_simp <;> with_reducible rfl)
        try simp only [Act.put, List.getElem_toArray, List.getElem_cons_succ, List.getElem_cons_zero, List.setIfInBounds_toArray, List.set_cons_zero, List.set_cons_succ]
        refine wpAnyH_take (i := 3) (oi := _) (v := ?_) rfl (by kernel_rfl) (by kernel_rfl) (by kernel_rfl) (fun _ _ _ h => h) (Or.inl ⟨by rfl, ?_⟩) hHeld ?_
        rotate_left
        · (intro w' hSw; (try dsimp only at hSw); go_simp <;> with_reducible rfl)
        try simp only [Act.put, List.getElem_toArray, List.getElem_cons_succ, List.getElem_cons_zero, List.setIfInBounds_toArray, List.set_cons_zero, List.set_cons_succ]
        refine wpAnyH_take (i := 4) (oi := _) (v := ?_) rfl (by kernel_rfl) (by kernel_rfl) (by kernel_rfl) (fun _ _ _ h => h) (Or.inl ⟨by rfl, ?_⟩) hHeld ?_
        rotate_left
        · (intro w' hSw; (try dsimp only at hSw); go_simp <;> with_reducible rfl)
        try simp only [Act.put, List.getElem_toArray, List.getElem_cons_succ, List.getElem_cons_zero, List.setIfInBounds_toArray, List.set_cons_zero, List.set_cons_succ]
        refine wpAnyH_take (i := 5) (oi := _) (v := ?_) rfl (by kernel_rfl) (by kernel_rfl) (by kernel_rfl) (fun _ _ _ h => h) (Or.inl ⟨by rfl, ?_⟩) hHeld ?_
        rotate_left
        · (intro w' hSw; (try dsimp only at hSw); go_simp <;> with_reducible rfl)
        try simp only [Act.put, List.getElem_toArray, List.getElem_cons_succ, List.getElem_cons_zero, List.setIfInBounds_toArray, List.set_cons_zero, List.set_cons_succ]
        refine wpAnyH_take (i := 6) (oi := _) (v := ?_) rfl (by kernel_rfl) (by kernel_rfl) (by kernel_rfl) (fun _ _ _ h => h) (Or.inl ⟨by rfl, ?_⟩) hHeld ?_
        rotate_left
        · (intro w' hSw; (try dsimp only at hSw); go_simp <;> with_reducible rfl)
        try simp only [Act.put, List.getElem_toArray, List.getElem_cons_succ, List.getElem_cons_zero, List.setIfInBounds_toArray, List.set_cons_zero, List.set_cons_succ]
        refine wpAnyH_take (i := 7) (oi := _) (v := ?_) rfl (by kernel_rfl) (by kernel_rfl) (by kernel_rfl) (fun _ _ _ h => h) (Or.inl ⟨by rfl, ?_⟩) hHeld ?_
        rotate_left
        · (intro w' hSw; (try dsimp only at hSw); go_simp <;> with_reducible rfl)
        try simp only [Act.put, List.getElem_toArray, List.getElem_cons_succ, List.getElem_cons_zero, List.setIfInBounds_toArray, List.set_cons_zero, List.set_cons_succ]
        refine wpAnyH_ready (rs := [0]) (by kernel_rfl) (by simp) (AllReadyH.cons (o := _) rfl (fun K hK => ?_) AllReadyH.nil)
        try simp only [Act.put, List.getElem_toArray, List.getElem_cons_succ, List.getElem_cons_zero, List.setIfInBounds_toArray, List.set_cons_zero, List.set_cons_succ]
        refine wp_load_row 76 _ rfl g rfl 76 (ints rs).toArray (0, 0) _ a Tryz.underlying76 rfl HI.out ?_
        refine hK.out _ _ (x0.get_ HXU.out) (fun hHeld => ?_)
        clear hK K
        try simp only [Act.put, List.getElem_toArray, List.getElem_cons_succ, List.getElem_cons_zero, List.setIfInBounds_toArray, List.set_cons_zero, List.set_cons_succ]
        refine wpAnyH_ready (rs := [8]) (by kernel_rfl) (by simp) (AllReadyH.cons (o := _) rfl (fun K hK => ?_) AllReadyH.nil)
        try simp only [Act.put, List.getElem_toArray, List.getElem_cons_succ, List.getElem_cons_zero, List.setIfInBounds_toArray, List.set_cons_zero, List.set_cons_succ]
        go_simp
        go_at_call 84
        refine (raSet_is Au cu rs us _ w.heap.size HL4.out ru hz H4.out (by omega)).mono ?_
        rintro e w9 ⟨rfl, d⟩
        have hg9 := Nat.lt_of_lt_of_le a.lt d.size
        replace a := a.below d a.lt
        replace z := z.below d z.lt
        replace x0 := x0.below d x0.lt
        replace hb := hb.trans (d.mono hz)
        have hz9 := hb.size
        clear d ru
        refine hK.out _ _ (x0.get_ HXU.out) (fun hHeld => ?_)
        clear hK K
        try simp only [Act.put, List.getElem_toArray, List.getElem_cons_succ, List.getElem_cons_zero, List.setIfInBounds_toArray, List.set_cons_zero, List.set_cons_succ]
        refine wpAnyH_ready (rs := [9]) (by kernel_rfl) (by simp) (AllReadyH.cons (o := _) rfl (fun K hK => ?_) AllReadyH.nil)
        try simp only [Act.put, List.getElem_toArray, List.getElem_cons_succ, List.getElem_cons_zero, List.setIfInBounds_toArray, List.set_cons_zero, List.set_cons_succ]
        refine wp_store_row 76 _ _ rfl g (ints (setR rs us)).toArray rfl rfl 76 (ints rs).toArray a HI5.out (by rw [HSZ.out, HSZ5.out]) (ints_ones _) ?_
        have b9 := below_setRow (g := g) (Below.refl g w9) (Nat.le_refl _) (ints (setR rs us)).toArray
        have a9 : Arr4 (w9.setRow g (ints (setR rs us)).toArray) g 76 (ints (setR rs us)) := setRow_heap w9 _ _ _ _ _ a
        have z9 := z.below b9 hg3
        have x9 := x0.below b9 (by omega)
        have hb9 := hb.trans (b9.mono (by omega))
        refine hK.out _ _ (x9.get_ HXU.out) (fun hHeld => ?_)
        clear hK K
        try simp only [Act.put, List.getElem_toArray, List.getElem_cons_succ, List.getElem_cons_zero, List.setIfInBounds_toArray, List.set_cons_zero, List.set_cons_succ]
        refine wpAnyH_done (by kernel_rfl) ?_ _
        clear hHeld a b9
        go_wp2
        go_roundw
        case rel => exact ⟨j + 1, by omega, by go_num, by rw [HSU.out]; exact a9, z9, x9, hb9⟩
        case measure => simp [intOf]; omega
    · have hj' : j = m := by omega
      subst hj'
      have HI := hid (ra_info hl4)
      have HSZ := hid (ra_size hl4)
      obtain ⟨rs, hrs⟩ : ∃ rs, refsS q rs0 (s : Int) j = rs := ⟨_, rfl⟩
      rw [hrs] at a HI HSZ
      have HY := hid hrs
      have hl : wr.heap[g]? = some (.cells (ints rs).toArray 76 (0, 0)) := a
      have hs : wr.heap[w.heap.size + 1]? = some (.cells (ints [0, 0, 0, 0]).toArray 76 (0, 0)) := z
      clear hl4 a z hrs x0 y0
      go_wp2_with (first
        | (refine wpList_load_row rfl 76 _ rfl g rfl 76 (ints rs).toArray (0, 0) _ hl Tryz.underlying76 rfl HI.out ?_)
        | (refine wpList_store_rowTo rfl 76 _ _ rfl rfl (w.heap.size + 1) (ints rs).toArray rfl rfl 76 (ints [0, 0, 0, 0]).toArray hs HI.out HSZ.out.symm (ints_ones _) ?_))
      have h2 : (wr.setRow (w.heap.size + 1) (ints rs).toArray).heap[w.heap.size + 1]? = some (.cells (ints rs).toArray 76 (0, 0)) := setRow_heap wr _ _ _ _ _ hs
      have b9 := below_setRow hb (Nat.le_succ _) (ints rs).toArray
      refine bodyPost_ret (v := .agg (ints rs).toArray) (results_cell_row (p := 6) (by kernel_rfl) _ _ (w.heap.size + 1) 76 _ (0, 0) _ rfl h2 Tryz.underlying76 rfl HI.out) rfl ⟨by rw [HY.out], b9⟩
end Go.Proofs.YteaibflloeipaaaGreatDoor
namespace Go.Proofs.YteaibflloeipaaaGreatDoor
open Go.RowKit Wo Pu Rf Lk Sh Co Si
set_option linter.unusedVariables false
set_option linter.unusedSimpArgs false
def snTo (q : Crd) (ss : List (List Rec)) (m k : Nat) : List (List Int) := (List.range k).map fun s => refsS q (ss.getD s []) (s : Int) m
theorem snTo_next (q : Crd) (ss : List (List Rec)) (m : Nat) {k : Nat} (hk : k < ss.length) : snTo q ss m (k + 1) = snTo q ss m k ++ [refsS q ss[k] (k : Int) m] := by
  unfold snTo
  rw [List.range_succ, List.map_append]
  simp [hk]
theorem snTo_len (q : Crd) (ss : List (List Rec)) (m k : Nat) : (snTo q ss m k).length = k := by simp [snTo]
theorem Si.SnapO.no {q : Crd} {ss : List (List Rec)} {m : Int} {zss : List (List Int)} {b : Bool} (h : SnapO q ss m zss b) (hn : ¬ (SV q ss ∧ 0 ≤ m ∧ m ≤ (readyN q ss : Int))) : zss = [] ∧ b = false := by
  rcases h with ⟨k, rfl, h1, h2, -, -⟩ | ⟨-, e1, e2⟩
  · exact absurd ⟨h1, by omega, by omega⟩ hn
  · exact ⟨e1, e2⟩
theorem Si.SnapO.yes {q : Crd} {ss : List (List Rec)} {k : Nat} {zss : List (List Int)} {b : Bool} (h : SnapO q ss (k : Int) zss b) (hv : SV q ss) (hk : k ≤ readyN q ss) : zss = snTo q ss k 3 ∧ b = true := by
  rcases h with ⟨k', e, h1, h2, e1, e2⟩ | ⟨hn, -⟩
  · obtain rfl : k' = k := by omega
    exact ⟨e1, e2⟩
  · exact absurd ⟨hv, by omega, by omega⟩ hn
theorem Arr4.grownT {w w' : World} {g : Nat} {t T : TypeId} {vs : List Value} {row : Option Nat} (h : Arr4 w g t vs) (hg : w.grownBy w' row) (hr : ∀ k, row = some k → ∃ cur fr, w.heap[k]? = some (.cells cur T fr)) (hT : t ≠ T) : Arr4 w' g t vs :=
  (hg.block g h.lt (fun e => by
    obtain ⟨cur, fr, h2⟩ := hr g e.symm
    have h1 : w.heap[g]? = some (.cells vs.toArray t (0, 0)) := h
    rw [h1] at h2
    injection h2 with h2
    injection h2 with _ h2
    exact hT h2)).trans h
theorem wpList_wantH {P : Program} {ops : Array Oper} {Q : Exit → Act → World → Prop} {a : Act} {w : World} {rest : List Oper} {o : Oper} (hw : Region.wanted o (yielded ops a.tmps) = true)
    (h : ∀ K : Act → World → Prop, (∀ a w, wpList P ops Q rest a w → K a w) → o.wp P a w K Q) : wpList P ops Q (o :: rest) a w :=
  wpList_step fun K hK => by rw [if_pos hw]; exact h K hK
set_option maxRecDepth 100000 in
set_option maxHeartbeats 16000000 in
theorem implSnapshotRefs_is (zss : List (List Int)) (b : Bool) (v : Value) (q : Crd) (A3 : Option Addr) (c3 : Nat) (ss : List (List Rec)) (m : Int) (w : World) (er0 er1 : Addr) (h : Crdd w w.heap.size v q) (hl : ShL w w.heap.size A3 ss) (hE : Errs er0 er1 w) (hf : FitC q) (hfr : ∀ rs ∈ ss, FitR rs) (hm : ss.length ≤ 1048576) (hz : SnapO q ss m zss b) :
    Calls Tryz.prog 15 #[v, .slice A3 ss.length c3, .int .i64 m] w (SnapR zss b w) := by
  obtain ⟨i0, hi, hi0, hi1, hi2⟩ := info_of info_ints2
  obtain ⟨bs, hbs⟩ := bool_ofP (SV q ss)
  have HB := hid hbs
  have HZ := hid hz
  have CS : Hid (∀ y, Below w.heap.size w y → Calls Tryz.prog 35 #[v, .slice A3 ss.length c3] y (SiteB w.heap.size q ss bs y)) := fun y hy => readSiteB_is w.heap.size bs v q A3 c3 ss y er0 er1 hy.size (h.below hy (Nat.le_refl _)) (hl.below hy (Nat.le_refl _)) (hE.below hy) hf hfr hm hbs
  have CR : Hid (∀ (X : List Value) y, Sit y y.heap.size X q ss → SV q ss → Calls Tryz.prog 36 #[.agg X.toArray] y (Ret (.int .i64 (readyN q ss : Int)) y)) := fun X y hs hv => ready_is X q ss y hs hv hf
  have CA : Hid (∀ (X : List Value) (s k : Nat) y (hs : s < ss.length), Sit y y.heap.size X q ss → SV q ss → k ≤ readyN q ss → Calls Tryz.prog 42 #[.agg X.toArray, .int .i64 (s : Int), .int .i64 (k : Int)] y (RefsA (refsS q ss[s] (s : Int) k) y)) := fun X s k y hs h1 hv hk => siteRefs_is X q ss s k y h1 hv hf hs hk
  obtain ⟨A, c, A2, c2, rfl, -, hc, -, hc2⟩ := h
  clear hl hE hf hfr hbs hz
  unfold crV at *
  have b1 := ((Below.refl w.heap.size w).alloc (Nat.le_refl _) (.cells #[.slice A q.ts.length c, .slice A2 q.os.length c2] 26)).alloc (by simp) (.cells #[] 24)
  have x0 := (Blk2s.new_ w 26 (.slice A q.ts.length c) (.slice A2 q.os.length c2)).alloc (.cells #[] 24)
  have o1 := OwnLL.nil_new (w := w.alloc (.cells #[.slice A q.ts.length c, .slice A2 q.os.length c2] 26)) (B := w.heap.size) (by simp)
  rw [World.size_alloc] at o1
  go_enter Tryz.func15, Tryz.ntmps15
  go_upto_region 2 with fail
  obtain ⟨w1, hw1⟩ : ∃ x, (w.alloc (.cells #[.slice A q.ts.length c, .slice A2 q.os.length c2] 26)).alloc (.cells #[] 24) = x := ⟨_, rfl⟩
  rw [hw1] at b1 x0 o1 ⊢
  clear hw1
  obtain ⟨y0, y1, -⟩ := id x0.reads
  go_wp2_with fail
  refine (CS.out _ b1).mono ?_
  rintro e w2 ⟨X, rfl, hXL, hXO, hS, d⟩
  replace b1 := b1.trans (d.mono b1.size)
  replace o1 := o1.below d
  clear y0 y1 x0 d CS
  have HXI := hid (site_info hXL)
  have HXO := hid hXO
  have HXL := hid hXL
  have hg := heap_alloc_new w2 (.cells site0.toArray 83)
  have al := (Below.refl w2.heap.size w2).alloc (Nat.le_refl _) (.cells site0.toArray 83)
  have bb := al.trans (below_setRow (g := w2.heap.size) (Below.refl w2.heap.size (w2.alloc (.cells site0.toArray 83))) (Nat.le_refl _) X.toArray)
  have hX6 : Arr4 ((w2.alloc (.cells site0.toArray 83)).setRow w2.heap.size X.toArray) w2.heap.size 83 X := setRow_heap _ _ _ X.toArray _ _ hg
  have HS9 : Hid (bs = true → Sit ((w2.alloc (.cells site0.toArray 83)).setRow w2.heap.size X.toArray) w.heap.size X q ss) := fun e => (hS e).below bb b1.size
  replace b1 := b1.trans (bb.mono b1.size)
  replace o1 := o1.below bb
  clear hXL hXO hS al bb
  go_upto_region 3 with (refine wpList_store_rowTo rfl 83 _ _ rfl rfl w2.heap.size X.toArray rfl rfl 83 site0.toArray hg HXI.out (by rw [List.size_toArray, List.size_toArray, site0_len, HXL.out]) HXO.out ?_)
  change Code.wp _ _ _ _ ((w2.alloc (.cells site0.toArray 83)).setRow w2.heap.size X.toArray)
  obtain ⟨g, hgg⟩ : ∃ g, w2.heap.size = g := ⟨_, rfl⟩
  obtain ⟨w3, hw3⟩ : ∃ x, (w2.alloc (.cells site0.toArray 83)).setRow w2.heap.size X.toArray = x := ⟨_, rfl⟩
  rw [hw3] at hX6 b1 HS9 o1 ⊢
  rw [hgg] at hX6 ⊢
  clear hw3 hgg hg
  cases bs with
  | false =>
    have HNo : Hid (¬ (SV q ss ∧ 0 ≤ m ∧ m ≤ (readyN q ss : Int))) := fun e => by have := HB.out.2 e.1; cases this
    clear HB HS9 CR CA
    obtain ⟨ez, eb⟩ := HZ.out.no HNo.out
    subst ez eb
    go_wp2
    exact bodyPost_ret (v := .tuple #[.slice (some ⟨w.heap.size + 1, 0, none⟩) 0 0, .bool false]) (by simp [results, Tryz.results15, go_sem]) rfl ⟨_, rfl, o1, b1⟩
  | true =>
    have hsv := hid (HB.out.1 rfl)
    by_cases hm0 : m < 0
    · have e0 : decide (m < 0) = true := decide_eq_true hm0
      have HNo : Hid (¬ (SV q ss ∧ 0 ≤ m ∧ m ≤ (readyN q ss : Int))) := fun e => by have := e.2.1; omega
      clear HB HS9 CR CA hm0
      obtain ⟨ez, eb⟩ := HZ.out.no HNo.out
      subst ez eb
      go_wp2
      exact bodyPost_ret (v := .tuple #[.slice (some ⟨w.heap.size + 1, 0, none⟩) 0 0, .bool false]) (by simp [results, Tryz.results15, go_sem]) rfl ⟨_, rfl, o1, b1⟩
    obtain ⟨k, rfl⟩ := Int.eq_ofNat_of_zero_le (show 0 ≤ m by omega)
    have HS3 := hid (HS9.out rfl)
    have CX := hid (CR.out X w3 (HS3.out.more b1.size) hsv.out)
    have hld : w3.heap[g]? = some (.cells X.toArray 83 (0, 0)) := hX6
    obtain ⟨rn, hrn⟩ : ∃ rn, readyN q ss = rn := ⟨_, rfl⟩
    rw [hrn] at CX
    have HRN := hid hrn
    clear CR hrn HB hm0
    go_wp2_with (refine wpList_wantH (by simp [Region.wanted, yielded]) (fun K hK => wp_load_row 83 _ rfl g rfl 83 X.toArray (0, 0) _ hld Tryz.underlying83 rfl HXI.out (hK _ _ ?_)))
    refine CX.out.mono ?_
    rintro e w4 ⟨rfl, d⟩
    have hS4 := HS3.out.below d b1.size
    replace b1 := b1.trans (d.mono b1.size)
    replace o1 := o1.below d
    replace hX6 := hX6.below d hX6.lt
    clear d CX hld HS9 HS3
    by_cases hk : rn < k
    · have e0 : decide ((rn : Int) < (k : Int)) = true := decide_eq_true (by omega)
      have e1 : decide (rn < k) = true := decide_eq_true hk
      have HNo : Hid (¬ (SV q ss ∧ 0 ≤ (k : Int) ∧ (k : Int) ≤ (readyN q ss : Int))) := fun e => by have := e.2.2; rw [HRN.out] at this; omega
      clear CA hk hS4
      obtain ⟨ez, eb⟩ := HZ.out.no HNo.out
      subst ez eb
      go_wp2
      exact bodyPost_ret (v := .tuple #[.slice (some ⟨w.heap.size + 1, 0, none⟩) 0 0, .bool false]) (by simp [results, Tryz.results15, go_sem]) rfl ⟨_, rfl, o1, b1⟩
    · have e0 : decide ((rn : Int) < (k : Int)) = false := decide_eq_false (by omega)
      have e1 : decide (rn < k) = false := decide_eq_false hk
      have hkr : k ≤ readyN q ss := by rw [HRN.out]; omega
      have HF := hid (HZ.out.yes hsv.out hkr)
      have HKR := hid hkr
      have H3 := hid hsv.out.n
      clear hk hkr HZ HRN
      go_wp2_with fail
      go_loopw [8, 33] (fun o i wr => ∃ (j : Nat) (Ao : Option Addr) (co : Nat) (L : List (List Int)), j ≤ 3 ∧ i = .int .i64 j ∧ o = .slice Ao L.length co ∧ Hid (L = snTo q ss k j) ∧ OwnLL wr w.heap.size (.slice Ao L.length co) L ∧ Arr4 wr g 83 X ∧ Sit wr w.heap.size X q ss ∧ Below w.heap.size w wr) (fun _ i _ => 3 - (intOf i).toNat)
      case atStart => exact ⟨0, _, _, [], Nat.zero_le _, rfl, rfl, rfl, o1, hX6, hS4, b1⟩
      case round =>
        clear o1 hX6 b1 hS4
        obtain ⟨j, Ao, co, L, hj, rfl, rfl, HL, oL, hX6, hS, b1⟩ := hrel
        have hz := b1.size
        by_cases hlt : j < 3
        · have j1 : (j : Int) < 3 := by omega
          have hjs : j < ss.length := by rw [H3.out]; exact hlt
          have hLl : L.length ≤ 3 := by rw [HL.out, snTo_len]; omega
          have CX := hid (CA.out X j k wr hjs (hS.more hz) hsv.out HKR.out)
          have HN : Hid (L ++ [refsS q ss[j] (j : Int) k] = snTo q ss k (j + 1)) := by
            show _ = _
            rw [snTo_next q ss k hjs, HL.out]
          have hl4 := refsS_len q ss[j] (j : Int) k
          obtain ⟨rs, hrs⟩ : ∃ rs, refsS q ss[j] (j : Int) k = rs := ⟨_, rfl⟩
          rw [hrs] at CX HN hl4
          have hld : wr.heap[g]? = some (.cells X.toArray 83 (0, 0)) := hX6
          clear hrs HL
          go_wp2_with (refine wpList_load_row rfl 83 _ rfl g rfl 83 X.toArray (0, 0) _ hld Tryz.underlying83 rfl HXI.out ?_)
          refine CX.out.mono ?_
          rintro e w5 ⟨rfl, d⟩
          have HI := hid (ra_info hl4)
          have HSZ := hid (ra_size hl4)
          have hs5 : (w5.alloc (.cells (ints [0, 0, 0, 0]).toArray 76)).heap[w5.heap.size]? = some (.cells (ints [0, 0, 0, 0]).toArray 76 (0, 0)) := heap_alloc_new w5 _
          have d4 := (Below.refl w5.heap.size w5).alloc (Nat.le_refl _) (.cells (ints [0, 0, 0, 0]).toArray 76)
          have d5 := d4.trans (below_setRow (g := w5.heap.size) (Below.refl w5.heap.size (w5.alloc (.cells (ints [0, 0, 0, 0]).toArray 76))) (Nat.le_refl _) (ints rs).toArray)
          have dd := d.trans (d5.mono d.size)
          have a5 : Arr4 ((w5.alloc (.cells (ints [0, 0, 0, 0]).toArray 76)).setRow w5.heap.size (ints rs).toArray) w5.heap.size 76 (ints rs) := setRow_heap _ _ _ _ _ _ hs5
          replace hX6 := hX6.below dd hX6.lt
          replace oL := oL.below dd
          replace hS := hS.below dd hz
          replace b1 := b1.trans (dd.mono hz)
          clear d d4 d5 dd CX hld hz
          go_upto_region 9 with (refine wpList_store_rowTo rfl 76 _ _ rfl rfl w5.heap.size (ints rs).toArray rfl rfl 76 (ints [0, 0, 0, 0]).toArray hs5 HI.out HSZ.out.symm (ints_ones _) ?_)
          clear hs5
          obtain ⟨w6, hw6⟩ : ∃ x, (w5.alloc (.cells (ints [0, 0, 0, 0]).toArray 76)).setRow w5.heap.size (ints rs).toArray = x := ⟨_, rfl⟩
          obtain ⟨g6, hgg⟩ : ∃ x, w5.heap.size = x := ⟨_, rfl⟩
          have hw6' : (w5.alloc (.cells #[.int .i64 0, .int .i64 0, .int .i64 0, .int .i64 0] 76)).setRow w5.heap.size (ints rs).toArray = w6 := hw6
          try rw [hw6']
          try rw [hw6]
          rw [hw6] at a5 hX6 oL b1 hS
          rw [hgg] at a5
          try rw [hgg]
          clear hw6 hw6' hgg
          have CN := hid (copyNumbers_of (some ⟨g6, 0, none⟩) 4 4 rs w6 a5.row hl4 (by omega))
          have HL4 := hid hl4
          clear hl4 a5
          go_wp2_with fail
          refine CN.out.mono ?_
          rintro e w7 ⟨Aw, cw, rfl, ow, d⟩
          obtain ⟨ys, h1, h2, h3⟩ := oL
          have hylen : ys.length = L.length := by have := h1.1; omega
          have hold : ∀ i u q, i < L.length → ys[i]? = some u → u.ownBlock = some q → q < w6.heap.size := fun i u q hi hu hq => by
            obtain ⟨A', c', q0, q1⟩ := h2 i hi
            rw [q0] at hu
            injection hu with hu
            subst hu
            exact (World.ownsRow.lt q1 q hq).2
          have hnew : ∀ q, (Value.slice Aw rs.length cw).ownBlock = some q → w6.heap.size ≤ q := fun q hq => (World.ownsRow.lt ow q hq).1
          have o9 := rowB_base ow b1.size
          have oO := own_below h1 d (Nat.le_refl _)
          have oA := World.ownsRow.alloc oO (.cells #[.slice Aw rs.length cw] 24)
          have al := (Below.refl w7.heap.size w7).alloc (Nat.le_refl _) (.cells #[.slice Aw rs.length cw] 24)
          have h2A : ∀ i (hi : i < L.length), ∃ (A : Option Addr) (c : Nat), ys[i]? = some (.slice A L[i].length c) ∧ OwnI (w7.alloc (.cells #[.slice Aw rs.length cw] 24)) w.heap.size (.slice A L[i].length c) L[i] := fun i hi => by
            obtain ⟨A', c', q0, q1⟩ := h2 i hi
            exact ⟨A', c', q0, (q1.below d (Nat.le_refl _)).below al (Nat.le_refl _)⟩
          have o9A : OwnI (w7.alloc (.cells #[.slice Aw rs.length cw] 24)) w.heap.size (.slice Aw rs.length cw) rs := OwnI.below (show OwnI w7 w.heap.size (.slice Aw rs.length cw) rs from o9) al (Nat.le_refl _)
          have dd := d.trans (al.mono d.size)
          replace hX6 := hX6.below dd hX6.lt
          have b9 := b1.trans (dd.mono b1.size)
          replace hS := hS.below dd b1.size
          have hTy := row_typed oA
          clear d al ow o9 oO h1 h2 CN dd b1
          go_wp2_with (at_builtin; go_must (refine wpList_append_row _ rfl _ _ 44 rfl w.heap.size 24 i0 (.slice none 0 0) 1 24 Tryz.underlying44 hi hi0 hi1 hi2 rfl (by decide) _ L.length ys rfl oA (w7.heap.size + 1) (some ⟨w7.heap.size, 0, none⟩) 1 1 [.slice Aw rs.length cw] rfl (.inr ⟨_, rfl, Nat.lt_succ_self _, cell_one_new _ _ _⟩) rfl (by intro u hu; rw [List.mem_singleton] at hu; rw [hu]; rfl) (by unfold maxLen; omega) (by omega) b9.size ?_); intro v8 w8 hown hg; have o8 : OwnLL w8 w.heap.size v8 (L ++ [rs]) := OwnLL.app h2A h3 hylen hold hnew o9A hown hg hTy; obtain ⟨A8, c8, rfl⟩ := o8.form; have x8 := Arr4.grownT hX6 hg hTy (by decide); have b8 := b9.grown hg b9.size (fun j hj => (World.ownsRow.lt oA j hj).1); have bS8 := (Below.refl w.heap.size (w7.alloc (.cells #[.slice Aw rs.length cw] 24))).grown hg b9.size (fun j hj => (World.ownsRow.lt oA j hj).1); have s8 := hS.below bS8 (Nat.le_refl _))
          go_roundw
          case rel => exact ⟨j + 1, A8, c8, L ++ [rs], by omega, by go_num, by first | rfl | (rw [List.length_append]; rfl), HN, o8, x8, s8, b8⟩
          case measure => simp [intOf]; omega
        · have hj' : j = 3 := by omega
          subst hj'
          have HE := hid HL.out
          obtain ⟨ez, eb⟩ := HF.out
          subst eb
          rw [← HE.out] at ez
          subst ez
          clear HF HE HL CA hS hX6
          go_wp2
          exact bodyPost_ret (v := .tuple #[.slice Ao zss.length co, .bool true]) (by simp [results, Tryz.results15, go_sem]) rfl ⟨_, rfl, oL, b1⟩
end Go.Proofs.YteaibflloeipaaaGreatDoor
namespace Go.Proofs.YteaibflloeipaaaGreatDoor
open Go.RowKit Wo Pu Rf Lk Sh Co Si
set_option linter.unusedVariables false
set_option linter.unusedSimpArgs false
theorem ix_part {t : Tx} {s z : Int} (h : Ix t.ps s z) : (0 ≤ z) ↔ partB t s = true := by
  rw [partB_iff]
  rcases h with ⟨k, hk, rfl, e, -⟩ | ⟨rfl, hn⟩
  · exact ⟨fun _ => ⟨k, hk, e⟩, fun _ => by omega⟩
  · exact ⟨fun h => absurd h (by omega), fun ⟨j, hj, e⟩ => absurd e (hn j hj)⟩
theorem OwnI.row4 {w : World} {B c : Nat} {A : Option Addr} {zs : List Int} (h : OwnI w B (.slice A 4 c) zs) (hl : zs.length = 4) : Row w w.heap.size A (ints zs) := by
  rw [← hl] at h
  exact h.row
theorem field_refsI (A : Option Addr) (n c : Nat) (A2 : Option Addr) (n2 c2 : Nat) (W : World) : (Instr.field 119 (.agg #[.slice A n c, .slice A2 n2 c2]) 0).run Tryz.prog W = .ok (.slice A n c) W := by kernel_rfl
set_option maxRecDepth 100000 in
set_option maxHeartbeats 16000000 in
theorem l31Refs_is (v : Value) (q : Crd) (u : Value) (ss : List (List Rec)) (s m : Nat) (w : World) (hs : s < ss.length) (h : Crdd w w.heap.size v q) (hr : Shd w w.heap.size u ss[s]) (hv : SV q ss) (hf : FitC q) (hfr : FitR ss[s]) (hm : m ≤ readyN q ss) :
    Calls Tryz.prog 45 #[v, u, .int .i64 (s : Int), .int .i64 (m : Int)] w (IntsOf (refsS q ss[s] (s : Int) m) w) := by
  have HV := hid hv
  have HF := hid hf
  have hf2 := hf.os
  have hf1 := hf.ts
  have hml := Nat.le_trans hm (readyN_le q ss)
  have HMR := hid hm
  obtain ⟨rs0, hrs0⟩ : ∃ r, ss[s] = r := ⟨_, rfl⟩
  rw [hrs0] at hr hfr ⊢
  have HR0 := hid hrs0
  have hfr1 := hfr.1
  have HFR := hid hfr
  obtain ⟨A, c, A2, c2, rfl, hT, hc, hO, hc2⟩ := h
  obtain ⟨A5, c5, rfl, hrec, hc5⟩ := hr
  clear hv hf hm hrs0 hfr
  unfold crV shV at *
  have b1 := ((Below.refl w.heap.size w).alloc (Nat.le_refl _) (.cells #[.slice A q.ts.length c, .slice A2 q.os.length c2] 26)).alloc (by simp) (.cells #[.slice A5 rs0.length c5] 37)
  have x0 := (Blk2s.new_ w 26 (.slice A q.ts.length c) (.slice A2 q.os.length c2)).alloc (.cells #[.slice A5 rs0.length c5] 37)
  have x1 := Blk1.new_ (w.alloc (.cells #[.slice A q.ts.length c, .slice A2 q.os.length c2] 26)) 37 (.slice A5 rs0.length c5)
  rw [World.size_alloc] at x1
  go_enter Tryz.func45, Tryz.ntmps45
  go_upto_region 1 with fail
  obtain ⟨w1, hw1⟩ : ∃ x, (w.alloc (.cells #[.slice A q.ts.length c, .slice A2 q.os.length c2] 26)).alloc (.cells #[.slice A5 rs0.length c5] 37) = x := ⟨_, rfl⟩
  rw [hw1] at b1 x0 x1 ⊢
  clear hw1
  go_wp2_with fail
  refine (l21Begin_own w1).mono ?_
  rintro e w2 ⟨A3, c3, A4, c4, rfl, o3, hc3, -, -, d⟩
  have oB : OwnI w2 w.heap.size (.slice A3 4 c3) [-1, -1, -1, -1] := rowB_base o3 b1.size
  have hfr := field_refsI A3 4 c3 A4 4 c4
  have hb2 := b1.trans (d.mono b1.size)
  have y0 := x0.later d
  have y1 := x1.later d
  clear b1 x0 x1 d
  go_wp2_with fail
  go_loopw [9, 10] (fun o i wr => ∃ (k : Nat) (Ar : Option Addr) (cr : Nat) (zs : List Int), k ≤ m ∧ i = .int .i64 k ∧ o = .slice Ar 4 cr ∧ 4 ≤ cr ∧ zs.length = 4 ∧ Hid (zs = refsS q rs0 (s : Int) k) ∧ OwnI wr w.heap.size (.slice Ar 4 cr) zs ∧ Blk2s wr w.heap.size 26 (.slice A q.ts.length c) (.slice A2 q.os.length c2) ∧ Blk1 wr (w.heap.size + 1) 37 (.slice A5 rs0.length c5) ∧ Below w.heap.size w wr) (fun _ i _ => m - (intOf i).toNat)
  case atStart => exact ⟨0, _, _, _, Nat.zero_le _, rfl, rfl, hc3, rfl, rfl, oB, y0, y1, hb2⟩
  case round =>
    obtain ⟨k, Ar, cr, zs, hk, rfl, rfl, hcr, hzl, HZ, rr, x0, x1, hb⟩ := hrel
    clear o3 oB y0 y1 hb2 hc3 hfr
    have hz := hb.size
    by_cases hlt : k < m
    · have hko : k < q.os.length := by omega
      obtain ⟨n, hn, eo, -⟩ := HV.out.cv.order.2 _ (List.getElem_mem hko)
      have hrd : haveB q ss (n : Int) = true := by rw [← eo]; exact readyN_get hko (by have := HMR.out; omega)
      have hrd2 := (haveB_iff HV.out hn).1 hrd
      obtain ⟨ad2, rfl, hbl2, hc9⟩ := hO.int_ hko
      rw [eo] at hc9
      obtain ⟨t, ad, A', c', A9, c9, ho, rfl, had, g0, -, -, -, -, g5, -⟩ := hT.tx hn
      rw [ho] at hrd2
      have hps := (HF.out.ps t (by rw [← ho]; exact List.getElem_mem hn)).1
      have HST : Hid (refsS q rs0 (s : Int) (k + 1) = if partB t (s : Int) = true then setR zs (Sh.upd rs0 (n : Int)) else zs) := by show _ = _; rw [refsS_succ hko hn eo, ho, HZ.out]
      have q0 : (0 : Int) ≤ (k : Int) := by omega
      have q1 : (k : Int) < (q.os.length : Int) := by omega
      have q2 : (0 : Int) ≤ (n : Int) := by omega
      have q3 : (n : Int) < (q.ts.length : Int) := by omega
      have q4 : decide ((k : Int) < (m : Int)) = true := decide_eq_true (by omega)
      have q5 : decide (k < m) = true := decide_eq_true hlt
      obtain ⟨z, hzx⟩ := ix_ex t.ps (s : Int)
      have HS : Hid (∀ x, Blk2s x w.heap.size 26 (.slice (some ad) q.ts.length c) (.slice (some ad2) q.os.length c2) → Below w.heap.size w x → x.cell? ⟨w.heap.size, 0, none⟩ = some (.slice (some ad) q.ts.length c) ∧ x.cell? ⟨w.heap.size, 1, none⟩ = some (.slice (some ad2) q.os.length c2) ∧ x.cell? (ad2.add k) = some (.int .i64 n) ∧ x.cell? (ad.add (n * 3)) = some (.slice A' t.ps.length c')) := fun x h1 hx =>
        ⟨h1.reads.1, h1.reads.2.1, (hx.cell (by rw [add_block]; exact hbl2)).trans hc9, (hx.cell had).trans g0⟩
      have CS : Hid (∀ x, Below w.heap.size w x → Calls Tryz.prog 86 #[.slice A' t.ps.length c', .int .i64 (s : Int)] x (Same (.int .i64 z) x)) := fun x hx => l22Shard_is z A' c' t.ps (s : Int) x w.heap.size (g5.below hx (Nat.le_refl _)) (by omega) hzx
      have HX := hid hzx
      have HRD := hid hrd2
      clear hc9 g0 hps eo ho hzx hrd hrd2
      go_upto_region 5 with fail
      have D : Below wr.heap.size wr wr.drew := (Below.refl _ _).drew
      refine wp_region_held_drew (S := fun x => x.cell? ⟨w.heap.size, 0, none⟩ = some (.slice (some ad) q.ts.length c) ∧ x.cell? ⟨w.heap.size, 1, none⟩ = some (.slice (some ad2) q.os.length c2) ∧ x.cell? (ad2.add k) = some (.int .i64 n) ∧ x.cell? (ad.add (n * 3)) = some (.slice A' t.ps.length c')) (by kernel_rfl) (HS.out _ (x0.later D) (hb.trans (D.mono hz))) (fun hHeld => ?_)
      obtain ⟨W, hW⟩ : ∃ x, wr.drew = x := ⟨_, rfl⟩
      rw [hW] at D hHeld ⊢
      clear hW
      replace rr := OwnI.below rr D (Nat.le_refl _)
      replace x0 := x0.later D
      replace x1 := x1.later D
      replace hb := hb.trans (D.mono hz)
      clear D hz
      have hz := hb.size
      try simp only [Act.put, List.getElem_toArray, List.getElem_cons_succ, List.getElem_cons_zero, List.setIfInBounds_toArray, List.set_cons_zero, List.set_cons_succ]
      refine wpAnyH_take (i := 0) (oi := _) (v := ?_) rfl (by kernel_rfl) (by kernel_rfl) (by kernel_rfl) (fun _ _ _ h => h) (Or.inl ⟨by rfl, ?_⟩) hHeld ?_
      rotate_left
      · (intro w' hSw; (try dsimp only at hSw); go_simp <;> with_reducible rfl)
      try simp only [Act.put, List.getElem_toArray, List.getElem_cons_succ, List.getElem_cons_zero, List.setIfInBounds_toArray, List.set_cons_zero, List.set_cons_succ]
      refine wpAnyH_take (i := 1) (oi := _) (v := ?_) rfl (by kernel_rfl) (by kernel_rfl) (by kernel_rfl) (fun _ _ _ h => h) (Or.inl ⟨by rfl, ?_⟩) hHeld ?_
      rotate_left
      · (intro w' hSw; (try dsimp only at hSw); go_simp <;> with_reducible rfl)
      try simp only [Act.put, List.getElem_toArray, List.getElem_cons_succ, List.getElem_cons_zero, List.setIfInBounds_toArray, List.set_cons_zero, List.set_cons_succ]
      refine wpAnyH_take (i := 2) (oi := _) (v := ?_) rfl (by kernel_rfl) (by kernel_rfl) (by kernel_rfl) (fun _ _ _ h => h) (Or.inl ⟨by rfl, ?_⟩) hHeld ?_
      rotate_left
      · (intro w' hSw; (try dsimp only at hSw); go_simp <;> with_reducible rfl)
      try simp only [Act.put, List.getElem_toArray, List.getElem_cons_succ, List.getElem_cons_zero, List.setIfInBounds_toArray, List.set_cons_zero, List.set_cons_succ]
      refine wpAnyH_take (i := 3) (oi := _) (v := ?_) rfl (by kernel_rfl) (by kernel_rfl) (by kernel_rfl) (fun _ _ _ h => h) (Or.inl ⟨by rfl, ?_⟩) hHeld ?_
      rotate_left
      · (intro w' hSw; (try dsimp only at hSw); go_simp <;> with_reducible rfl)
      try simp only [Act.put, List.getElem_toArray, List.getElem_cons_succ, List.getElem_cons_zero, List.setIfInBounds_toArray, List.set_cons_zero, List.set_cons_succ]
      refine wpAnyH_take (i := 4) (oi := _) (v := ?_) rfl (by kernel_rfl) (by kernel_rfl) (by kernel_rfl) (fun _ _ _ h => h) (Or.inl ⟨by rfl, ?_⟩) hHeld ?_
      rotate_left
      · (intro w' hSw; (try dsimp only at hSw); go_simp <;> with_reducible rfl)
      try simp only [Act.put, List.getElem_toArray, List.getElem_cons_succ, List.getElem_cons_zero, List.setIfInBounds_toArray, List.set_cons_zero, List.set_cons_succ]
      refine wpAnyH_take (i := 5) (oi := _) (v := ?_) rfl (by kernel_rfl) (by kernel_rfl) (by kernel_rfl) (fun _ _ _ h => h) (Or.inl ⟨by rfl, ?_⟩) hHeld ?_
      rotate_left
      · (intro w' hSw; (try dsimp only at hSw); go_simp <;> with_reducible rfl)
      try simp only [Act.put, List.getElem_toArray, List.getElem_cons_succ, List.getElem_cons_zero, List.setIfInBounds_toArray, List.set_cons_zero, List.set_cons_succ]
      refine wpAnyH_take (i := 6) (oi := _) (v := ?_) rfl (by kernel_rfl) (by kernel_rfl) (by kernel_rfl) (fun _ _ _ h => h) (Or.inl ⟨by rfl, ?_⟩) hHeld ?_
      rotate_left
      · (intro w' hSw; (try dsimp only at hSw); go_simp <;> with_reducible rfl)
      try simp only [Act.put, List.getElem_toArray, List.getElem_cons_succ, List.getElem_cons_zero, List.setIfInBounds_toArray, List.set_cons_zero, List.set_cons_succ]
      refine wpAnyH_take (i := 7) (oi := _) (v := ?_) rfl (by kernel_rfl) (by kernel_rfl) (by kernel_rfl) (fun _ _ _ h => h) (Or.inl ⟨by rfl, ?_⟩) hHeld ?_
      rotate_left
      · (intro w' hSw; (try dsimp only at hSw); go_simp <;> with_reducible rfl)
      try simp only [Act.put, List.getElem_toArray, List.getElem_cons_succ, List.getElem_cons_zero, List.setIfInBounds_toArray, List.set_cons_zero, List.set_cons_succ]
      refine wpAnyH_take (i := 8) (oi := _) (v := ?_) rfl (by kernel_rfl) (by kernel_rfl) (by kernel_rfl) (fun _ _ _ h => h) (Or.inl ⟨by rfl, ?_⟩) hHeld ?_
      rotate_left
      · (intro w' hSw; (try dsimp only at hSw); go_simp <;> with_reducible rfl)
      try simp only [Act.put, List.getElem_toArray, List.getElem_cons_succ, List.getElem_cons_zero, List.setIfInBounds_toArray, List.set_cons_zero, List.set_cons_succ]
      refine wpAnyH_take (i := 9) (oi := _) (v := ?_) rfl (by kernel_rfl) (by kernel_rfl) (by kernel_rfl) (fun _ _ _ h => h) (Or.inl ⟨by rfl, ?_⟩) hHeld ?_
      rotate_left
      · (intro w' hSw; (try dsimp only at hSw); go_simp <;> with_reducible rfl)
      try simp only [Act.put, List.getElem_toArray, List.getElem_cons_succ, List.getElem_cons_zero, List.setIfInBounds_toArray, List.set_cons_zero, List.set_cons_succ]
      refine wpAnyH_take (i := 10) (oi := _) (v := ?_) rfl (by kernel_rfl) (by kernel_rfl) (by kernel_rfl) (fun _ _ _ h => h) (Or.inl ⟨by rfl, ?_⟩) hHeld ?_
      rotate_left
      · (intro w' hSw; (try dsimp only at hSw); go_simp <;> with_reducible rfl)
      try simp only [Act.put, List.getElem_toArray, List.getElem_cons_succ, List.getElem_cons_zero, List.setIfInBounds_toArray, List.set_cons_zero, List.set_cons_succ]
      refine wpAnyH_ready (rs := [11]) (by kernel_rfl) (by simp) (AllReadyH.cons (o := _) rfl (fun K hK => ?_) AllReadyH.nil)
      try simp only [Act.put, List.getElem_toArray, List.getElem_cons_succ, List.getElem_cons_zero, List.setIfInBounds_toArray, List.set_cons_zero, List.set_cons_succ]
      go_simp
      go_at_call 86
      refine (CS.out W hb).mono ?_
      rintro e W2 ⟨rfl, rfl⟩
      clear CS
      refine hK.out _ _ (HS.out _ x0 hb) (fun hHeld => ?_)
      clear hK K
      try simp only [Act.put, List.getElem_toArray, List.getElem_cons_succ, List.getElem_cons_zero, List.setIfInBounds_toArray, List.set_cons_zero, List.set_cons_succ]
      refine wpAnyH_take (i := 12) (oi := _) (v := ?_) rfl (by kernel_rfl) (by kernel_rfl) (by kernel_rfl) (fun _ _ _ h => h) (Or.inl ⟨by rfl, ?_⟩) hHeld ?_
      rotate_left
      · (intro w' hSw; (try dsimp only at hSw); go_simp <;> with_reducible rfl)
      try simp only [Act.put, List.getElem_toArray, List.getElem_cons_succ, List.getElem_cons_zero, List.setIfInBounds_toArray, List.set_cons_zero, List.set_cons_succ]
      refine wpAnyH_done (by kernel_rfl) ?_ _
      clear hHeld
      have HPB := hid (ix_part HX.out)
      rcases HX.out with ⟨jz, hjz, rfl, -, -⟩ | ⟨rfl, -⟩
      · have hpb := HPB.out.1 (by omega)
        obtain ⟨j0, hj0, ej0⟩ := partB_iff.1 hpb
        obtain ⟨k', hk', ek, ea⟩ := HRD.out j0 hj0
        obtain rfl : k' = s := by omega
        rw [HR0.out] at ea
        have huv : UV (Sh.upd rs0 (n : Int)) := upd_com (HV.out.vld rs0 (by rw [← HR0.out]; exact List.getElem_mem hk')) ea
        have hul := uv_few huv
        have H4 := hid (refs4_of huv)
        have HN : Hid (refsS q rs0 (k' : Int) (k + 1) = setR zs (Sh.upd rs0 (n : Int))) := by
          have := HST.out
          rw [if_pos hpb] at this
          exact this
        obtain ⟨us, hus⟩ : ∃ us, Sh.upd rs0 (n : Int) = us := ⟨_, rfl⟩
        rw [hus] at H4 HN hul
        have CUp := hid fun (y : World) (hy : Below w.heap.size w y) => l21Updates_any us A5 c5 rs0 (n : Int) y ((hrec.below hy (Nat.le_refl _)).more hy.size) (by omega) hus
        clear hpb HPB ej0 ek ea huv hus HRD HX HST
        go_upto_region 6 with fail
        have D : Below W.heap.size W W.drew := (Below.refl _ _).drew
        refine wp_region_held_drew (S := fun x => (x.cell? ⟨w.heap.size, 0, none⟩ = some (.slice (some ad) q.ts.length c) ∧ x.cell? ⟨w.heap.size, 1, none⟩ = some (.slice (some ad2) q.os.length c2) ∧ x.cell? (ad2.add k) = some (.int .i64 n) ∧ x.cell? (ad.add (n * 3)) = some (.slice A' t.ps.length c')) ∧ x.cell? ⟨w.heap.size + 1, 0, none⟩ = some (.slice A5 rs0.length c5)) (by kernel_rfl) ⟨HS.out _ (x0.later D) (hb.trans (D.mono hz)), (x1.later D).reads.1⟩ (fun hHeld => ?_)
        obtain ⟨W3, hW⟩ : ∃ x, W.drew = x := ⟨_, rfl⟩
        rw [hW] at D hHeld ⊢
        clear hW
        replace rr := OwnI.below rr D (Nat.le_refl _)
        replace x0 := x0.later D
        replace x1 := x1.later D
        replace hb := hb.trans (D.mono hz)
        clear D hz
        have hz := hb.size
        try simp only [Act.put, List.getElem_toArray, List.getElem_cons_succ, List.getElem_cons_zero, List.setIfInBounds_toArray, List.set_cons_zero, List.set_cons_succ]
        refine wpAnyH_take (i := 0) (oi := _) (v := ?_) rfl (by kernel_rfl) (by kernel_rfl) (by kernel_rfl) (fun _ _ _ h => h) (Or.inl ⟨by rfl, ?_⟩) hHeld ?_
        rotate_left
        · (intro w' hSw; (try dsimp only at hSw); go_simp <;> with_reducible rfl)
        try simp only [Act.put, List.getElem_toArray, List.getElem_cons_succ, List.getElem_cons_zero, List.setIfInBounds_toArray, List.set_cons_zero, List.set_cons_succ]
        refine wpAnyH_take (i := 1) (oi := _) (v := ?_) rfl (by kernel_rfl) (by kernel_rfl) (by kernel_rfl) (fun _ _ _ h => h) (Or.inl ⟨by rfl, ?_⟩) hHeld ?_
        rotate_left
        · (intro w' hSw; (try dsimp only at hSw); go_simp <;> with_reducible rfl)
        try simp only [Act.put, List.getElem_toArray, List.getElem_cons_succ, List.getElem_cons_zero, List.setIfInBounds_toArray, List.set_cons_zero, List.set_cons_succ]
        refine wpAnyH_take (i := 2) (oi := _) (v := ?_) rfl (by kernel_rfl) (by kernel_rfl) (by kernel_rfl) (fun _ _ _ h => h) (Or.inl ⟨by rfl, ?_⟩) hHeld ?_
        rotate_left
        · (intro w' hSw; (try dsimp only at hSw); go_simp <;> with_reducible rfl)
        try simp only [Act.put, List.getElem_toArray, List.getElem_cons_succ, List.getElem_cons_zero, List.setIfInBounds_toArray, List.set_cons_zero, List.set_cons_succ]
        refine wpAnyH_take (i := 3) (oi := _) (v := ?_) rfl (by kernel_rfl) (by kernel_rfl) (by kernel_rfl) (fun _ _ _ h => h) (Or.inl ⟨by rfl, ?_⟩) hHeld ?_
        rotate_left
        · (intro w' hSw; (try dsimp only at hSw); go_simp <;> with_reducible rfl)
        try simp only [Act.put, List.getElem_toArray, List.getElem_cons_succ, List.getElem_cons_zero, List.setIfInBounds_toArray, List.set_cons_zero, List.set_cons_succ]
        refine wpAnyH_take (i := 4) (oi := _) (v := ?_) rfl (by kernel_rfl) (by kernel_rfl) (by kernel_rfl) (fun _ _ _ h => h) (Or.inl ⟨by rfl, ?_⟩) hHeld ?_
        rotate_left
        · (intro w' hSw; (try dsimp only at hSw); go_simp <;> with_reducible rfl)
        try simp only [Act.put, List.getElem_toArray, List.getElem_cons_succ, List.getElem_cons_zero, List.setIfInBounds_toArray, List.set_cons_zero, List.set_cons_succ]
        refine wpAnyH_take (i := 5) (oi := _) (v := ?_) rfl (by kernel_rfl) (by kernel_rfl) (by kernel_rfl) (fun _ _ _ h => h) (Or.inl ⟨by rfl, ?_⟩) hHeld ?_
        rotate_left
        · (intro w' hSw; (try dsimp only at hSw); go_simp <;> with_reducible rfl)
        try simp only [Act.put, List.getElem_toArray, List.getElem_cons_succ, List.getElem_cons_zero, List.setIfInBounds_toArray, List.set_cons_zero, List.set_cons_succ]
        refine wpAnyH_take (i := 6) (oi := _) (v := ?_) rfl (by kernel_rfl) (by kernel_rfl) (by kernel_rfl) (fun _ _ _ h => h) (Or.inl ⟨by rfl, ?_⟩) hHeld ?_
        rotate_left
        · (intro w' hSw; (try dsimp only at hSw); go_simp <;> with_reducible rfl)
        try simp only [Act.put, List.getElem_toArray, List.getElem_cons_succ, List.getElem_cons_zero, List.setIfInBounds_toArray, List.set_cons_zero, List.set_cons_succ]
        refine wpAnyH_take (i := 7) (oi := _) (v := ?_) rfl (by kernel_rfl) (by kernel_rfl) (by kernel_rfl) (fun _ _ _ h => h) (Or.inl ⟨by rfl, ?_⟩) hHeld ?_
        rotate_left
        · (intro w' hSw; (try dsimp only at hSw); go_simp <;> with_reducible rfl)
        try simp only [Act.put, List.getElem_toArray, List.getElem_cons_succ, List.getElem_cons_zero, List.setIfInBounds_toArray, List.set_cons_zero, List.set_cons_succ]
        refine wpAnyH_ready (rs := [8]) (by kernel_rfl) (by simp) (AllReadyH.cons (o := _) rfl (fun K hK => ?_) AllReadyH.nil)
        try simp only [Act.put, List.getElem_toArray, List.getElem_cons_succ, List.getElem_cons_zero, List.setIfInBounds_toArray, List.set_cons_zero, List.set_cons_succ]
        go_simp
        go_at_call 88
        refine (CUp.out W3 hb).mono ?_
        rintro e W4 ⟨A8, c8, rfl, hc8, r8, d⟩
        replace rr := OwnI.below rr d (Nat.le_refl _)
        replace x0 := x0.later d
        replace x1 := x1.later d
        replace hb := hb.trans (d.mono hz)
        clear d CUp
        refine hK.out _ _ ⟨HS.out _ x0 hb, x1.reads.1⟩ (fun hHeld => ?_)
        clear hK K
        try simp only [Act.put, List.getElem_toArray, List.getElem_cons_succ, List.getElem_cons_zero, List.setIfInBounds_toArray, List.set_cons_zero, List.set_cons_succ]
        have CL := hid (l11Set_any Ar A8 cr c8 zs us W4 (OwnI.row4 rr hzl) hzl r8 H4.out (by omega))
        rw [hzl] at CL
        refine wpAnyH_ready (rs := [9]) (by kernel_rfl) (by simp) (AllReadyH.cons (o := _) rfl (fun K hK => ?_) AllReadyH.nil)
        try simp only [Act.put, List.getElem_toArray, List.getElem_cons_succ, List.getElem_cons_zero, List.setIfInBounds_toArray, List.set_cons_zero, List.set_cons_succ]
        go_simp
        go_at_call 87
        refine CL.out.mono ?_
        rintro e W5 ⟨A6, c6, rfl, o6, d6⟩
        have hl6 : (setR zs us).length = 4 := by rw [setR_length]; exact hzl
        obtain ⟨A7, c7, e7, -, hc6⟩ := o6.form
        injection e7 with e7 e8 e9
        subst e9
        have r6 : OwnI W5 w.heap.size (.slice A6 4 c6) (setR zs us) := rowB_base (by rw [hl6] at o6; exact o6) hb.size
        rw [hl6] at hc6 ⊢
        clear e7 e8
        have hb6 := hb.trans (d6.mono hb.size)
        have x6 := x0.later d6
        have x16 := x1.later d6
        clear CL o6 d6
        refine hK.out _ _ ⟨HS.out _ x6 hb6, x16.reads.1⟩ (fun hHeld => ?_)
        clear hK K
        try simp only [Act.put, List.getElem_toArray, List.getElem_cons_succ, List.getElem_cons_zero, List.setIfInBounds_toArray, List.set_cons_zero, List.set_cons_succ]
        refine wpAnyH_take (i := 10) (oi := _) (v := ?_) rfl (by kernel_rfl) (by kernel_rfl) (by kernel_rfl) (fun _ _ _ h => h) (Or.inl ⟨by rfl, ?_⟩) hHeld ?_
        rotate_left
        · (intro w' hSw; (try dsimp only at hSw); go_simp <;> with_reducible rfl)
        try simp only [Act.put, List.getElem_toArray, List.getElem_cons_succ, List.getElem_cons_zero, List.setIfInBounds_toArray, List.set_cons_zero, List.set_cons_succ]
        refine wpAnyH_done (by kernel_rfl) ?_ _
        clear hHeld HS r8 hc8
        go_wp2
        go_roundw
        case rel => exact ⟨k + 1, A6, c6, setR zs us, by omega, by go_num, rfl, hc6, hl6, HN.out.symm, r6, x6, x16, hb6⟩
        case measure => simp [intOf]; omega
      · have hpb : ¬ partB t (s : Int) = true := fun e => by have := HPB.out.2 e; omega
        have HN : Hid (refsS q rs0 (s : Int) (k + 1) = zs) := by
          have := HST.out
          rw [if_neg hpb] at this
          exact this
        clear hpb HPB HRD HX HST HS
        go_wp2
        go_roundw
        case rel => exact ⟨k + 1, Ar, cr, zs, by omega, by go_num, rfl, hcr, hzl, HN.out.symm, rr, x0, x1, hb⟩
        case measure => simp [intOf]; omega
    · have hk' : k = m := by omega
      subst hk'
      have q4 : decide ((k : Int) < (k : Int)) = false := decide_eq_false (by omega)
      go_wp2
      go_ret
      have e := HZ.out
      subst e
      exact ⟨Ar, cr, by rw [hzl]; rfl, by rw [hzl]; exact rr, hb⟩
end Go.Proofs.YteaibflloeipaaaGreatDoor
namespace Go.Proofs.YteaibflloeipaaaGreatDoor
open Go.RowKit Wo Pu Rf Lk Sh Co Si
set_option linter.unusedVariables false
set_option linter.unusedSimpArgs false
set_option maxRecDepth 100000 in
set_option maxHeartbeats 16000000 in
theorem specSnapshotRefs_is (zss : List (List Int)) (b : Bool) (v : Value) (q : Crd) (A3 : Option Addr) (c3 : Nat) (ss : List (List Rec)) (m : Int) (w : World) (h : Crdd w w.heap.size v q) (hl : ShL w w.heap.size A3 ss) (hf : FitC q) (hfr : ∀ rs ∈ ss, FitR rs) (hm : ss.length ≤ 1048576) (hz : SnapO q ss m zss b) :
    Calls Tryz.prog 16 #[v, .slice A3 ss.length c3, .int .i64 m] w (SnapR zss b w) := by
  obtain ⟨i0, hi, hi0, hi1, hi2⟩ := info_of info_ints2
  obtain ⟨z, hrz⟩ := readyO_ex q ss
  obtain ⟨bm, hbm⟩ := bool_of (0 ≤ m ∧ m ≤ z)
  have HZ := hid hz
  have HRZ := hid hrz
  have HBM := hid hbm
  have CS : Hid (∀ y, Below w.heap.size w y → Calls Tryz.prog 12 #[v, .slice A3 ss.length c3] y (Ret (.int .i64 z) y)) := fun y hy => specSnapshotReady_is z v q A3 c3 ss y (h.on hy hy.size) (hl.on hy) hf hfr hm hrz
  have CI : Hid (∀ y, Calls Tryz.prog 44 #[.int .i64 m, .int .i64 0, .int .i64 z] y (Same (.bool bm) y)) := fun y => l6In_is bm _ _ _ y hbm
  have CR : Hid (∀ (s k : Nat) (u : Value) y (hs : s < ss.length), Below w.heap.size w y → Shd y y.heap.size u ss[s] → SV q ss → k ≤ readyN q ss → Calls Tryz.prog 45 #[v, u, .int .i64 (s : Int), .int .i64 (k : Int)] y (IntsOf (refsS q ss[s] (s : Int) k) y)) := fun s k u y hs hy hu hv hk => l31Refs_is v q u ss s k y hs (h.on hy hy.size) hu hv hf (hfr _ (List.getElem_mem hs)) hk
  obtain ⟨A, c, A2, c2, rfl, -, hc, -, hc2⟩ := h
  clear hf hfr hz hrz hbm
  unfold crV at *
  have b1 := ((Below.refl w.heap.size w).alloc (Nat.le_refl _) (.cells #[.slice A q.ts.length c, .slice A2 q.os.length c2] 26)).alloc (by simp) (.cells #[] 24)
  have x0 := (Blk2s.new_ w 26 (.slice A q.ts.length c) (.slice A2 q.os.length c2)).alloc (.cells #[] 24)
  have o1 := OwnLL.nil_new (w := w.alloc (.cells #[.slice A q.ts.length c, .slice A2 q.os.length c2] 26)) (B := w.heap.size) (by simp)
  rw [World.size_alloc] at o1
  go_enter Tryz.func16, Tryz.ntmps16
  go_upto_region 2 with fail
  obtain ⟨w1, hw1⟩ : ∃ x, (w.alloc (.cells #[.slice A q.ts.length c, .slice A2 q.os.length c2] 26)).alloc (.cells #[] 24) = x := ⟨_, rfl⟩
  rw [hw1] at b1 x0 o1 ⊢
  clear hw1
  obtain ⟨y0, y1, -⟩ := id x0.reads
  go_wp2_with fail
  refine (CS.out _ b1).mono ?_
  rintro e w2 ⟨rfl, d⟩
  replace b1 := b1.trans (d.mono b1.size)
  replace o1 := o1.below d
  replace x0 := x0.later d
  clear y0 y1 d CS
  obtain ⟨y0, y1, -⟩ := id x0.reads
  go_wp2_with fail
  refine (CI.out _).mono ?_
  rintro e w3 ⟨rfl, rfl⟩
  clear CI
  cases bm with
  | false =>
    have HNo : ¬ (SV q ss ∧ 0 ≤ m ∧ m ≤ (readyN q ss : Int)) := fun e => by
      have hr := HRZ.out.yes e.1
      have := HBM.out.2 ⟨e.2.1, by rw [hr]; exact e.2.2⟩
      cases this
    obtain ⟨ez, eb⟩ := HZ.out.no HNo
    subst ez eb
    clear HZ HRZ HBM CR HNo
    go_wp2
    exact bodyPost_ret (v := .tuple #[.slice (some ⟨w.heap.size + 1, 0, none⟩) 0 0, .bool false]) (by simp [results, Tryz.results16, go_sem]) rfl ⟨_, rfl, o1, b1⟩
  | true =>
    have hm2 := HBM.out.1 rfl
    have hsv : SV q ss := Classical.byContradiction fun hn => by
      have := HRZ.out.no hn
      omega
    have HSV := hid hsv
    have hr := HRZ.out.yes hsv
    obtain ⟨k, rfl⟩ := Int.eq_ofNat_of_zero_le hm2.1
    have hkr : k ≤ readyN q ss := by omega
    have HF := hid (HZ.out.yes hsv hkr)
    have HKR := hid hkr
    have h3 := hsv.n
    have H3 := hid h3
    clear HZ HRZ HBM hm2 hsv hr hkr h3
    go_wp2_with fail
    go_loopw [8, 9] (fun o i wr => ∃ (j : Nat) (Ao : Option Addr) (co : Nat) (L : List (List Int)), j ≤ ss.length ∧ i = .int .i64 j ∧ o = .slice Ao L.length co ∧ Hid (L = snTo q ss k j) ∧ OwnLL wr w.heap.size (.slice Ao L.length co) L ∧ Blk2s wr w.heap.size 26 (.slice A q.ts.length c) (.slice A2 q.os.length c2) ∧ Below w.heap.size w wr) (fun _ i _ => ss.length - (intOf i).toNat)
    case atStart => exact ⟨0, _, _, [], Nat.zero_le _, rfl, rfl, rfl, o1, x0, b1⟩
    case round =>
      clear o1 x0 b1 y0 y1
      obtain ⟨j, Ao, co, L, hj, rfl, rfl, HL, oL, x0, b1⟩ := hrel
      have hz := b1.size
      by_cases hlt : j < ss.length
      · obtain ⟨rs, ad, A', c', ho, rfl, had, hc9, hcc, hrec⟩ := hl.at_ hlt
        have HSC : Hid (∀ x, Below w.heap.size w x → x.cell? (ad.add j) = some (.slice A' rs.length c') ∧ Shd x x.heap.size (shV A' rs.length c') ss[j]) := fun x hx => ⟨(hx.cell had).trans hc9, by rw [ho]; exact ⟨A', c', rfl, (hrec.below hx (Nat.le_refl _)).more hx.size, hcc⟩⟩
        have j0 : (0 : Int) ≤ (j : Int) := by omega
        have j1 : (j : Int) < (ss.length : Int) := by omega
        have hLl : L.length ≤ 3 := by have := H3.out; rw [HL.out, snTo_len]; omega
        have CX : Hid (∀ y, Below w.heap.size w y → Calls Tryz.prog 45 #[.agg #[.slice A q.ts.length c, .slice A2 q.os.length c2], shV A' rs.length c', .int .i64 (j : Int), .int .i64 (k : Int)] y (IntsOf (refsS q ss[j] (j : Int) k) y)) := fun y hy => CR.out j k _ y hlt hy (HSC.out y hy).2 HSV.out HKR.out
        have HN : Hid (L ++ [refsS q ss[j] (j : Int) k] = snTo q ss k (j + 1)) := by
          show _ = _
          rw [snTo_next q ss k hlt, HL.out]
        have hl4 := refsS_len q ss[j] (j : Int) k
        obtain ⟨zs, hzs⟩ : ∃ zs, refsS q ss[j] (j : Int) k = zs := ⟨_, rfl⟩
        rw [hzs] at CX HN hl4
        have HL4 := hid hl4
        unfold shV at CX
        clear hzs HL ho hc9 hrec hl4
        go_upto_region 7 with fail
        have dr := (Below.refl wr.heap.size wr).drew
        refine wp_region_held_drew (S := fun x => x.cell? ⟨w.heap.size, 0, none⟩ = some (.slice A q.ts.length c) ∧ x.cell? ⟨w.heap.size, 1, none⟩ = some (.slice A2 q.os.length c2) ∧ x.cell? (ad.add j) = some (.slice A' rs.length c')) (by kernel_rfl) ⟨(x0.later dr).reads.1, (x0.later dr).reads.2.1, (HSC.out _ (b1.trans (dr.mono hz))).1⟩ (fun hHeld => ?_)
        obtain ⟨w5, hW⟩ : ∃ x, wr.drew = x := ⟨_, rfl⟩
        rw [hW] at dr hHeld ⊢
        replace x0 := x0.later dr
        replace oL := oL.below dr
        replace b1 := b1.trans (dr.mono hz)
        clear hW dr hz
        try simp only [Act.put, List.getElem_toArray, List.getElem_cons_succ, List.getElem_cons_zero, List.setIfInBounds_toArray, List.set_cons_zero, List.set_cons_succ]
        refine wpAnyH_take (i := 0) (oi := _) (v := ?_) rfl (by kernel_rfl) (by kernel_rfl) (by kernel_rfl) (fun _ _ _ h => h) (Or.inl ⟨by rfl, ?_⟩) hHeld ?_
        rotate_left
        · (intro w' hSw; (try dsimp only at hSw); go_simp <;> with_reducible rfl)
        try simp only [Act.put, List.getElem_toArray, List.getElem_cons_succ, List.getElem_cons_zero, List.setIfInBounds_toArray, List.set_cons_zero, List.set_cons_succ]
        refine wpAnyH_take (i := 1) (oi := _) (v := ?_) rfl (by kernel_rfl) (by kernel_rfl) (by kernel_rfl) (fun _ _ _ h => h) (Or.inl ⟨by rfl, ?_⟩) hHeld ?_
        rotate_left
        · (intro w' hSw; (try dsimp only at hSw); go_simp <;> with_reducible rfl)
        try simp only [Act.put, List.getElem_toArray, List.getElem_cons_succ, List.getElem_cons_zero, List.setIfInBounds_toArray, List.set_cons_zero, List.set_cons_succ]
        refine wpAnyH_take (i := 2) (oi := _) (v := ?_) rfl (by kernel_rfl) (by kernel_rfl) (by kernel_rfl) (fun _ _ _ h => h) (Or.inl ⟨by rfl, ?_⟩) hHeld ?_
        rotate_left
        · (intro w' hSw; (try dsimp only at hSw); go_simp <;> with_reducible rfl)
        try simp only [Act.put, List.getElem_toArray, List.getElem_cons_succ, List.getElem_cons_zero, List.setIfInBounds_toArray, List.set_cons_zero, List.set_cons_succ]
        refine wpAnyH_take (i := 3) (oi := _) (v := ?_) rfl (by kernel_rfl) (by kernel_rfl) (by kernel_rfl) (fun _ _ _ h => h) (Or.inl ⟨by rfl, ?_⟩) hHeld ?_
        rotate_left
        · (intro w' hSw; (try dsimp only at hSw); go_simp <;> with_reducible rfl)
        try simp only [Act.put, List.getElem_toArray, List.getElem_cons_succ, List.getElem_cons_zero, List.setIfInBounds_toArray, List.set_cons_zero, List.set_cons_succ]
        refine wpAnyH_take (i := 4) (oi := _) (v := ?_) rfl (by kernel_rfl) (by kernel_rfl) (by kernel_rfl) (fun _ _ _ h => h) (Or.inl ⟨by rfl, ?_⟩) hHeld ?_
        rotate_left
        · (intro w' hSw; (try dsimp only at hSw); go_simp <;> with_reducible rfl)
        try simp only [Act.put, List.getElem_toArray, List.getElem_cons_succ, List.getElem_cons_zero, List.setIfInBounds_toArray, List.set_cons_zero, List.set_cons_succ]
        refine wpAnyH_take (i := 5) (oi := _) (v := ?_) rfl (by kernel_rfl) (by kernel_rfl) (by kernel_rfl) (fun _ _ _ h => h) (Or.inl ⟨by rfl, ?_⟩) hHeld ?_
        rotate_left
        · (intro w' hSw; (try dsimp only at hSw); go_simp <;> with_reducible rfl)
        try simp only [Act.put, List.getElem_toArray, List.getElem_cons_succ, List.getElem_cons_zero, List.setIfInBounds_toArray, List.set_cons_zero, List.set_cons_succ]
        refine wpAnyH_take (i := 6) (oi := _) (v := ?_) rfl (by kernel_rfl) (by kernel_rfl) (by kernel_rfl) (fun _ _ _ h => h) (Or.inl ⟨by rfl, ?_⟩) hHeld ?_
        rotate_left
        · (intro w' hSw; (try dsimp only at hSw); go_simp <;> with_reducible rfl)
        try simp only [Act.put, List.getElem_toArray, List.getElem_cons_succ, List.getElem_cons_zero, List.setIfInBounds_toArray, List.set_cons_zero, List.set_cons_succ]
        refine wpAnyH_take (i := 7) (oi := _) (v := ?_) rfl (by kernel_rfl) (by kernel_rfl) (by kernel_rfl) (fun _ _ _ h => h) (Or.inl ⟨by rfl, ?_⟩) hHeld ?_
        rotate_left
        · (intro w' hSw; (try dsimp only at hSw); go_simp <;> with_reducible rfl)
        try simp only [Act.put, List.getElem_toArray, List.getElem_cons_succ, List.getElem_cons_zero, List.setIfInBounds_toArray, List.set_cons_zero, List.set_cons_succ]
        refine wpAnyH_ready (rs := [8]) (by kernel_rfl) (by simp) (AllReadyH.cons (o := _) rfl (fun K hK => ?_) AllReadyH.nil)
        try simp only [Act.put, List.getElem_toArray, List.getElem_cons_succ, List.getElem_cons_zero, List.setIfInBounds_toArray, List.set_cons_zero, List.set_cons_succ]
        go_simp
        go_at_call 45
        refine (CX.out w5 b1).mono ?_
        rintro e w7 ⟨Aw, cw, rfl, ow, d⟩
        obtain ⟨ys, h1, h2, h3⟩ := oL
        have hylen : ys.length = L.length := by have := h1.1; omega
        have hold : ∀ i u q, i < L.length → ys[i]? = some u → u.ownBlock = some q → q < w5.heap.size := fun i u q hi hu hq => by
          obtain ⟨A', c', q0, q1⟩ := h2 i hi
          rw [q0] at hu
          injection hu with hu
          subst hu
          exact (World.ownsRow.lt q1 q hq).2
        have hnew : ∀ q, (Value.slice Aw zs.length cw).ownBlock = some q → w5.heap.size ≤ q := fun q hq => (World.ownsRow.lt ow q hq).1
        have o9 := rowB_base ow b1.size
        have oO := own_below h1 d (Nat.le_refl _)
        have oA := World.ownsRow.alloc oO (.cells #[.slice Aw zs.length cw] 24)
        have al := (Below.refl w7.heap.size w7).alloc (Nat.le_refl _) (.cells #[.slice Aw zs.length cw] 24)
        have h2A : ∀ i (hi : i < L.length), ∃ (A : Option Addr) (c : Nat), ys[i]? = some (.slice A L[i].length c) ∧ OwnI (w7.alloc (.cells #[.slice Aw zs.length cw] 24)) w.heap.size (.slice A L[i].length c) L[i] := fun i hi => by
          obtain ⟨A', c', q0, q1⟩ := h2 i hi
          exact ⟨A', c', q0, (q1.below d (Nat.le_refl _)).below al (Nat.le_refl _)⟩
        have o9A : OwnI (w7.alloc (.cells #[.slice Aw zs.length cw] 24)) w.heap.size (.slice Aw zs.length cw) zs := OwnI.below (show OwnI w7 w.heap.size (.slice Aw zs.length cw) zs from o9) al (Nat.le_refl _)
        have b7 := b1.trans (d.mono b1.size)
        have x7 := x0.later d
        have x9 := x7.later al
        have b9 := b7.trans (al.mono b7.size)
        have hTy := row_typed oA
        refine hK.out _ _ ⟨x7.reads.1, x7.reads.2.1, (HSC.out _ b7).1⟩ (fun hHeld => ?_)
        clear hK K
        try simp only [Act.put, List.getElem_toArray, List.getElem_cons_succ, List.getElem_cons_zero, List.setIfInBounds_toArray, List.set_cons_zero, List.set_cons_succ]
        refine wpAnyH_ready (rs := [9]) (by kernel_rfl) (by simp) (AllReadyH.cons (o := _) rfl (fun K hK => ?_) AllReadyH.nil)
        try simp only [Act.put, List.getElem_toArray, List.getElem_cons_succ, List.getElem_cons_zero, List.setIfInBounds_toArray, List.set_cons_zero, List.set_cons_succ]
        go_simp
        refine hK.out _ _ ⟨x9.reads.1, x9.reads.2.1, (HSC.out _ b9).1⟩ (fun hHeld => ?_)
        clear hK K
        try simp only [Act.put, List.getElem_toArray, List.getElem_cons_succ, List.getElem_cons_zero, List.setIfInBounds_toArray, List.set_cons_zero, List.set_cons_succ]
        refine wpAnyH_ready (rs := [10]) (by kernel_rfl) (by simp) (AllReadyH.cons (o := _) rfl (fun K hK => ?_) AllReadyH.nil)
        try simp only [Act.put, List.getElem_toArray, List.getElem_cons_succ, List.getElem_cons_zero, List.setIfInBounds_toArray, List.set_cons_zero, List.set_cons_succ]
        refine op_append_row1 _ (by rfl) _ _ 44 (by rfl) w.heap.size 24 i0 (.slice none 0 0) 1 24 Tryz.underlying44 hi hi0 hi1 hi2 rfl (by decide) (.slice Ao L.length co) L.length ys (by rfl) oA (w7.heap.size + 1) (some ⟨w7.heap.size, 0, none⟩) 1 1 [.slice Aw zs.length cw] (by rfl) (.inr ⟨_, rfl, Nat.lt_succ_self _, cell_one_new _ _ _⟩) rfl (by intro u hu; rw [List.mem_singleton] at hu; rw [hu]; rfl) (by unfold maxLen; omega) (by omega) b9.size ?_
        intro v8 w8 hown hg
        have o8 : OwnLL w8 w.heap.size v8 (L ++ [zs]) := OwnLL.app h2A h3 hylen hold hnew o9A hown hg hTy
        obtain ⟨A8, c8, rfl⟩ := o8.form
        have x8 := x9.grown hg (blk_ne_row x9 oA (by decide))
        have b8 := b9.grown hg b9.size (fun j hj => (World.ownsRow.lt oA j hj).1)
        clear d al ow o9 oO h1 h2 b1 b7 x0 x7 x9 b9 h2A h3 hold hnew o9A hown hg hTy oA hylen CX
        refine hK.out _ _ ⟨x8.reads.1, x8.reads.2.1, (HSC.out _ b8).1⟩ (fun hHeld => ?_)
        clear hK K
        try simp only [Act.put, List.getElem_toArray, List.getElem_cons_succ, List.getElem_cons_zero, List.setIfInBounds_toArray, List.set_cons_zero, List.set_cons_succ]
        refine wpAnyH_take (i := 11) (oi := _) (v := ?_) rfl (by kernel_rfl) (by kernel_rfl) (by kernel_rfl) (fun _ _ _ h => h) (Or.inl ⟨by rfl, ?_⟩) hHeld ?_
        rotate_left
        · (intro w' hSw; (try dsimp only at hSw); go_simp <;> with_reducible rfl)
        try simp only [Act.put, List.getElem_toArray, List.getElem_cons_succ, List.getElem_cons_zero, List.setIfInBounds_toArray, List.set_cons_zero, List.set_cons_succ]
        refine wpAnyH_done (by kernel_rfl) ?_ _
        clear hHeld HSC
        go_wp2
        go_roundw
        case rel => exact ⟨j + 1, A8, c8, L ++ [zs], by omega, by go_num, by first | rfl | (rw [List.length_append]; rfl), HN, o8, x8, b8⟩
        case measure => simp [intOf]; omega
      · have hj' : j = ss.length := by omega
        subst hj'
        have HE : Hid (L = snTo q ss k 3) := by show _ = _; rw [HL.out, H3.out]
        obtain ⟨ez, eb⟩ := HF.out
        subst eb
        rw [← HE.out] at ez
        subst ez
        clear HF HE HL CR
        go_wp2
        exact bodyPost_ret (v := .tuple #[.slice Ao zss.length co, .bool true]) (by simp [results, Tryz.results16, go_sem]) rfl ⟨_, rfl, oL, b1⟩
end Go.Proofs.YteaibflloeipaaaGreatDoor
namespace Go.Proofs.YteaibflloeipaaaGreatDoor
open Go.RowKit Wo Pu Rf Lk Sh Co Si
set_option linter.unusedVariables false
set_option linter.unusedSimpArgs false
theorem RdLL.on {w w' : World} {A : Option Addr} {zss : List (List Int)} (h : RdLL w w.heap.size A zss) (hb : Below w.heap.size w w') : RdLL w' w'.heap.size A zss := by
  rcases h with rfl | ⟨ad, e, ha, hh⟩
  · exact .inl rfl
  · refine .inr ⟨ad, e, Nat.lt_of_lt_of_le ha hb.size, fun i hi => ?_⟩
    obtain ⟨A', c, h0, h1⟩ := hh i hi
    exact ⟨A', c, by rw [hb.cell (by rw [add_block]; omega)]; exact h0, (h1.below hb (Nat.le_refl _)).more hb.size⟩
theorem OwnLL.rd' {w : World} {B n c : Nat} {A : Option Addr} {zss : List (List Int)} (h : OwnLL w B (.slice A n c) zss) : RdLL w w.heap.size A zss := by
  obtain ⟨A', c', e, r⟩ := h.rd
  injection e with e1
  rw [e1]
  exact r
theorem snapO_len {q : Crd} {ss : List (List Rec)} {m : Int} {zss : List (List Int)} {b : Bool} (h : SnapO q ss m zss b) : zss.length ≤ 3 ∧ ∀ zs ∈ zss, zs.length = 4 := by
  rcases h with ⟨k, -, -, -, rfl, -⟩ | ⟨-, rfl, -⟩
  · refine ⟨by simp, fun zs hz => ?_⟩
    obtain ⟨s, -, rfl⟩ := List.mem_map.1 hz
    exact refsS_len _ _ _ _
  · exact ⟨by simp, fun zs hz => by simp at hz⟩
set_option maxRecDepth 100000 in
set_option maxHeartbeats 16000000 in
theorem exactSnapshotRefs_any (v : Value) (q : Crd) (A1 : Option Addr) (c1 : Nat) (ss : List (List Rec)) (m : Int) (w : World) (hv : Crdd w w.heap.size v q) (hw : WideC q) (hl : ShL w w.heap.size A1 ss) (hs : WideL ss) (er0 er1 : Addr) (hE : Errs er0 er1 w) (_wm : (Lit.int .i64 m).wf = true) :
    Calls Tryz.prog 9 #[v, .slice A1 ss.length c1, .int .i64 m] w (Ret (.bool true) w) := by
  obtain ⟨zss, b, hz⟩ := snapO_ex q ss m
  obtain ⟨hz3, hz4⟩ := snapO_len hz
  have HZ4 := hid hz4
  have HZ := hid hz
  have HZM : Hid (MksLL zss 0) := ⟨hz4, fun j h e => absurd e (Nat.not_lt_zero _)⟩
  have HEx : Hid (∀ y, Below w.heap.size w y → Errs er0 er1 y) := fun y hy => hE.below hy
  have HL : Hid (∀ y, Below w.heap.size w y → ShL y y.heap.size A1 ss) := fun y hy => hl.on hy
  have HS' := hid hs
  clear hz hz4 hE hl hs
  obtain ⟨A0, c0, B0, k0, rfl, -⟩ := id hv
  unfold crV at *
  have HA : Hid (∀ y, Below w.heap.size w y → Crdd y y.heap.size (.agg #[.slice A0 q.ts.length c0, .slice B0 q.os.length k0]) q) := fun y hy => hv.on hy hy.size
  have HW := hid hw
  have x0 := Blk2s.new_ w 51 (.slice A0 q.ts.length c0) (.slice B0 q.os.length k0)
  have b1 := (Below.refl w.heap.size w).alloc (Nat.le_refl _) (.cells #[.slice A0 q.ts.length c0, .slice B0 q.os.length k0] 51)
  go_enter Tryz.func9, Tryz.ntmps9
  go_upto_region 1 with fail
  obtain ⟨w0, hw0⟩ : ∃ x, w.alloc (.cells #[.slice A0 q.ts.length c0, .slice B0 q.os.length k0] 51) = x := ⟨_, rfl⟩
  rw [hw0] at x0 b1 ⊢
  clear hw0 hv hw
  obtain ⟨ya0, ya1, -⟩ := id x0.reads
  go_wp2_with fail
  refine (szCoordinator_any _ q 1048576 w0 (HA.out _ b1) HW.out (by omega) (by omega)).mono ?_
  rintro e w1 ⟨r, rfl, hr, d⟩
  replace b1 := b1.trans ((d).mono b1.size)
  replace x0 := x0.later d
  try replace bS := bS.trans ((d).mono bS.size)
  try replace bX := bX.trans ((d).mono bX.size)
  try replace bG := bG.trans ((d).mono bG.size)
  try replace b5 := b5.trans ((d).mono b5.size)
  try replace kG := kG.trans (Keeps.of_below d _)
  try replace kQ := kQ.trans (Keeps.of_below d _)
  try replace bQ := bQ.trans ((d).mono bQ.size)
  try replace xb := xb.later d
  try replace xw := xw.later d
  try replace xg := xg.later d
  try clear ya0 ya1
  try clear yb0 yb1
  try clear yw0 yw1
  try clear yg0 yg1
  obtain ⟨ya0, ya1, -⟩ := id x0.reads
  try obtain ⟨yb0, yb1, -⟩ := id xb.reads
  try obtain ⟨yw0, yw1, -⟩ := id xw.reads
  try obtain ⟨yg0, yg1, -⟩ := id xg.reads
  clear d
  rcases hr with rfl | ⟨hr0, hr⟩
  · go_wp2
    go_ret
    exact .mk_ b1
  have hneg1 : ¬ r < 0 := by omega
  have CZ := hid fun (x : World) (hx : Below w.heap.size w x) => szShardS_any A1 c1 ss r x (HL.out x hx) HS'.out (by omega) (by omega)
  have HR := hid hr
  clear hr
  go_wp2_with fail
  refine (CZ.out _ b1).mono ?_
  rintro e w2 ⟨r2, rfl, hr2, d⟩
  replace b1 := b1.trans ((d).mono b1.size)
  replace x0 := x0.later d
  try replace bS := bS.trans ((d).mono bS.size)
  try replace bX := bX.trans ((d).mono bX.size)
  try replace bG := bG.trans ((d).mono bG.size)
  try replace b5 := b5.trans ((d).mono b5.size)
  try replace kG := kG.trans (Keeps.of_below d _)
  try replace kQ := kQ.trans (Keeps.of_below d _)
  try replace bQ := bQ.trans ((d).mono bQ.size)
  try replace xb := xb.later d
  try replace xw := xw.later d
  try replace xg := xg.later d
  try clear ya0 ya1
  try clear yb0 yb1
  try clear yw0 yw1
  try clear yg0 yg1
  obtain ⟨ya0, ya1, -⟩ := id x0.reads
  try obtain ⟨yb0, yb1, -⟩ := id xb.reads
  try obtain ⟨yw0, yw1, -⟩ := id xw.reads
  try obtain ⟨yg0, yg1, -⟩ := id xg.reads
  clear d CZ
  rcases hr2 with rfl | ⟨hr20, hr2⟩
  · go_wp2
    go_ret
    exact .mk_ b1
  have hneg : ¬ r2 < 0 := by omega
  have hal : allC q ≤ 1048576 := by have := HR.out; omega
  have hll : allSzL ss ≤ 1048576 := by have := HR.out; omega
  have HALL : Hid (allC q + allSzL ss ≤ 1048576) := by show _ ≤ _; have := HR.out; omega
  have HFT := hid (allC_fit hal (Nat.le_refl _))
  have HFL := hid (allSzL_fit hll (Nat.le_refl _))
  have CTO := hid fun (x : World) (hx : Below w.heap.size w x) => toCoordinator_any _ q x (HA.out x hx) HFT.out
  have CTL := hid fun (x : World) (hx : Below w.heap.size w x) => toShardS_any A1 c1 ss x (HL.out x hx) HFL.out.1 HFL.out.2
  have CTD := hid fun (x : World) (hx : Below w.heap.size w x) => toShardS_D A1 c1 ss x (HL.out x hx) HFL.out.1 HFL.out.2
  clear hr2 hal hll HR
  go_wp2_with fail
  refine (CTO.out _ b1).mono ?_
  rintro e w2 ⟨v2, col2, rfl, o2, d⟩
  replace b1 := b1.trans ((d).mono b1.size)
  replace x0 := x0.later d
  try replace bS := bS.trans ((d).mono bS.size)
  try replace bX := bX.trans ((d).mono bX.size)
  try replace bG := bG.trans ((d).mono bG.size)
  try replace b5 := b5.trans ((d).mono b5.size)
  try replace kG := kG.trans (Keeps.of_below d _)
  try replace kQ := kQ.trans (Keeps.of_below d _)
  try replace bQ := bQ.trans ((d).mono bQ.size)
  try replace xb := xb.later d
  try replace xw := xw.later d
  try replace xg := xg.later d
  try clear ya0 ya1
  try clear yb0 yb1
  try clear yw0 yw1
  try clear yg0 yg1
  obtain ⟨ya0, ya1, -⟩ := id x0.reads
  try obtain ⟨yb0, yb1, -⟩ := id xb.reads
  try obtain ⟨yw0, yw1, -⟩ := id xw.reads
  try obtain ⟨yg0, yg1, -⟩ := id xg.reads
  clear d
  obtain ⟨A2, c2, B2, k2, rfl, -⟩ := o2.form
  have p2 := o2.crd
  unfold crV at p2 ⊢
  clear o2
  go_wp2_with fail
  refine (CTL.out _ b1).mono ?_
  rintro e w3 ⟨g3, rfl, l3, d⟩
  replace b1 := b1.trans ((d).mono b1.size)
  replace x0 := x0.later d
  try replace bS := bS.trans ((d).mono bS.size)
  try replace bX := bX.trans ((d).mono bX.size)
  try replace bG := bG.trans ((d).mono bG.size)
  try replace b5 := b5.trans ((d).mono b5.size)
  try replace kG := kG.trans (Keeps.of_below d _)
  try replace kQ := kQ.trans (Keeps.of_below d _)
  try replace bQ := bQ.trans ((d).mono bQ.size)
  try replace xb := xb.later d
  try replace xw := xw.later d
  try replace xg := xg.later d
  try clear ya0 ya1
  try clear yb0 yb1
  try clear yw0 yw1
  try clear yg0 yg1
  obtain ⟨ya0, ya1, -⟩ := id x0.reads
  try obtain ⟨yb0, yb1, -⟩ := id xb.reads
  try obtain ⟨yw0, yw1, -⟩ := id xw.reads
  try obtain ⟨yg0, yg1, -⟩ := id xg.reads
  replace p2 := p2.on d d.size
  clear d
  go_wp2_with fail
  refine (specSnapshotRefs_is zss b _ q _ _ ss m w3 p2 l3.shl HFT.out HFL.out.2 HFL.out.1 HZ.out).mono ?_
  rintro e ws ⟨vw, rfl, ow, d⟩
  replace b1 := b1.trans ((d).mono b1.size)
  replace x0 := x0.later d
  try replace bS := bS.trans ((d).mono bS.size)
  try replace bX := bX.trans ((d).mono bX.size)
  try replace bG := bG.trans ((d).mono bG.size)
  try replace b5 := b5.trans ((d).mono b5.size)
  try replace kG := kG.trans (Keeps.of_below d _)
  try replace kQ := kQ.trans (Keeps.of_below d _)
  try replace bQ := bQ.trans ((d).mono bQ.size)
  try replace xb := xb.later d
  try replace xw := xw.later d
  try replace xg := xg.later d
  try clear ya0 ya1
  try clear yb0 yb1
  try clear yw0 yw1
  try clear yg0 yg1
  obtain ⟨ya0, ya1, -⟩ := id x0.reads
  try obtain ⟨yb0, yb1, -⟩ := id xb.reads
  try obtain ⟨yw0, yw1, -⟩ := id xw.reads
  try obtain ⟨yg0, yg1, -⟩ := id xg.reads
  obtain ⟨Aw, cw, rfl, rw_⟩ := ow.rd
  have bS := Below.refl ws.heap.size ws
  have HS : Hid (∀ y, Below ws.heap.size ws y → RdLL y y.heap.size Aw zss) := fun y hy => rw_.on hy
  have h0s : w.heap.size < ws.heap.size := x0.lt
  clear d p2 l3 ow rw_
  go_wp2_with fail
  refine (CTO.out _ b1).mono ?_
  rintro e w4 ⟨v4, col4, rfl, o4, d⟩
  replace b1 := b1.trans ((d).mono b1.size)
  replace x0 := x0.later d
  try replace bS := bS.trans ((d).mono bS.size)
  try replace bX := bX.trans ((d).mono bX.size)
  try replace bG := bG.trans ((d).mono bG.size)
  try replace b5 := b5.trans ((d).mono b5.size)
  try replace kG := kG.trans (Keeps.of_below d _)
  try replace kQ := kQ.trans (Keeps.of_below d _)
  try replace bQ := bQ.trans ((d).mono bQ.size)
  try replace xb := xb.later d
  try replace xw := xw.later d
  try replace xg := xg.later d
  try clear ya0 ya1
  try clear yb0 yb1
  try clear yw0 yw1
  try clear yg0 yg1
  obtain ⟨ya0, ya1, -⟩ := id x0.reads
  try obtain ⟨yb0, yb1, -⟩ := id xb.reads
  try obtain ⟨yw0, yw1, -⟩ := id xw.reads
  try obtain ⟨yg0, yg1, -⟩ := id xg.reads
  clear d
  obtain ⟨A4, c4, B4, k4, rfl, -⟩ := o4.form
  unfold crV at o4 ⊢
  have bX := Below.refl w4.heap.size w4
  go_upto_region 10 with fail
  have xb := Blk2s.new_ w4 26 (.slice A4 q.ts.length c4) (.slice B4 q.os.length k4)
  have al := (Below.refl w4.heap.size w4).alloc (Nat.le_refl _) (.cells #[.slice A4 q.ts.length c4, .slice B4 q.os.length k4] 26)
  obtain ⟨w5, hw5⟩ : ∃ x, w4.alloc (.cells #[.slice A4 q.ts.length c4, .slice B4 q.os.length k4] 26) = x := ⟨_, rfl⟩
  obtain ⟨gb, hgb⟩ : ∃ x, w4.heap.size = x := ⟨_, rfl⟩
  rw [hw5] at xb al ⊢
  rw [hgb] at xb ⊢
  have hgb2 : w4.heap.size ≤ gb := by rw [hgb]; exact Nat.le_refl _
  clear hw5 hgb
  replace b1 := b1.trans (al.mono b1.size)
  replace x0 := x0.later al
  try replace bS := bS.trans (al.mono bS.size)
  try replace xw := xw.later al
  replace bX := bX.trans (al.mono bX.size)
  clear al
  try clear ya0 ya1
  try clear yb0 yb1
  try clear yw0 yw1
  try clear yg0 yg1
  obtain ⟨ya0, ya1, -⟩ := id x0.reads
  try obtain ⟨yb0, yb1, -⟩ := id xb.reads
  try obtain ⟨yw0, yw1, -⟩ := id xw.reads
  try obtain ⟨yg0, yg1, -⟩ := id xg.reads
  have HX : Hid (∀ y, Below w4.heap.size w4 y → Crdd y y.heap.size (.agg #[.slice A4 q.ts.length c4, .slice B4 q.os.length k4]) q) := fun y hy => (o4.below hy).crd
  go_wp2_with fail
  have h45 : w4.heap.size ≤ w5.heap.size := bX.size
  have hs5 : ws.heap.size ≤ w5.heap.size := bS.size
  refine (CTD.out _ b1).mono ?_
  rintro e w6 ⟨g6, rfl, l6, d⟩
  replace b1 := b1.trans ((d).mono b1.size)
  replace x0 := x0.later d
  try replace bS := bS.trans ((d).mono bS.size)
  try replace bX := bX.trans ((d).mono bX.size)
  try replace bG := bG.trans ((d).mono bG.size)
  try replace b5 := b5.trans ((d).mono b5.size)
  try replace kG := kG.trans (Keeps.of_below d _)
  try replace kQ := kQ.trans (Keeps.of_below d _)
  try replace bQ := bQ.trans ((d).mono bQ.size)
  try replace xb := xb.later d
  try replace xw := xw.later d
  try replace xg := xg.later d
  try clear ya0 ya1
  try clear yb0 yb1
  try clear yw0 yw1
  try clear yg0 yg1
  obtain ⟨ya0, ya1, -⟩ := id x0.reads
  try obtain ⟨yb0, yb1, -⟩ := id xb.reads
  try obtain ⟨yw0, yw1, -⟩ := id xw.reads
  try obtain ⟨yg0, yg1, -⟩ := id xg.reads
  have h56 : w5.heap.size ≤ w6.heap.size := d.size
  clear d
  have bQ := Below.refl w6.heap.size w6
  have kG := Keeps.of_below bQ w5.heap.size
  have HX6 : Hid (∀ y, Below w6.heap.size w6 y → ShL y y.heap.size (some ⟨g6, 0, none⟩) ss) := fun y hy => l6.fil.shl.on hy
  go_wp2_with fail
  refine (implSnapshotRefs_is zss b _ q _ _ ss m w6 er0 er1 (HX.out _ bX) (HX6.out _ bQ) (HEx.out _ b1) HFT.out HFL.out.2 HFL.out.1 HZ.out).mono ?_
  rintro e w7 ⟨vg, rfl, og, d⟩
  replace b1 := b1.trans ((d).mono b1.size)
  replace x0 := x0.later d
  try replace bS := bS.trans ((d).mono bS.size)
  try replace bX := bX.trans ((d).mono bX.size)
  try replace bG := bG.trans ((d).mono bG.size)
  try replace b5 := b5.trans ((d).mono b5.size)
  try replace kG := kG.trans (Keeps.of_below d _)
  try replace kQ := kQ.trans (Keeps.of_below d _)
  try replace bQ := bQ.trans ((d).mono bQ.size)
  try replace xb := xb.later d
  try replace xw := xw.later d
  try replace xg := xg.later d
  try clear ya0 ya1
  try clear yb0 yb1
  try clear yw0 yw1
  try clear yg0 yg1
  obtain ⟨ya0, ya1, -⟩ := id x0.reads
  try obtain ⟨yb0, yb1, -⟩ := id xb.reads
  try obtain ⟨yw0, yw1, -⟩ := id xw.reads
  try obtain ⟨yg0, yg1, -⟩ := id xg.reads
  clear d
  obtain ⟨Ag, cg, rfl⟩ := og.form
  go_wp2_with fail
  refine (eqIntSS_is Ag Aw cg cw zss w7 og.rd' (HS.out _ bS) (by omega) HZ4.out).mono ?_
  rintro e w8 ⟨rfl, d⟩
  replace b1 := b1.trans ((d).mono b1.size)
  replace x0 := x0.later d
  try replace bS := bS.trans ((d).mono bS.size)
  try replace bX := bX.trans ((d).mono bX.size)
  try replace bG := bG.trans ((d).mono bG.size)
  try replace b5 := b5.trans ((d).mono b5.size)
  try replace kG := kG.trans (Keeps.of_below d _)
  try replace kQ := kQ.trans (Keeps.of_below d _)
  try replace bQ := bQ.trans ((d).mono bQ.size)
  try replace xb := xb.later d
  try replace xw := xw.later d
  try replace xg := xg.later d
  try clear ya0 ya1
  try clear yb0 yb1
  try clear yw0 yw1
  try clear yg0 yg1
  obtain ⟨ya0, ya1, -⟩ := id x0.reads
  try obtain ⟨yb0, yb1, -⟩ := id xb.reads
  try obtain ⟨yw0, yw1, -⟩ := id xw.reads
  try obtain ⟨yg0, yg1, -⟩ := id xg.reads
  replace og := og.below d
  clear d
  have bG := Below.refl w8.heap.size w8
  go_wp2_with fail
  have b0 := (Below.refl (w8).heap.size w8).drew
  have HH : Hid (∀ y, Below (w8).heap.size w8 y → y.cell? ⟨w.heap.size, 0, none⟩ = some (.slice A0 q.ts.length c0) ∧ y.cell? ⟨w.heap.size, 1, none⟩ = some (.slice B0 q.os.length k0) ∧ y.cell? ⟨gb, 0, none⟩ = some (.slice A4 q.ts.length c4) ∧ y.cell? ⟨gb, 1, none⟩ = some (.slice B4 q.os.length k4)) := fun y hy => ⟨(x0.later hy).reads.1, (x0.later hy).reads.2.1, (xb.later hy).reads.1, (xb.later hy).reads.2.1⟩
  refine wp_region_held_drew (S := fun y => y.cell? ⟨w.heap.size, 0, none⟩ = some (.slice A0 q.ts.length c0) ∧ y.cell? ⟨w.heap.size, 1, none⟩ = some (.slice B0 q.os.length k0) ∧ y.cell? ⟨gb, 0, none⟩ = some (.slice A4 q.ts.length c4) ∧ y.cell? ⟨gb, 1, none⟩ = some (.slice B4 q.os.length k4)) (by kernel_rfl) (HH.out _ b0) (fun hHeld => ?_)
  obtain ⟨W, hW⟩ : ∃ x, (w8).drew = x := ⟨_, rfl⟩
  rw [hW] at b0 hHeld ⊢
  clear hW
  try simp only [Act.put, List.getElem_toArray, List.getElem_cons_succ, List.getElem_cons_zero, List.setIfInBounds_toArray, List.set_cons_zero, List.set_cons_succ]
  refine wpAnyH_take (i := 0) (oi := _) (v := ?_) rfl (by kernel_rfl) (by kernel_rfl) (by kernel_rfl) (fun _ _ _ h => h) (Or.inl ⟨by rfl, ?_⟩) hHeld ?_
  rotate_left
  · (intro w' hSw; (try dsimp only at hSw); go_simp <;> with_reducible rfl)
  try simp only [Act.put, List.getElem_toArray, List.getElem_cons_succ, List.getElem_cons_zero, List.setIfInBounds_toArray, List.set_cons_zero, List.set_cons_succ]
  refine wpAnyH_take (i := 1) (oi := _) (v := ?_) rfl (by kernel_rfl) (by kernel_rfl) (by kernel_rfl) (fun _ _ _ h => h) (Or.inl ⟨by rfl, ?_⟩) hHeld ?_
  rotate_left
  · (intro w' hSw; (try dsimp only at hSw); go_simp <;> with_reducible rfl)
  try simp only [Act.put, List.getElem_toArray, List.getElem_cons_succ, List.getElem_cons_zero, List.setIfInBounds_toArray, List.set_cons_zero, List.set_cons_succ]
  refine wpAnyH_ready (rs := [2]) (by kernel_rfl) (by simp) (AllReadyH.cons (o := _) rfl (fun K hK => ?_) AllReadyH.nil)
  try simp only [Act.put, List.getElem_toArray, List.getElem_cons_succ, List.getElem_cons_zero, List.setIfInBounds_toArray, List.set_cons_zero, List.set_cons_succ]
  go_simp
  go_at_call 20
  refine (CTO.out _ (b1.trans (b0.mono b1.size))).mono ?_
  rintro e W ⟨v9, col9, rfl, o9, d⟩
  have p9 := o9.crd
  replace b0 := b0.trans (d.mono b0.size)
  clear d
  refine hK.out _ _ (HH.out _ b0) (fun hHeld => ?_)
  clear hK K
  try simp only [Act.put, List.getElem_toArray, List.getElem_cons_succ, List.getElem_cons_zero, List.setIfInBounds_toArray, List.set_cons_zero, List.set_cons_succ]
  refine wpAnyH_ready (rs := [3]) (by kernel_rfl) (by simp) (AllReadyH.cons (o := _) rfl (fun K hK => ?_) AllReadyH.nil)
  try simp only [Act.put, List.getElem_toArray, List.getElem_cons_succ, List.getElem_cons_zero, List.setIfInBounds_toArray, List.set_cons_zero, List.set_cons_succ]
  go_simp
  go_at_call 22
  refine (eqCoordinator_is _ _ q _ (HX.out _ (bX.trans (b0.mono bX.size))) p9 HFT.out).mono ?_
  rintro e W ⟨rfl, d⟩
  replace b0 := b0.trans (d.mono b0.size)
  clear d
  refine hK.out _ _ (HH.out _ b0) (fun hHeld => ?_)
  clear hK K
  try simp only [Act.put, List.getElem_toArray, List.getElem_cons_succ, List.getElem_cons_zero, List.setIfInBounds_toArray, List.set_cons_zero, List.set_cons_succ]
  refine wpAnyH_take (i := 4) (oi := _) (v := ?_) rfl (by kernel_rfl) (by kernel_rfl) (by kernel_rfl) (fun _ _ _ h => h) (Or.inl ⟨by rfl, ?_⟩) hHeld ?_
  rotate_left
  · (intro w' hSw; (try dsimp only at hSw); go_simp <;> with_reducible rfl)
  try simp only [Act.put, List.getElem_toArray, List.getElem_cons_succ, List.getElem_cons_zero, List.setIfInBounds_toArray, List.set_cons_zero, List.set_cons_succ]
  refine wpAnyH_done (by kernel_rfl) ?_ _
  clear hHeld HH o9 p9
  replace b1 := b1.trans ((b0).mono b1.size)
  replace x0 := x0.later b0
  try replace bS := bS.trans ((b0).mono bS.size)
  try replace bX := bX.trans ((b0).mono bX.size)
  try replace bG := bG.trans ((b0).mono bG.size)
  try replace b5 := b5.trans ((b0).mono b5.size)
  try replace kG := kG.trans (Keeps.of_below b0 _)
  try replace kQ := kQ.trans (Keeps.of_below b0 _)
  try replace bQ := bQ.trans ((b0).mono bQ.size)
  try replace xb := xb.later b0
  try replace xw := xw.later b0
  try replace xg := xg.later b0
  try clear ya0 ya1
  try clear yb0 yb1
  try clear yw0 yw1
  try clear yg0 yg1
  obtain ⟨ya0, ya1, -⟩ := id x0.reads
  try obtain ⟨yb0, yb1, -⟩ := id xb.reads
  try obtain ⟨yw0, yw1, -⟩ := id xw.reads
  try obtain ⟨yg0, yg1, -⟩ := id xg.reads
  clear b0
  go_wp2_with fail
  refine (CTL.out _ b1).mono ?_
  rintro e w9 ⟨g9, rfl, l9, d⟩
  replace b1 := b1.trans ((d).mono b1.size)
  replace x0 := x0.later d
  try replace bS := bS.trans ((d).mono bS.size)
  try replace bX := bX.trans ((d).mono bX.size)
  try replace bG := bG.trans ((d).mono bG.size)
  try replace b5 := b5.trans ((d).mono b5.size)
  try replace kG := kG.trans (Keeps.of_below d _)
  try replace kQ := kQ.trans (Keeps.of_below d _)
  try replace bQ := bQ.trans ((d).mono bQ.size)
  try replace xb := xb.later d
  try replace xw := xw.later d
  try replace xg := xg.later d
  try clear ya0 ya1
  try clear yb0 yb1
  try clear yw0 yw1
  try clear yg0 yg1
  obtain ⟨ya0, ya1, -⟩ := id x0.reads
  try obtain ⟨yb0, yb1, -⟩ := id xb.reads
  try obtain ⟨yw0, yw1, -⟩ := id xw.reads
  try obtain ⟨yg0, yg1, -⟩ := id xg.reads
  clear d
  go_wp2_with fail
  refine (eqShardS_is _ _ _ _ ss w9 (HX6.out _ bQ) l9.shl HFL.out.1 HFL.out.2).mono ?_
  rintro e w10 ⟨rfl, d⟩
  replace b1 := b1.trans ((d).mono b1.size)
  replace x0 := x0.later d
  try replace bS := bS.trans ((d).mono bS.size)
  try replace bX := bX.trans ((d).mono bX.size)
  try replace bG := bG.trans ((d).mono bG.size)
  try replace b5 := b5.trans ((d).mono b5.size)
  try replace kG := kG.trans (Keeps.of_below d _)
  try replace kQ := kQ.trans (Keeps.of_below d _)
  try replace bQ := bQ.trans ((d).mono bQ.size)
  try replace xb := xb.later d
  try replace xw := xw.later d
  try replace xg := xg.later d
  try clear ya0 ya1
  try clear yb0 yb1
  try clear yw0 yw1
  try clear yg0 yg1
  obtain ⟨ya0, ya1, -⟩ := id x0.reads
  try obtain ⟨yb0, yb1, -⟩ := id xb.reads
  try obtain ⟨yw0, yw1, -⟩ := id xw.reads
  try obtain ⟨yg0, yg1, -⟩ := id xg.reads
  clear d l9
  replace og := og.below bG
  have hzc : 1 + zC q + 3 * partSzL ss ss.length ≤ 4000000 := by
    have := zC_le q
    have := HALL.out
    unfold allSzL at this
    omega
  have CM := hid (markCoordinator_D col4 ws.heap.size 1 _ q w4 w10 o4 (Keeps.of_below bX _) HFT.out (Nat.le_refl _) (by omega))
  have h60 : w6.heap.size ≤ w10.heap.size := bQ.size
  clear bG
  go_wp2_with fail
  refine CM.out.mono ?_
  rintro e W2 ⟨rfl, -, hO⟩
  have dB := hO.below bS.size
  replace og := og.only hO (Nat.le_trans h45 h56)
  replace b1 := b1.trans (dB.mono (Nat.le_of_lt h0s))
  replace bS := bS.trans dB
  replace kG := kG.trans (Keeps.of_only hO h45)
  replace x0 := x0.only hO (by omega)
  have h6W : w6.heap.size ≤ W2.heap.size := Nat.le_trans h60 hO.size
  clear CM ya0 ya1 yb0 yb1 xb bX dB hO HX o4 bQ HX6
  obtain ⟨ya0, ya1, -⟩ := id x0.reads
  have CM := hid (markShardS_D (1 + zC q) w5.heap.size w6.heap.size g6 ss W2 (l6.keep kG) h6W h56 HFL.out.1 HFL.out.2 (by omega) hzc)
  obtain ⟨K, hK⟩ : ∃ K, kL (1 + zC q) ss ss.length = K := ⟨_, rfl⟩
  rw [hK] at CM
  clear hK hzc
  go_wp2_with fail
  refine CM.out.mono ?_
  rintro e W3 ⟨rfl, hO⟩
  have dB := hO.below (Nat.le_trans h56 h6W)
  replace og := og.only hO (Nat.le_refl _)
  replace b1 := b1.trans (dB.mono (by omega))
  replace bS := bS.trans (dB.mono hs5)
  replace x0 := x0.only hO (by omega)
  have h6X : w6.heap.size ≤ W3.heap.size := Nat.le_trans h6W hO.size
  clear CM ya0 ya1 dB hO kG l6 h6W
  obtain ⟨ya0, ya1, -⟩ := id x0.reads
  have hk0 : ¬ ((K : Int) < 0) := by omega
  go_wp2_with fail
  refine (eqIntSS_is Ag Aw cg cw zss W3 og.rd' (HS.out _ bS) (by omega) HZ4.out).mono ?_
  rintro e W4 ⟨rfl, d⟩
  replace b1 := b1.trans ((d).mono b1.size)
  replace x0 := x0.later d
  try replace bS := bS.trans ((d).mono bS.size)
  try replace bX := bX.trans ((d).mono bX.size)
  try replace bG := bG.trans ((d).mono bG.size)
  try replace b5 := b5.trans ((d).mono b5.size)
  try replace kG := kG.trans (Keeps.of_below d _)
  try replace kQ := kQ.trans (Keeps.of_below d _)
  try replace bQ := bQ.trans ((d).mono bQ.size)
  try replace xb := xb.later d
  try replace xw := xw.later d
  try replace xg := xg.later d
  try clear ya0 ya1
  try clear yb0 yb1
  try clear yw0 yw1
  try clear yg0 yg1
  obtain ⟨ya0, ya1, -⟩ := id x0.reads
  try obtain ⟨yb0, yb1, -⟩ := id xb.reads
  try obtain ⟨yw0, yw1, -⟩ := id xw.reads
  try obtain ⟨yg0, yg1, -⟩ := id xg.reads
  replace og := og.below d
  replace h6X := Nat.le_trans h6X d.size
  clear d hk0
  have CMI := hid (markIntSS_is w6.heap.size Ag cg zss W4 og h6X HZM.out (by omega))
  go_wp2_with fail
  refine CMI.out.mono ?_
  rintro e W5 ⟨rfl, ⟨zs', hl', hm', om⟩, d5⟩
  replace b1 := b1.trans (d5.mono (by omega))
  replace bS := bS.trans (d5.mono (Nat.le_trans hs5 h56))
  replace x0 := x0.below d5 (by omega)
  clear CMI ya0 ya1 og d5
  obtain ⟨ya0, ya1, -⟩ := id x0.reads
  have CHI : Hid (∀ y, OwnLL y w6.heap.size (.slice Ag zss.length cg) zs' → Calls Tryz.prog 28 #[.slice Ag zss.length cg, .int .i64 1] y (Same (.int .i64 (1 + 4 * (zss.length : Int))) y)) := fun y hy => by
    have := heldIntSS_is Ag cg zs' y hy.rd' (by rw [hl']; exact hm') (by omega)
    rwa [hl'] at this
  clear hl' hm'
  have hq0 : ¬ (1 + 4 * (zss.length : Int) < 0) := by omega
  go_wp2_with fail
  refine (CHI.out W5 om).mono ?_
  rintro e W6 ⟨rfl, rfl⟩
  go_wp2_with fail
  refine (CTO.out _ b1).mono ?_
  rintro e W6 ⟨v7, col7, rfl, o7, d⟩
  replace b1 := b1.trans ((d).mono b1.size)
  replace x0 := x0.later d
  try replace bS := bS.trans ((d).mono bS.size)
  try replace bX := bX.trans ((d).mono bX.size)
  try replace bG := bG.trans ((d).mono bG.size)
  try replace b5 := b5.trans ((d).mono b5.size)
  try replace kG := kG.trans (Keeps.of_below d _)
  try replace kQ := kQ.trans (Keeps.of_below d _)
  try replace bQ := bQ.trans ((d).mono bQ.size)
  try replace xb := xb.later d
  try replace xw := xw.later d
  try replace xg := xg.later d
  try clear ya0 ya1
  try clear yb0 yb1
  try clear yw0 yw1
  try clear yg0 yg1
  obtain ⟨ya0, ya1, -⟩ := id x0.reads
  try obtain ⟨yb0, yb1, -⟩ := id xb.reads
  try obtain ⟨yw0, yw1, -⟩ := id xw.reads
  try obtain ⟨yg0, yg1, -⟩ := id xg.reads
  replace om := om.below d
  clear d
  obtain ⟨A7, c7, B7, k7, rfl, -⟩ := o7.form
  have p7 := o7.crd
  unfold crV at p7 ⊢
  clear o7
  go_wp2_with fail
  refine (CTL.out _ b1).mono ?_
  rintro e W7 ⟨g8, rfl, l8, d⟩
  replace b1 := b1.trans ((d).mono b1.size)
  replace x0 := x0.later d
  try replace bS := bS.trans ((d).mono bS.size)
  try replace bX := bX.trans ((d).mono bX.size)
  try replace bG := bG.trans ((d).mono bG.size)
  try replace b5 := b5.trans ((d).mono b5.size)
  try replace kG := kG.trans (Keeps.of_below d _)
  try replace kQ := kQ.trans (Keeps.of_below d _)
  try replace bQ := bQ.trans ((d).mono bQ.size)
  try replace xb := xb.later d
  try replace xw := xw.later d
  try replace xg := xg.later d
  try clear ya0 ya1
  try clear yb0 yb1
  try clear yw0 yw1
  try clear yg0 yg1
  obtain ⟨ya0, ya1, -⟩ := id x0.reads
  try obtain ⟨yb0, yb1, -⟩ := id xb.reads
  try obtain ⟨yw0, yw1, -⟩ := id xw.reads
  try obtain ⟨yg0, yg1, -⟩ := id xg.reads
  replace om := om.below d
  replace p7 := p7.on d d.size
  clear d
  go_wp2_with fail
  refine (implSnapshotRefs_is zss b _ q _ _ ss m W7 er0 er1 p7 l8.shl (HEx.out _ b1) HFT.out HFL.out.2 HFL.out.1 HZ.out).mono ?_
  rintro e W8 ⟨vh, rfl, oh, d⟩
  replace b1 := b1.trans ((d).mono b1.size)
  replace x0 := x0.later d
  try replace bS := bS.trans ((d).mono bS.size)
  try replace bX := bX.trans ((d).mono bX.size)
  try replace bG := bG.trans ((d).mono bG.size)
  try replace b5 := b5.trans ((d).mono b5.size)
  try replace kG := kG.trans (Keeps.of_below d _)
  try replace kQ := kQ.trans (Keeps.of_below d _)
  try replace bQ := bQ.trans ((d).mono bQ.size)
  try replace xb := xb.later d
  try replace xw := xw.later d
  try replace xg := xg.later d
  try clear ya0 ya1
  try clear yb0 yb1
  try clear yw0 yw1
  try clear yg0 yg1
  obtain ⟨ya0, ya1, -⟩ := id x0.reads
  try obtain ⟨yb0, yb1, -⟩ := id xb.reads
  try obtain ⟨yw0, yw1, -⟩ := id xw.reads
  try obtain ⟨yg0, yg1, -⟩ := id xg.reads
  replace om := om.below d
  clear d p7 l8
  obtain ⟨Ah, ch, rfl⟩ := oh.form
  go_wp2_with fail
  refine (eqIntSS_is Ah Aw ch cw zss W8 oh.rd' (HS.out _ bS) (by omega) HZ4.out).mono ?_
  rintro e W9 ⟨rfl, d⟩
  replace b1 := b1.trans ((d).mono b1.size)
  replace x0 := x0.later d
  try replace bS := bS.trans ((d).mono bS.size)
  try replace bX := bX.trans ((d).mono bX.size)
  try replace bG := bG.trans ((d).mono bG.size)
  try replace b5 := b5.trans ((d).mono b5.size)
  try replace kG := kG.trans (Keeps.of_below d _)
  try replace kQ := kQ.trans (Keeps.of_below d _)
  try replace bQ := bQ.trans ((d).mono bQ.size)
  try replace xb := xb.later d
  try replace xw := xw.later d
  try replace xg := xg.later d
  try clear ya0 ya1
  try clear yb0 yb1
  try clear yw0 yw1
  try clear yg0 yg1
  obtain ⟨ya0, ya1, -⟩ := id x0.reads
  try obtain ⟨yb0, yb1, -⟩ := id xb.reads
  try obtain ⟨yw0, yw1, -⟩ := id xw.reads
  try obtain ⟨yg0, yg1, -⟩ := id xg.reads
  replace om := om.below d
  clear d oh
  go_wp2_with fail
  refine (CHI.out W9 om).mono ?_
  rintro e W10 ⟨rfl, rfl⟩
  go_wp2
  go_ret
  exact .mk_ b1
end Go.Proofs.YteaibflloeipaaaGreatDoor
