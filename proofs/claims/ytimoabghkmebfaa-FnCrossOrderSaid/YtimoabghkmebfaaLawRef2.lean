/-
  Walks of the laws on updates that are not performed, and on their order.
-/
import Derived.Test.YtimoabghkmebfaaRefM
namespace Go.Proofs.Ytimoabghkmebfaa
open Go.RowKit Wo Pu Rf

theorem way_none {zs : List Int} {us : List Up} {y : RWay} {qs : List Int} (h : IsRWay zs us y) (hk : y.ok = false) (hq : applied zs us y = qs) (h0 : qs.length ≠ 0) : RV zs ∧ UV us ∧ ¬ Fits zs us ∧ zs = qs := by
  cases y with
  | bad => exact absurd (by rw [← hq]; rfl) h0
  | no => exact ⟨h.1, h.2.1, h.2.2, hq⟩
  | yes => cases hk
theorem FnApplyNone_no (A : Option Addr) (c : Nat) (bs : List Int) (w : World) (h : Code_ w A c bs) (hl : ¬ bs.length ≤ 1048576) :
    Calls Try.prog 4 #[.slice A bs.length c] w (Ret (.bool true) w) := by
  have hc := h.2.1
  have hm := h.2.2.1
  unfold maxLen at hm
  go_enter Try.func4, Try.ntmps4
  go_wp2
  go_ret
  exact .mk_ (Below.refl _ _)
set_option maxRecDepth 100000 in
set_option maxHeartbeats 8000000 in
theorem FnApplyNone_yes (A : Option Addr) (c : Nat) (bs : List Int) (w : World) (h : Code_ w A c bs) (hl : bs.length ≤ 1048576) :
    Calls Try.prog 4 #[.slice A bs.length c] w (Ret (.bool true) w) := by
  go_enter Try.func4, Try.ntmps4
  go_wp2_with fail
  refine (DrawRefsApply_any A c bs _ h).mono ?_
  rintro e w1 ⟨A1, c1, zs, A2, c2, us, rfl, rz1, h4, ru1, h5, b1⟩
  obtain ⟨y, hy⟩ := way_of zs us
  obtain ⟨qs, hqs⟩ : ∃ qs, applied zs us y = qs := ⟨_, rfl⟩
  obtain ⟨ok, hok⟩ : ∃ ok, y.ok = ok := ⟨_, rfl⟩
  have hql : qs.length ≤ 4 := by rw [← hqs]; exact applied_le h4
  have HY := hid hy
  have HQ := hid hqs
  have HK := hid hok
  clear hy hqs hok
  go_wp2_with fail
  refine (implApply_to qs ok y A1 A2 c1 c2 zs us w1 rz1 ru1 (by omega) (by omega) HY.out HQ.out HK.out).mono ?_
  rintro e w2 ⟨A3, c3, rfl, o3, d2⟩
  have rz2 := rz1.on d2
  have ru2 := ru1.on d2
  have b2 := b1.trans (d2.mono b1.size)
  have rq2 := o3.row
  clear rz1 ru1 b1 d2 o3
  go_wp2_with fail
  refine (specApply_to qs ok y A1 A2 c1 c2 zs us w2 rz2 ru2 (by omega) (by omega) HY.out HQ.out HK.out).mono ?_
  rintro e w3 ⟨A4, c4, rfl, o4, d3⟩
  have rz3 := rz2.on d3
  have ru3 := ru2.on d3
  have rq3 := rq2.on d3
  have rp3 := o4.row
  have b3 := b2.trans (d3.mono b2.size)
  clear rz2 ru2 rq2 b2 d3 o4
  cases ok with
  | true =>
    clear HY HQ HK
    go_wp2_with fail
    refine (sameInts_ret A3 A4 c3 c4 qs _ _ _ rq3 rp3 (by unfold maxLen; omega)).mono ?_
    rintro e w4 ⟨rfl, d4⟩
    have rz4 := rz3.on d4
    have ru4 := ru3.on d4
    have rq4 := rq3.on d4
    have rp4 := rp3.on d4
    have b4 := b3.trans (d4.mono b3.size)
    clear rz3 ru3 rq3 rp3 b3 d4
    go_wp2_with fail
    refine (sameInts_ret A3 A4 c3 c4 qs _ _ _ rq4 rp4 (by unfold maxLen; omega)).mono ?_
    rintro e w5 ⟨rfl, d5⟩
    go_wp2_with fail
    go_ret
    exact .mk_ (b4.trans (d5.mono b4.size))
  | false =>
    go_wp2_with fail
    refine (sameInts_ret A3 A4 c3 c4 qs _ _ _ rq3 rp3 (by unfold maxLen; omega)).mono ?_
    rintro e w4 ⟨rfl, d4⟩
    have rz4 := rz3.on d4
    have ru4 := ru3.on d4
    have rq4 := rq3.on d4
    have rp4 := rp3.on d4
    have b4 := b3.trans (d4.mono b3.size)
    clear rz3 ru3 rq3 rp3 b3 d4
    by_cases h0 : qs.length = 0
    · have e0 : ((qs.length : Int) == 0) = true := by rw [beq_iff_eq]; omega
      clear HY HQ HK h0
      go_wp2_with fail
      clear e0
      go_wp2_with fail
      refine (sameInts_ret A3 A4 c3 c4 qs _ _ _ rq4 rp4 (by unfold maxLen; omega)).mono ?_
      rintro e w5 ⟨rfl, d5⟩
      go_wp2_with fail
      go_ret
      exact .mk_ (b4.trans (d5.mono b4.size))
    · have e0 : ((qs.length : Int) == 0) = false := by rw [beq_eq_false_iff_ne]; omega
      obtain ⟨rv, uv, hf, hqs⟩ := way_none HY.out HK.out HQ.out h0
      subst hqs
      have R4 : Hid (Refs4 us) := refs4_of uv
      have lz : Hid (zs.length = 4) := rv.1
      have HF : Hid (¬ FitTo zs us us.length) := fun e => hf e.all
      clear HY HQ HK h0 rv uv hf
      clear rp4
      go_wp2_with fail
      go_loopw [9, 10] (fun x i wr => ∃ (k : Nat) (b : Bool), k ≤ us.length ∧ i = .int .i64 k ∧ x = .bool b ∧ Hid (b = false → FitTo zs us k) ∧ Dr w4 wr) (fun _ i _ => us.length - (intOf i).toNat)
      case atStart => exact ⟨0, false, Nat.zero_le _, rfl, rfl, fun _ => .zero zs us, .refl _⟩
      case round =>
        obtain ⟨k, b, hk, rfl, rfl, HB, HW⟩ := hrel
        by_cases hlt : k < us.length
        · cases b with
          | true =>
            clear HB
            go_wp2_with fail
            go_quiet (fail)
            go_wp2
            go_roundw
            case rel => exact ⟨k + 1, true, by omega, by go_num, rfl, (fun e => by cases e), HW.drewN _⟩
            case measure => simp [intOf]; omega
          | false =>
            obtain ⟨o, ad2, ho, rfl, ha2, g0, g1, -⟩ := (HW.row ru4).up_ hlt
            obtain ⟨q0, q1⟩ := R4.out _ (List.getElem_mem hlt)
            rw [ho] at q0 q1
            obtain ⟨m, hm0⟩ := Int.eq_ofNat_of_zero_le q0
            have hmz : m < zs.length := by rw [lz.out]; omega
            obtain ⟨ad, e1, hb2, hc2⟩ := (HW.row rz4).int_ hmz
            rw [hm0] at g0
            have k0 : (0 : Int) ≤ (k : Int) := by omega
            have k1 : (k : Int) < (us.length : Int) := by omega
            have k2 : (0 : Int) ≤ (m : Int) := by omega
            have k3 : (m : Int) < (zs.length : Int) := by omega
            have hfit : zs[m] = o.o → fit1 zs us[k] := fun e => by
              unfold fit1
              rw [ho, hm0, Int.toNat_natCast, List.getElem?_eq_getElem hmz, e]
            subst e1
            by_cases heq : zs[m] = o.o
            · have e1 : (zs[m] != o.o) = false := by rw [bne_eq_false_iff_eq]; exact heq
              have HN : Hid (FitTo zs us (k + 1)) := (HB.out rfl).next hlt (hfit heq)
              clear HB hfit heq ho hm0 q0 q1
              go_wp2_with fail
              go_quiet (fail)
              go_wp2
              go_roundw
              case rel => exact ⟨k + 1, false, by omega, by go_num, rfl, fun _ => HN.out, HW.drewN _⟩
              case measure => simp [intOf]; omega
            · have e1 : (zs[m] != o.o) = true := by rw [bne_iff_ne]; exact heq
              clear HB hfit heq ho hm0 q0 q1
              go_wp2_with fail
              go_quiet (fail)
              go_wp2
              go_roundw
              case rel => exact ⟨k + 1, true, by omega, by go_num, rfl, (fun e => by cases e), HW.drewN _⟩
              case measure => simp [intOf]; omega
        · have hk' : k = us.length := by omega
          subst hk'
          have hbt : b = true := by
            cases b with
            | true => rfl
            | false => exact absurd (HB.out rfl) HF.out
          subst hbt
          have d5 := HW.below w4.heap.size
          have rz5 := rz4.on d5
          have rq5 := rq4.on d5
          have b5 := b4.trans (d5.mono b4.size)
          clear HB HF
          go_wp2_with fail
          refine (sameInts_ret A3 _ c3 c1 zs _ _ _ rq5 rz5 (by unfold maxLen; omega)).mono ?_
          rintro e w6 ⟨rfl, d6⟩
          go_wp2_with fail
          go_ret
          exact .mk_ (b5.trans (d6.mono b5.size))
theorem FnApplyNone_any (A : Option Addr) (c : Nat) (bs : List Int) (w : World) (f1 : Row w w.heap.size A (bs.map (Value.int .u8))) (f2 : bs.length ≤ c) (f3 : c ≤ maxLen) (f4 : ∀ n ∈ bs, 0 ≤ n ∧ n < 256) :
    Calls Try.prog 4 #[.slice A bs.length c] w (Ret (.bool true) w) := by
  by_cases hl : bs.length ≤ 1048576
  · exact FnApplyNone_yes A c bs w ⟨f1, f2, f3, f4⟩ hl
  · exact FnApplyNone_no A c bs w ⟨f1, f2, f3, f4⟩ hl
/-- Updates that don't cross: in either order. -/
theorem cross_order {zs : List Int} {us vs : List Up} {y : RWay} (hy : IsRWay zs us y) (hz : RV zs) (hu : UV us) (hv : UV vs) (hx : ¬ Cross us vs) :
    ∃ y2, IsRWay (applied zs us y) vs y2 ∧ IsRWay zs vs y2 ∧ IsRWay (applied zs vs y2) us y ∧ applied (applied zs us y) vs y2 = applied (applied zs vs y2) us y := by
  have f1 := no_cross hu hv hx
  have f2 : ∀ u ∈ vs, ∀ v ∈ us, u.r.toNat ≠ v.r.toNat := fun u h1 v h2 e => f1 v h2 u h1 e.symm
  have ru : RV (setR zs us) := setR_RV hz fun u h => (hu.2.mem u h).2.2.2.1
  have rv : RV (setR zs vs) := setR_RV hz fun u h => (hv.2.mem u h).2.2.2.1
  by_cases hf : Fits zs vs
  · refine ⟨.yes, ?_, ⟨hz, hv, hf⟩, ?_, ?_⟩
    · cases y with
      | bad => exact absurd ⟨hz, hu⟩ hy
      | no => exact ⟨hz, hv, hf⟩
      | yes => exact ⟨ru, hv, (fits_far f1).2 hf⟩
    · cases y with
      | bad => exact absurd ⟨hz, hu⟩ hy
      | no => exact ⟨rv, hu, fun e => hy.2.2 ((fits_far f2).1 e)⟩
      | yes => exact ⟨rv, hu, (fits_far f2).2 hy.2.2⟩
    · cases y with
      | bad => exact absurd ⟨hz, hu⟩ hy
      | no => rfl
      | yes => exact set_comm hu f1
  · refine ⟨.no, ?_, ⟨hz, hv, hf⟩, ?_, ?_⟩
    · cases y with
      | bad => exact absurd ⟨hz, hu⟩ hy
      | no => exact ⟨hz, hv, hf⟩
      | yes => exact ⟨ru, hv, fun e => hf ((fits_far f1).1 e)⟩
    · exact hy
    · cases y with
      | bad => exact absurd ⟨hz, hu⟩ hy
      | no => rfl
      | yes => rfl
theorem FnCrossOrder_no (A : Option Addr) (c : Nat) (bs : List Int) (A' : Option Addr) (c' : Nat) (bs' : List Int) (w : World) (h : Code_ w A c bs) (h' : Code_ w A' c' bs') (hl : ¬ (bs.length ≤ 1048576 ∧ bs'.length ≤ 1048576)) :
    Calls Try.prog 10 #[.slice A bs.length c, .slice A' bs'.length c'] w (Ret (.bool true) w) := by
  have hc := h.2.1
  have hm := h.2.2.1
  have hc' := h'.2.1
  have hm' := h'.2.2.1
  unfold maxLen at hm hm'
  by_cases h1 : bs.length ≤ 1048576
  · have h2 : ¬ bs'.length ≤ 1048576 := fun e => hl ⟨h1, e⟩
    clear hl
    go_enter Try.func10, Try.ntmps10
    go_wp2
    go_ret
    exact .mk_ (Below.refl _ _)
  · clear hl
    go_enter Try.func10, Try.ntmps10
    go_wp2
    go_ret
    exact .mk_ (Below.refl _ _)
set_option maxRecDepth 100000 in
set_option maxHeartbeats 8000000 in
theorem FnCrossOrder_yes (A : Option Addr) (c : Nat) (bs : List Int) (A' : Option Addr) (c' : Nat) (bs' : List Int) (w : World) (h : Code_ w A c bs) (h' : Code_ w A' c' bs') (hl : bs.length ≤ 1048576) (hl' : bs'.length ≤ 1048576) :
    Calls Try.prog 10 #[.slice A bs.length c, .slice A' bs'.length c'] w (Ret (.bool true) w) := by
  go_enter Try.func10, Try.ntmps10
  go_wp2_with fail
  refine (DrawRefsApply_any A c bs _ h).mono ?_
  rintro e w1 ⟨A1, c1, zs, A2, c2, us, rfl, rz1, h4, ru1, h5, b1⟩
  obtain ⟨y, hy⟩ := way_of zs us
  obtain ⟨qs, hqs⟩ : ∃ qs, applied zs us y = qs := ⟨_, rfl⟩
  obtain ⟨ok, hok⟩ : ∃ ok, y.ok = ok := ⟨_, rfl⟩
  have hql : qs.length ≤ 4 := by rw [← hqs]; exact applied_le h4
  have HY := hid hy
  have HQ := hid hqs
  have HK := hid hok
  clear hy hqs hok
  go_wp2_with fail
  refine (implApply_to qs ok y A1 A2 c1 c2 zs us w1 rz1 ru1 (by omega) (by omega) HY.out HQ.out HK.out).mono ?_
  rintro e w2 ⟨A3, c3, rfl, o3, d2⟩
  have rz2 := rz1.on d2
  have ru2 := ru1.on d2
  have b2 := b1.trans (d2.mono b1.size)
  have rq2 := o3.row
  clear rz1 ru1 b1 d2 o3
  go_wp2_with fail
  refine (specApply_to qs ok y A1 A2 c1 c2 zs us w2 rz2 ru2 (by omega) (by omega) HY.out HQ.out HK.out).mono ?_
  rintro e w3 ⟨A4, c4, rfl, o4, d3⟩
  have rz3 := rz2.on d3
  have ru3 := ru2.on d3
  have rq3 := rq2.on d3
  have rp3 := o4.row
  have b3 := b2.trans (d3.mono b2.size)
  clear rz2 ru2 rq2 b2 d3 o4
  obtain ⟨vz, hvz⟩ := bool_of (RV zs)
  obtain ⟨vu, hvu⟩ := bool_of (UV us)
  have HVZ := hid hvz
  have HVU := hid hvu
  clear hvz hvu
  go_wp2_with fail
  refine (sameInts_ret A3 A4 c3 c4 qs _ _ _ rq3 rp3 (by unfold maxLen; omega)).mono ?_
  rintro e w4 ⟨rfl, d4⟩
  have rz4 := rz3.on d4
  have ru4 := ru3.on d4
  have rq4 := rq3.on d4
  have rp4 := rp3.on d4
  have b4 := b3.trans (d4.mono b3.size)
  clear rz3 ru3 rq3 rp3 b3 d4
  go_wp2_with fail
  refine (specRefsValid_is vz A1 c1 zs _ _ rz4 (by omega) HVZ.out).mono ?_
  rintro e w5 ⟨rfl, rfl⟩
  cases vz with
  | false =>
    clear HY HQ HK HVZ HVU
    go_wp2_with fail
    go_wp2_with fail
    refine (sameInts_ret A3 A4 c3 c4 qs _ _ _ rq4 rp4 (by unfold maxLen; omega)).mono ?_
    rintro e w5 ⟨rfl, d5⟩
    go_wp2_with fail
    go_ret
    exact .mk_ (b4.trans (d5.mono b4.size))
  | true =>
    have PZ := hid (HVZ.out.1 rfl)
    clear HVZ
    go_wp2_with fail
    refine (specUpdatesValid_is vu A2 c2 us _ ru4 (by omega) HVU.out).mono ?_
    rintro e w6 ⟨rfl, d6⟩
    have rz6 := rz4.on d6
    have ru6 := ru4.on d6
    have rq6 := rq4.on d6
    have rp6 := rp4.on d6
    have b6 := b4.trans (d6.mono b4.size)
    clear rz4 ru4 rq4 rp4 b4 d6
    cases vu with
    | false =>
      clear HY HQ HK PZ HVU
      go_wp2_with fail
      refine (sameInts_ret A3 A4 c3 c4 qs _ _ _ rq6 rp6 (by unfold maxLen; omega)).mono ?_
      rintro e w7 ⟨rfl, d7⟩
      go_wp2_with fail
      go_ret
      exact .mk_ (b6.trans (d7.mono b6.size))
    | true =>
      have PU := hid (HVU.out.1 rfl)
      clear HVU
      have code6 : Code_ w6 A' c' bs' := h'.below b6
      go_wp2_with fail
      refine (DrawRefsApply_any A' c' bs' _ code6).mono ?_
      rintro e w7 ⟨A7, c7, xs, A8, c8, vs, rfl, -, -, rv7, h8, d7⟩
      have rz7 := rz6.on d7
      have ru7 := ru6.on d7
      have rq7 := rq6.on d7
      have b7 := b6.trans (d7.mono b6.size)
      obtain ⟨vv, hvv⟩ := bool_of (UV vs)
      obtain ⟨x, hx⟩ := bool_of (Cross us vs)
      have HVV := hid hvv
      have HX := hid hx
      clear rz6 ru6 rq6 rp6 b6 d7 code6 hvv hx
      go_wp2_with fail
      refine (implUpdatesValid_is vv A8 c8 vs _ rv7 (by omega) HVV.out).mono ?_
      rintro e w8 ⟨rfl, d8⟩
      have rz8 := rz7.on d8
      have ru8 := ru7.on d8
      have rq8 := rq7.on d8
      have rv8 := rv7.on d8
      have b8 := b7.trans (d8.mono b7.size)
      clear rz7 ru7 rq7 rv7 b7 d8
      cases vv with
      | false =>
        clear HY HQ HK PZ PU HVV HX
        go_wp2_with fail
        go_ret
        exact .mk_ b8
      | true =>
        have PV := hid (HVV.out.1 rfl)
        clear HVV
        go_wp2_with fail
        refine (implUpdatesCross_is x A2 A8 c2 c8 us vs _ ru8 rv8 (by omega) (by omega) HX.out).mono ?_
        rintro e w9 ⟨rfl, d9⟩
        have rz9 := rz8.on d9
        have ru9 := ru8.on d9
        have rq9 := rq8.on d9
        have rv9 := rv8.on d9
        have b9 := b8.trans (d9.mono b8.size)
        clear rz8 ru8 rq8 rv8 b8 d9
        cases x with
        | true =>
          clear HY HQ HK PZ PU PV HX
          go_wp2_with fail
          go_ret
          exact .mk_ b9
        | false =>
          obtain ⟨y2, hy2, hy3, hy4, he⟩ := cross_order HY.out PZ.out PU.out PV.out (fun e => by have := HX.out.2 e; cases this)
          obtain ⟨ok2, hok2⟩ : ∃ ok2, y2.ok = ok2 := ⟨_, rfl⟩
          rw [HQ.out] at hy2 he
          obtain ⟨ps, hps⟩ : ∃ ps, applied zs vs y2 = ps := ⟨_, rfl⟩
          rw [hps] at hy4 he
          obtain ⟨rs, hrs⟩ : ∃ rs, applied ps us y = rs := ⟨_, rfl⟩
          rw [hrs] at he
          have hpl : ps.length ≤ 4 := by rw [← hps]; exact applied_le h4
          have hrl : rs.length ≤ 4 := by rw [← hrs]; exact applied_le hpl
          have CA : Hid (∀ x, Row x x.heap.size A3 (ints qs) → Row x x.heap.size A8 (upsV vs) → Calls Try.prog 12 #[.slice A3 qs.length c3, .slice A8 vs.length c8] x (AppTo rs ok2 x)) := fun x h1 h2 => implApply_to rs ok2 y2 A3 A8 c3 c8 qs vs x h1 h2 (by omega) (by omega) hy2 he hok2
          have CB : Hid (∀ x, Row x x.heap.size A1 (ints zs) → Row x x.heap.size A8 (upsV vs) → Calls Try.prog 12 #[.slice A1 zs.length c1, .slice A8 vs.length c8] x (AppTo ps ok2 x)) := fun x h1 h2 => implApply_to ps ok2 y2 A1 A8 c1 c8 zs vs x h1 h2 (by omega) (by omega) hy3 hps hok2
          have CC : Hid (∀ x A9 c9, Row x x.heap.size A9 (ints ps) → Row x x.heap.size A2 (upsV us) → Calls Try.prog 12 #[.slice A9 ps.length c9, .slice A2 us.length c2] x (AppTo rs ok x)) := fun x A9 c9 h1 h2 => implApply_to rs ok y A9 A2 c9 c2 ps us x h1 h2 (by omega) (by omega) hy4 hrs HK.out
          clear HY HQ HK PZ PU PV HX hy2 hy3 hy4 he hok2 hps hrs
          go_wp2_with fail
          refine (CA.out _ rq9 rv9).mono ?_
          rintro e w10 ⟨A10, c10, rfl, o10, d10⟩
          have rz10 := rz9.on d10
          have ru10 := ru9.on d10
          have rv10 := rv9.on d10
          have ra10 := o10.row
          have b10 := b9.trans (d10.mono b9.size)
          clear rz9 ru9 rq9 rv9 b9 d10 o10
          go_wp2_with fail
          refine (CB.out _ rz10 rv10).mono ?_
          rintro e w11 ⟨A11, c11, rfl, o11, d11⟩
          have ru11 := ru10.on d11
          have ra11 := ra10.on d11
          have rb11 := o11.row
          have b11 := b10.trans (d11.mono b10.size)
          clear rz10 ru10 rv10 ra10 b10 d11 o11
          go_wp2_with fail
          refine (CC.out _ _ _ rb11 ru11).mono ?_
          rintro e w12 ⟨A12, c12, rfl, o12, d12⟩
          have ra12 := ra11.on d12
          have rc12 := o12.row
          have b12 := b11.trans (d12.mono b11.size)
          clear ru11 ra11 rb11 b11 d12 o12 CA CB CC
          go_wp2_with fail
          refine (sameInts_ret A10 A12 c10 c12 rs _ _ _ ra12 rc12 (by unfold maxLen; omega)).mono ?_
          rintro e w13 ⟨rfl, d13⟩
          go_wp2_with fail
          go_ret
          exact .mk_ (b12.trans (d13.mono b12.size))
theorem FnCrossOrder_any (A : Option Addr) (c : Nat) (bs : List Int) (A' : Option Addr) (c' : Nat) (bs' : List Int) (w : World) (f1 : Row w w.heap.size A (bs.map (Value.int .u8))) (f2 : bs.length ≤ c) (f3 : c ≤ maxLen) (f4 : ∀ n ∈ bs, 0 ≤ n ∧ n < 256) (g1 : Row w w.heap.size A' (bs'.map (Value.int .u8))) (g2 : bs'.length ≤ c') (g3 : c' ≤ maxLen) (g4 : ∀ n ∈ bs', 0 ≤ n ∧ n < 256) :
    Calls Try.prog 10 #[.slice A bs.length c, .slice A' bs'.length c'] w (Ret (.bool true) w) := by
  by_cases hl : bs.length ≤ 1048576 ∧ bs'.length ≤ 1048576
  · exact FnCrossOrder_yes A c bs A' c' bs' w ⟨f1, f2, f3, f4⟩ ⟨g1, g2, g3, g4⟩ hl.1 hl.2
  · exact FnCrossOrder_no A c bs A' c' bs' w ⟨f1, f2, f3, f4⟩ ⟨g1, g2, g3, g4⟩ hl
end Go.Proofs.Ytimoabghkmebfaa
