/-
  Walks of the laws on performed updates.
-/
import Derived.Test.YtimoabghkmebfaaRefM
namespace Go.Proofs.Ytimoabghkmebfaa
open Go.RowKit Wo Pu Rf

theorem FnApplyTwice_no (A : Option Addr) (c : Nat) (bs : List Int) (w : World) (h : Code_ w A c bs) (hl : ¬ bs.length ≤ 1048576) :
    Calls Try.prog 5 #[.slice A bs.length c] w (Ret (.bool true) w) := by
  have hc := h.2.1
  have hm := h.2.2.1
  unfold maxLen at hm
  go_enter Try.func5, Try.ntmps5
  go_wp2
  go_ret
  exact .mk_ (Below.refl _ _)
set_option maxRecDepth 100000 in
set_option maxHeartbeats 4000000 in
theorem FnApplyTwice_yes (A : Option Addr) (c : Nat) (bs : List Int) (w : World) (h : Code_ w A c bs) (hl : bs.length ≤ 1048576) :
    Calls Try.prog 5 #[.slice A bs.length c] w (Ret (.bool true) w) := by
  go_enter Try.func5, Try.ntmps5
  go_wp2_with fail
  refine (DrawRefsApply_any A c bs _ h).mono ?_
  rintro e w1 ⟨A1, c1, zs, A2, c2, us, rfl, rz1, h4, ru1, h5, b1⟩
  obtain ⟨y, hy⟩ := way_of zs us
  obtain ⟨qs, hqs⟩ : ∃ qs, applied zs us y = qs := ⟨_, rfl⟩
  obtain ⟨ok, hok⟩ : ∃ ok, y.ok = ok := ⟨_, rfl⟩
  have hql : qs.length ≤ 4 := by rw [← hqs]; exact applied_le h4
  have HY := hid hy
  have HQ := hid hqs
  have HK := hid hok
  clear hy hqs hok
  go_wp2_with fail
  refine (implApply_to qs ok y A1 A2 c1 c2 zs us w1 rz1 ru1 (by omega) (by omega) HY.out HQ.out HK.out).mono ?_
  rintro e w2 ⟨A3, c3, rfl, o3, d2⟩
  have rz2 := rz1.on d2
  have ru2 := ru1.on d2
  have b2 := b1.trans (d2.mono b1.size)
  have rq2 := o3.row
  clear rz1 ru1 b1 d2 o3
  go_wp2_with fail
  refine (specApply_to qs ok y A1 A2 c1 c2 zs us w2 rz2 ru2 (by omega) (by omega) HY.out HQ.out HK.out).mono ?_
  rintro e w3 ⟨A4, c4, rfl, o4, d3⟩
  have rz3 := rz2.on d3
  have ru3 := ru2.on d3
  have rq3 := rq2.on d3
  have rp3 := o4.row
  have b3 := b2.trans (d3.mono b2.size)
  clear rz2 ru2 rq2 b2 d3 o4
  cases ok with
  | false =>
    clear HY HQ HK
    go_wp2_with fail
    refine (sameInts_ret A3 A4 c3 c4 qs _ _ _ rq3 rp3 (by unfold maxLen; omega)).mono ?_
    rintro e w4 ⟨rfl, d4⟩
    have rz4 := rz3.on d4
    have ru4 := ru3.on d4
    have rq4 := rq3.on d4
    have rp4 := rp3.on d4
    have b4 := b3.trans (d4.mono b3.size)
    clear rz3 ru3 rq3 rp3 b3 d4
    go_wp2_with fail
    refine (sameInts_ret A3 A4 c3 c4 qs _ _ _ rq4 rp4 (by unfold maxLen; omega)).mono ?_
    rintro e w5 ⟨rfl, d5⟩
    go_wp2_with fail
    go_ret
    exact .mk_ (b4.trans (d5.mono b4.size))
  | true =>
    obtain ⟨rv, uv, hf, hqs⟩ := way_yes HY.out HK.out HQ.out
    have hz4 : zs.length = 4 := rv.1
    have W2 : Hid (IsRWay qs us .no) := by
      refine ⟨?_, uv, ?_⟩
      · rw [← hqs]; exact setR_RV rv fun u hu => (uv.2.mem u hu).2.2.2.1
      · rw [← hqs]; exact apply_twice uv rv.1
    clear HY HQ HK rv uv hf hqs hz4
    go_wp2_with fail
    refine (sameInts_ret A3 A4 c3 c4 qs _ _ _ rq3 rp3 (by unfold maxLen; omega)).mono ?_
    rintro e w4 ⟨rfl, d4⟩
    have rz4 := rz3.on d4
    have ru4 := ru3.on d4
    have rq4 := rq3.on d4
    have rp4 := rp3.on d4
    have b4 := b3.trans (d4.mono b3.size)
    clear rz3 ru3 rq3 rp3 b3 d4
    go_wp2_with fail
    refine (implApply_to qs false .no A3 A2 c3 c2 qs us w4 rq4 ru4 (by omega) (by omega) W2.out rfl rfl).mono ?_
    rintro e w5 ⟨A5, c5, rfl, o5, d5⟩
    have rq5 := rq4.on d5
    have r5 := o5.row
    have b5 := b4.trans (d5.mono b4.size)
    clear rz4 ru4 rq4 rp4 b4 d5 o5
    go_wp2_with fail
    refine (sameInts_ret A5 A3 c5 c3 qs _ _ _ r5 rq5 (by unfold maxLen; omega)).mono ?_
    rintro e w6 ⟨rfl, d6⟩
    go_wp2_with fail
    go_ret
    exact .mk_ (b5.trans (d6.mono b5.size))
theorem FnApplyTwice_any (A : Option Addr) (c : Nat) (bs : List Int) (w : World) (f1 : Row w w.heap.size A (bs.map (Value.int .u8))) (f2 : bs.length ≤ c) (f3 : c ≤ maxLen) (f4 : ∀ n ∈ bs, 0 ≤ n ∧ n < 256) :
    Calls Try.prog 5 #[.slice A bs.length c] w (Ret (.bool true) w) := by
  by_cases hl : bs.length ≤ 1048576
  · exact FnApplyTwice_yes A c bs w ⟨f1, f2, f3, f4⟩ hl
  · exact FnApplyTwice_no A c bs w ⟨f1, f2, f3, f4⟩ hl

theorem FnApplyBack_no (A : Option Addr) (c : Nat) (bs : List Int) (w : World) (h : Code_ w A c bs) (hl : ¬ bs.length ≤ 1048576) :
    Calls Try.prog 6 #[.slice A bs.length c] w (Ret (.bool true) w) := by
  have hc := h.2.1
  have hm := h.2.2.1
  unfold maxLen at hm
  go_enter Try.func6, Try.ntmps6
  go_wp2
  go_ret
  exact .mk_ (Below.refl _ _)
set_option maxRecDepth 100000 in
set_option maxHeartbeats 4000000 in
theorem FnApplyBack_yes (A : Option Addr) (c : Nat) (bs : List Int) (w : World) (h : Code_ w A c bs) (hl : bs.length ≤ 1048576) :
    Calls Try.prog 6 #[.slice A bs.length c] w (Ret (.bool true) w) := by
  go_enter Try.func6, Try.ntmps6
  go_wp2_with fail
  refine (DrawRefsApply_any A c bs _ h).mono ?_
  rintro e w1 ⟨A1, c1, zs, A2, c2, us, rfl, rz1, h4, ru1, h5, b1⟩
  obtain ⟨y, hy⟩ := way_of zs us
  obtain ⟨qs, hqs⟩ : ∃ qs, applied zs us y = qs := ⟨_, rfl⟩
  obtain ⟨ok, hok⟩ : ∃ ok, y.ok = ok := ⟨_, rfl⟩
  have hql : qs.length ≤ 4 := by rw [← hqs]; exact applied_le h4
  have HY := hid hy
  have HQ := hid hqs
  have HK := hid hok
  clear hy hqs hok
  go_wp2_with fail
  refine (implApply_to qs ok y A1 A2 c1 c2 zs us w1 rz1 ru1 (by omega) (by omega) HY.out HQ.out HK.out).mono ?_
  rintro e w2 ⟨A3, c3, rfl, o3, d2⟩
  have rz2 := rz1.on d2
  have ru2 := ru1.on d2
  have b2 := b1.trans (d2.mono b1.size)
  have rq2 := o3.row
  clear rz1 ru1 b1 d2 o3
  go_wp2_with fail
  refine (specApply_to qs ok y A1 A2 c1 c2 zs us w2 rz2 ru2 (by omega) (by omega) HY.out HQ.out HK.out).mono ?_
  rintro e w3 ⟨A4, c4, rfl, o4, d3⟩
  have rz3 := rz2.on d3
  have ru3 := ru2.on d3
  have rq3 := rq2.on d3
  have rp3 := o4.row
  have b3 := b2.trans (d3.mono b2.size)
  clear rz2 ru2 rq2 b2 d3 o4
  cases ok with
  | false =>
    clear HY HQ HK
    go_wp2_with fail
    refine (sameInts_ret A3 A4 c3 c4 qs _ _ _ rq3 rp3 (by unfold maxLen; omega)).mono ?_
    rintro e w4 ⟨rfl, d4⟩
    have rz4 := rz3.on d4
    have ru4 := ru3.on d4
    have rq4 := rq3.on d4
    have rp4 := rp3.on d4
    have b4 := b3.trans (d4.mono b3.size)
    clear rz3 ru3 rq3 rp3 b3 d4
    go_wp2_with fail
    refine (sameInts_ret A3 A4 c3 c4 qs _ _ _ rq4 rp4 (by unfold maxLen; omega)).mono ?_
    rintro e w5 ⟨rfl, d5⟩
    go_wp2_with fail
    go_ret
    exact .mk_ (b4.trans (d5.mono b4.size))
  | true =>
    obtain ⟨rv, uv, hf, hqs⟩ := way_yes HY.out HK.out HQ.out
    obtain ⟨vs, hvs⟩ : ∃ vs, inv us = vs := ⟨_, rfl⟩
    have hvl : vs.length ≤ 4 := by rw [← hvs]; unfold inv; rw [List.length_map]; exact h5
    have CI : Hid (∀ x, Row x x.heap.size A2 (upsV us) → Calls Try.prog 16 #[.slice A2 us.length c2] x (UpsOf vs x)) := fun x hx => by rw [← hvs]; exact inverse_any A2 c2 us x hx (by omega)
    have W2 : Hid (IsRWay qs vs .yes) := by
      rw [← hqs, ← hvs]
      exact ⟨setR_RV rv fun u hu => (uv.2.mem u hu).2.2.2.1, uv.inv, fits_inv uv rv.1⟩
    have E2 : Hid (applied qs vs .yes = zs) := by
      rw [← hqs, ← hvs]
      exact set_back uv hf
    clear HY HQ HK rv uv hf hqs hvs
    go_wp2_with fail
    refine (sameInts_ret A3 A4 c3 c4 qs _ _ _ rq3 rp3 (by unfold maxLen; omega)).mono ?_
    rintro e w4 ⟨rfl, d4⟩
    have rz4 := rz3.on d4
    have ru4 := ru3.on d4
    have rq4 := rq3.on d4
    have rp4 := rp3.on d4
    have b4 := b3.trans (d4.mono b3.size)
    clear rz3 ru3 rq3 rp3 b3 d4
    go_wp2_with fail
    refine (CI.out _ ru4).mono ?_
    rintro e w5 ⟨A5, c5, rfl, o5, d5⟩
    have rq5 := rq4.on d5
    have rz5 := rz4.on d5
    have r5 := o5.row
    have b5 := b4.trans (d5.mono b4.size)
    clear rz4 ru4 rq4 rp4 b4 d5 o5
    go_wp2_with fail
    refine (implApply_to zs true .yes A3 A5 c3 c5 qs vs w5 rq5 r5 (by omega) (by omega) W2.out E2.out rfl).mono ?_
    rintro e w6 ⟨A6, c6, rfl, o6, d6⟩
    have rz6 := rz5.on d6
    have r6 := o6.row
    have b6 := b5.trans (d6.mono b5.size)
    clear rq5 rz5 r5 b5 d6 o6
    go_wp2_with fail
    refine (sameInts_ret A6 A1 c6 c1 zs _ _ _ r6 rz6 (by unfold maxLen; omega)).mono ?_
    rintro e w7 ⟨rfl, d7⟩
    go_wp2_with fail
    go_ret
    exact .mk_ (b6.trans (d7.mono b6.size))
theorem FnApplyBack_any (A : Option Addr) (c : Nat) (bs : List Int) (w : World) (f1 : Row w w.heap.size A (bs.map (Value.int .u8))) (f2 : bs.length ≤ c) (f3 : c ≤ maxLen) (f4 : ∀ n ∈ bs, 0 ≤ n ∧ n < 256) :
    Calls Try.prog 6 #[.slice A bs.length c] w (Ret (.bool true) w) := by
  by_cases hl : bs.length ≤ 1048576
  · exact FnApplyBack_yes A c bs w ⟨f1, f2, f3, f4⟩ hl
  · exact FnApplyBack_no A c bs w ⟨f1, f2, f3, f4⟩ hl
theorem want_step {r : Nat} {z : Int} {us : List Up} {k : Nat} (hk : k < us.length) : wantAt r z (us.take (k + 1)) = if us[k].r.toNat = r then us[k].n else wantAt r z (us.take k) := by
  rw [List.take_succ_eq_append_getElem hk, wantAt_snoc]
theorem FnApplyRefs_no (A : Option Addr) (c : Nat) (bs : List Int) (w : World) (h : Code_ w A c bs) (hl : ¬ bs.length ≤ 1048576) :
    Calls Try.prog 3 #[.slice A bs.length c] w (Ret (.bool true) w) := by
  have hc := h.2.1
  have hm := h.2.2.1
  unfold maxLen at hm
  go_enter Try.func3, Try.ntmps3
  go_wp2
  go_ret
  exact .mk_ (Below.refl _ _)
set_option maxRecDepth 100000 in
set_option maxHeartbeats 4000000 in
theorem FnApplyRefs_yes (A : Option Addr) (c : Nat) (bs : List Int) (w : World) (h : Code_ w A c bs) (hl : bs.length ≤ 1048576) :
    Calls Try.prog 3 #[.slice A bs.length c] w (Ret (.bool true) w) := by
  go_enter Try.func3, Try.ntmps3
  go_wp2_with fail
  refine (DrawRefsApply_any A c bs _ h).mono ?_
  rintro e w1 ⟨A1, c1, zs, A2, c2, us, rfl, rz1, h4, ru1, h5, b1⟩
  obtain ⟨y, hy⟩ := way_of zs us
  obtain ⟨qs, hqs⟩ : ∃ qs, applied zs us y = qs := ⟨_, rfl⟩
  obtain ⟨ok, hok⟩ : ∃ ok, y.ok = ok := ⟨_, rfl⟩
  have hql : qs.length ≤ 4 := by rw [← hqs]; exact applied_le h4
  have HY := hid hy
  have HQ := hid hqs
  have HK := hid hok
  clear hy hqs hok
  go_wp2_with fail
  refine (implApply_to qs ok y A1 A2 c1 c2 zs us w1 rz1 ru1 (by omega) (by omega) HY.out HQ.out HK.out).mono ?_
  rintro e w2 ⟨A3, c3, rfl, o3, d2⟩
  have rz2 := rz1.on d2
  have ru2 := ru1.on d2
  have b2 := b1.trans (d2.mono b1.size)
  have rq2 := o3.row
  clear rz1 ru1 b1 d2 o3
  go_wp2_with fail
  refine (specApply_to qs ok y A1 A2 c1 c2 zs us w2 rz2 ru2 (by omega) (by omega) HY.out HQ.out HK.out).mono ?_
  rintro e w3 ⟨A4, c4, rfl, o4, d3⟩
  have rz3 := rz2.on d3
  have ru3 := ru2.on d3
  have rq3 := rq2.on d3
  have rp3 := o4.row
  have b3 := b2.trans (d3.mono b2.size)
  clear rz2 ru2 rq2 b2 d3 o4
  cases ok with
  | false =>
    clear HY HQ HK
    go_wp2_with fail
    refine (sameInts_ret A3 A4 c3 c4 qs _ _ _ rq3 rp3 (by unfold maxLen; omega)).mono ?_
    rintro e w4 ⟨rfl, d4⟩
    have rz4 := rz3.on d4
    have ru4 := ru3.on d4
    have rq4 := rq3.on d4
    have rp4 := rp3.on d4
    have b4 := b3.trans (d4.mono b3.size)
    clear rz3 ru3 rq3 rp3 b3 d4
    go_wp2_with fail
    refine (sameInts_ret A3 A4 c3 c4 qs _ _ _ rq4 rp4 (by unfold maxLen; omega)).mono ?_
    rintro e w5 ⟨rfl, d5⟩
    go_wp2_with fail
    go_ret
    exact .mk_ (b4.trans (d5.mono b4.size))
  | true =>
    obtain ⟨rv, uv, hf, hqs⟩ := way_yes HY.out HK.out HQ.out
    have R4 : Hid (Refs4 us) := refs4_of uv
    have rvq : RV qs := by rw [← hqs]; exact setR_RV rv fun u hu => (uv.2.mem u hu).2.2.2.1
    have HG : Hid (∀ r (h1 : r < zs.length) (h2 : r < qs.length), qs[r] = wantAt r zs[r] us) := fun r h1 h2 => by
      have := setR_get us zs r
      rw [hqs, List.getElem?_eq_getElem h1, List.getElem?_eq_getElem h2] at this
      injection this
    have lz : Hid (zs.length = 4) := rv.1
    have lq : Hid (qs.length = 4) := rvq.1
    have CV : Hid (∀ x, Row x x.heap.size A3 (ints qs) → Calls Try.prog 15 #[.slice A3 qs.length c3] x (Ret (.bool true) x)) := fun x hx => implRefsValid_is true A3 c3 qs x _ hx (by omega) ⟨fun _ => rvq, fun _ => rfl⟩
    clear HY HQ HK rv uv hf hqs rvq
    go_wp2_with fail
    refine (sameInts_ret A3 A4 c3 c4 qs _ _ _ rq3 rp3 (by unfold maxLen; omega)).mono ?_
    rintro e w4 ⟨rfl, d4⟩
    have rz4 := rz3.on d4
    have ru4 := ru3.on d4
    have rq4 := rq3.on d4
    have rp4 := rp3.on d4
    have b4 := b3.trans (d4.mono b3.size)
    clear rz3 ru3 rq3 rp3 b3 d4
    clear rp4
    go_wp2_with fail
    go_loopw [9] (fun i wr => ∃ r : Nat, r ≤ 4 ∧ i = .int .i64 r ∧ Dr w4 wr) (fun i _ => 4 - (intOf i).toNat)
    case atStart => exact ⟨0, Nat.zero_le _, rfl, .refl _⟩
    case round =>
      obtain ⟨r, hr, rfl, HW⟩ := hrel
      by_cases hlt : r < 4
      · have r1 : r < zs.length := by rw [lz.out]; exact hlt
        have r2 : r < qs.length := by rw [lq.out]; exact hlt
        have HGr := hid (HG.out r r1 r2)
        obtain ⟨ad, e1, had, hc⟩ := (HW.row rz4).int_ r1
        obtain ⟨ad3, e3, had3, hc3⟩ := (HW.row rq4).int_ r2
        obtain ⟨z, hz⟩ : ∃ z, zs[r] = z := ⟨_, rfl⟩
        obtain ⟨q, hq⟩ : ∃ q, qs[r] = q := ⟨_, rfl⟩
        rw [hz] at hc
        rw [hq] at hc3
        have HGz : Hid (q = wantAt r z us) := by show _ = _; rw [← hz, ← hq]; exact HGr.out
        have HQr := hid hq
        clear HGr hz hq
        have q0 : (0 : Int) ≤ (r : Int) := by omega
        have q1 : (r : Int) < (zs.length : Int) := by omega
        have q2 : (r : Int) < (qs.length : Int) := by omega
        subst e1
        subst e3
        go_wp2_with fail
        go_loopw [10, 11] (fun x i wr2 => ∃ (k : Nat) (y : Int), k ≤ us.length ∧ i = .int .i64 k ∧ x = .int .i64 y ∧ Hid (y = wantAt r z (us.take k)) ∧ Dr w4 wr2) (fun _ i _ => us.length - (intOf i).toNat)
        case atStart => exact ⟨0, z, Nat.zero_le _, rfl, rfl, (by show _ = _; rw [List.take_zero]; rfl), HW⟩
        case round =>
          clear hc hc3
          obtain ⟨k, y, hk, rfl, rfl, HYk, HV⟩ := hrel
          by_cases hlk : k < us.length
          · obtain ⟨o, ad2, ho, rfl, ha2, g0, -, g2⟩ := (HV.row ru4).up_ hlk
            have hst := want_step (r := r) (z := z) hlk
            have h0 := (R4.out _ (List.getElem_mem hlk)).1
            rw [ho] at hst h0
            have k0 : (0 : Int) ≤ (k : Int) := by omega
            have k1 : (k : Int) < (us.length : Int) := by omega
            by_cases hor : o.r = (r : Int)
            · have e0 : (o.r == (r : Int)) = true := by rw [beq_iff_eq]; exact hor
              rw [if_pos (by omega)] at hst
              have HN : Hid (o.n = wantAt r z (us.take (k + 1))) := hst.symm
              clear hst HYk hor ho
              go_wp2
              go_roundw
              case rel => exact ⟨k + 1, o.n, by omega, by go_num, rfl, HN, HV⟩
              case measure => simp [intOf]; omega
            · have e0 : (o.r == (r : Int)) = false := by rw [beq_eq_false_iff_ne]; exact hor
              rw [if_neg (by omega)] at hst
              have HN : Hid (y = wantAt r z (us.take (k + 1))) := by show _ = _; rw [hst]; exact HYk.out
              clear hst HYk hor ho
              go_wp2
              go_roundw
              case rel => exact ⟨k + 1, y, by omega, by go_num, rfl, HN, HV⟩
              case measure => simp [intOf]; omega
          · have hk' : k = us.length := by omega
            subst hk'
            have hyq : q = y := by
              have := HYk.out
              rw [List.take_length] at this
              rw [this]
              exact HGz.out
            subst hyq
            obtain ⟨ad3', e3, had3', hc3⟩ := (HV.row rq4).int_ r2
            injection e3 with e3
            subst e3
            rw [HQr.out] at hc3
            clear HYk
            go_wp2
            go_roundw
            case rel => exact ⟨r + 1, by omega, by go_num, HV⟩
            case measure => simp [intOf]; omega
      · have hr' : r = 4 := by omega
        subst hr'
        have d5 := HW.below w4.heap.size
        have rq5 := rq4.on d5
        have b5 := b4.trans (d5.mono b4.size)
        go_wp2_with fail
        refine (CV.out _ rq5).mono ?_
        rintro e w6 ⟨rfl, d6⟩
        go_wp2_with fail
        go_ret
        exact .mk_ (b5.trans (d6.mono b5.size))
theorem FnApplyRefs_any (A : Option Addr) (c : Nat) (bs : List Int) (w : World) (f1 : Row w w.heap.size A (bs.map (Value.int .u8))) (f2 : bs.length ≤ c) (f3 : c ≤ maxLen) (f4 : ∀ n ∈ bs, 0 ≤ n ∧ n < 256) :
    Calls Try.prog 3 #[.slice A bs.length c] w (Ret (.bool true) w) := by
  by_cases hl : bs.length ≤ 1048576
  · exact FnApplyRefs_yes A c bs w ⟨f1, f2, f3, f4⟩ hl
  · exact FnApplyRefs_no A c bs w ⟨f1, f2, f3, f4⟩ hl
end Go.Proofs.Ytimoabghkmebfaa
