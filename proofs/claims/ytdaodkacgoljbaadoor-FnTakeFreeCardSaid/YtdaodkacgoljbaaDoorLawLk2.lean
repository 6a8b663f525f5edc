/-
  Walks of the laws on locks that are not taken, and on freed ones.
-/
import Derived.Test.YtdaodkacgoljbaaDoorLockM
namespace Go.Proofs.YtdaodkacgoljbaaDoor
open Go.RowKit Wo Pu Rf Lk

theorem FnTakeNone_no (A : Option Addr) (c : Nat) (bs : List Int) (w : World) (h : Code_ w A c bs) (hl : ¬ bs.length ≤ 1048576) :
    Calls Tryd.prog 4 #[.slice A bs.length c] w (Ret (.bool true) w) := by
  have hc := h.2.1
  have hm := h.2.2.1
  unfold maxLen at hm
  go_enter Tryd.func4, Tryd.ntmps4
  go_wp2
  go_ret
  exact .mk_ (Below.refl _ _)
set_option maxRecDepth 100000 in
set_option maxHeartbeats 8000000 in
theorem FnTakeNone_yes (A : Option Addr) (c : Nat) (bs : List Int) (w : World) (h : Code_ w A c bs) (hl : bs.length ≤ 1048576) (er0 er1 : Addr) (HE : Hid (Errs er0 er1 w)) :
    Calls Tryd.prog 4 #[.slice A bs.length c] w (Ret (.bool true) w) := by
  go_enter Tryd.func4, Tryd.ntmps4
  go_wp2_with fail
  refine (DrawLocksTake_any A c bs _ h).mono ?_
  rintro e w1 ⟨A1, c1, zs, t, A2, c2, us, rfl, rz1, h4, ht0, ht1, ru1, h5, b1⟩
  obtain ⟨y, hy⟩ := lway_of zs t us
  obtain ⟨qs, hqs⟩ : ∃ qs, applied zs (lk t us) y = qs := ⟨_, rfl⟩
  obtain ⟨ok, hok⟩ : ∃ ok, y.ok = ok := ⟨_, rfl⟩
  have hql : qs.length ≤ 4 := by rw [← hqs]; exact took_le h4
  have HY := hid hy
  have HQ := hid hqs
  have HK := hid hok
  clear hy hqs hok
  go_wp2_with fail
  refine (implTake_to qs ok y A1 A2 c1 c2 zs t us w1 _ _ (HE.out.below b1) rz1 ru1 (by omega) (by omega) HY.out HQ.out HK.out).mono ?_
  rintro e w2 ⟨A3, c3, rfl, o3, d2⟩
  have rz2 := rz1.on d2
  have ru2 := ru1.on d2
  have b2 := b1.trans (d2.mono b1.size)
  have rq2 := o3.row
  clear rz1 ru1 b1 d2 o3
  go_wp2_with fail
  refine (specTake_to qs ok y A1 A2 c1 c2 zs t us w2 rz2 ru2 (by omega) (by omega) HY.out HQ.out HK.out).mono ?_
  rintro e w3 ⟨A4, c4, rfl, o4, d3⟩
  have rz3 := rz2.on d3
  have ru3 := ru2.on d3
  have rq3 := rq2.on d3
  have rp3 := o4.row
  have b3 := b2.trans (d3.mono b2.size)
  clear rz2 ru2 rq2 b2 d3 o4
  cases ok with
  | true =>
    clear HY HQ HK
    go_wp2_with fail
    refine (sameInts_ret A3 A4 c3 c4 qs _ _ _ rq3 rp3 (by unfold maxLen; omega)).mono ?_
    rintro e w4 ⟨rfl, d4⟩
    have rz4 := rz3.on d4
    have ru4 := ru3.on d4
    have rq4 := rq3.on d4
    have rp4 := rp3.on d4
    have b4 := b3.trans (d4.mono b3.size)
    clear rz3 ru3 rq3 rp3 b3 d4
    go_wp2_with fail
    refine (sameInts_ret A3 A4 c3 c4 qs _ _ _ rq4 rp4 (by unfold maxLen; omega)).mono ?_
    rintro e w5 ⟨rfl, d5⟩
    go_wp2_with fail
    go_ret
    exact .mk_ (b4.trans (d5.mono b4.size))
  | false =>
    go_wp2_with fail
    refine (sameInts_ret A3 A4 c3 c4 qs _ _ _ rq3 rp3 (by unfold maxLen; omega)).mono ?_
    rintro e w4 ⟨rfl, d4⟩
    have rz4 := rz3.on d4
    have ru4 := ru3.on d4
    have rq4 := rq3.on d4
    have rp4 := rp3.on d4
    have b4 := b3.trans (d4.mono b3.size)
    clear rz3 ru3 rq3 rp3 b3 d4
    by_cases h0 : qs.length = 0
    · have e0 : ((qs.length : Int) == 0) = true := by rw [beq_iff_eq]; omega
      clear HY HQ HK h0
      go_wp2_with fail
      clear e0
      go_wp2_with fail
      refine (sameInts_ret A3 A4 c3 c4 qs _ _ _ rq4 rp4 (by unfold maxLen; omega)).mono ?_
      rintro e w5 ⟨rfl, d5⟩
      go_wp2_with fail
      go_ret
      exact .mk_ (b4.trans (d5.mono b4.size))
    · have e0 : ((qs.length : Int) == 0) = false := by rw [beq_eq_false_iff_ne]; omega
      obtain ⟨lv, tv, uv, hf, hqs⟩ := lway_none HY.out HK.out HQ.out h0
      subst hqs
      have R4 : Hid (Refs4 us) := refs4_of uv
      have lz : Hid (zs.length = 4) := lv.1
      have HF : Hid (¬ FitTo zs (lk t us) us.length) := fun e => hf (by rw [← lk_length t us] at e; exact e.all)
      clear HY HQ HK h0 lv tv uv hf
      clear rp4
      go_wp2_with fail
      go_loopw [10, 11] (fun x i wr => ∃ (k : Nat) (b : Bool), k ≤ us.length ∧ i = .int .i64 k ∧ x = .bool b ∧ Hid (b = false → FitTo zs (lk t us) k) ∧ Dr w4 wr) (fun _ i _ => us.length - (intOf i).toNat)
      case atStart => exact ⟨0, false, Nat.zero_le _, rfl, rfl, fun _ => .zero zs (lk t us), .refl _⟩
      case round =>
        obtain ⟨k, b, hk, rfl, rfl, HB, HW⟩ := hrel
        by_cases hlt : k < us.length
        · cases b with
          | true =>
            clear HB
            go_wp2
            go_roundw
            case rel => exact ⟨k + 1, true, by omega, by go_num, rfl, (fun e => by cases e), HW⟩
            case measure => simp [intOf]; omega
          | false =>
            obtain ⟨o, ad2, ho, rfl, ha2, g0, -, -⟩ := (HW.row ru4).up_ hlt
            obtain ⟨q0, q1⟩ := R4.out _ (List.getElem_mem hlt)
            rw [ho] at q0 q1
            obtain ⟨m, hm0⟩ := Int.eq_ofNat_of_zero_le q0
            have hmz : m < zs.length := by rw [lz.out]; omega
            obtain ⟨ad, e1, hb2, hc2⟩ := (HW.row rz4).int_ hmz
            rw [hm0] at g0
            have k0 : (0 : Int) ≤ (k : Int) := by omega
            have k1 : (k : Int) < (us.length : Int) := by omega
            have k2 : (0 : Int) ≤ (m : Int) := by omega
            have k3 : (m : Int) < (zs.length : Int) := by omega
            have hkl : k < (lk t us).length := by rw [lk_length]; exact hlt
            have hfit : zs[m] = -1 → fit1 zs (lk t us)[k] := fun e => by
              rw [lk_get hlt hkl, ho]
              unfold fit1
              rw [show (lk1 t o).r = o.r from rfl, hm0, Int.toNat_natCast, List.getElem?_eq_getElem hmz, e]
              rfl
            subst e1
            by_cases heq : zs[m] = -1
            · have e1 : (zs[m] != -1) = false := by rw [bne_eq_false_iff_eq]; exact heq
              have HN : Hid (FitTo zs (lk t us) (k + 1)) := (HB.out rfl).next hkl (hfit heq)
              clear HB hfit heq ho hm0 q0 q1
              go_wp2
              go_roundw
              case rel => exact ⟨k + 1, false, by omega, by go_num, rfl, fun _ => HN.out, HW⟩
              case measure => simp [intOf]; omega
            · have e1 : (zs[m] != -1) = true := by rw [bne_iff_ne]; exact heq
              clear HB hfit heq ho hm0 q0 q1
              go_wp2
              go_roundw
              case rel => exact ⟨k + 1, true, by omega, by go_num, rfl, (fun e => by cases e), HW⟩
              case measure => simp [intOf]; omega
        · have hk' : k = us.length := by omega
          subst hk'
          have hbt : b = true := by
            cases b with
            | true => rfl
            | false => exact absurd (HB.out rfl) HF.out
          subst hbt
          have d5 := HW.below w4.heap.size
          have rz5 := rz4.on d5
          have rq5 := rq4.on d5
          have b5 := b4.trans (d5.mono b4.size)
          clear HB HF
          go_wp2_with fail
          refine (sameInts_ret A3 _ c3 c1 zs _ _ _ rq5 rz5 (by unfold maxLen; omega)).mono ?_
          rintro e w6 ⟨rfl, d6⟩
          go_wp2_with fail
          go_ret
          exact .mk_ (b5.trans (d6.mono b5.size))
theorem FnTakeNone_any (A : Option Addr) (c : Nat) (bs : List Int) (w : World) (f1 : Row w w.heap.size A (bs.map (Value.int .u8))) (f2 : bs.length ≤ c) (f3 : c ≤ maxLen) (f4 : ∀ n ∈ bs, 0 ≤ n ∧ n < 256) (er0 er1 : Addr) (hE : Errs er0 er1 w) :
    Calls Tryd.prog 4 #[.slice A bs.length c] w (Ret (.bool true) w) := by
  by_cases hl : bs.length ≤ 1048576
  · exact FnTakeNone_yes A c bs w ⟨f1, f2, f3, f4⟩ hl er0 er1 hE
  · exact FnTakeNone_no A c bs w ⟨f1, f2, f3, f4⟩ hl
theorem FnTakeFree_no (A : Option Addr) (c : Nat) (bs : List Int) (w : World) (h : Code_ w A c bs) (hl : ¬ bs.length ≤ 1048576) :
    Calls Tryd.prog 6 #[.slice A bs.length c] w (Ret (.bool true) w) := by
  have hc := h.2.1
  have hm := h.2.2.1
  unfold maxLen at hm
  go_enter Tryd.func6, Tryd.ntmps6
  go_wp2
  go_ret
  exact .mk_ (Below.refl _ _)
set_option maxRecDepth 100000 in
set_option maxHeartbeats 4000000 in
theorem FnTakeFree_yes (A : Option Addr) (c : Nat) (bs : List Int) (w : World) (h : Code_ w A c bs) (hl : bs.length ≤ 1048576) (er0 er1 : Addr) (HE : Hid (Errs er0 er1 w)) :
    Calls Tryd.prog 6 #[.slice A bs.length c] w (Ret (.bool true) w) := by
  go_enter Tryd.func6, Tryd.ntmps6
  go_wp2_with fail
  refine (DrawLocksTake_any A c bs _ h).mono ?_
  rintro e w1 ⟨A1, c1, zs, t, A2, c2, us, rfl, rz1, h4, ht0, ht1, ru1, h5, b1⟩
  obtain ⟨y, hy⟩ := lway_of zs t us
  obtain ⟨qs, hqs⟩ : ∃ qs, applied zs (lk t us) y = qs := ⟨_, rfl⟩
  obtain ⟨ok, hok⟩ : ∃ ok, y.ok = ok := ⟨_, rfl⟩
  have hql : qs.length ≤ 4 := by rw [← hqs]; exact took_le h4
  have HY := hid hy
  have HQ := hid hqs
  have HK := hid hok
  clear hy hqs hok
  go_wp2_with fail
  refine (implTake_to qs ok y A1 A2 c1 c2 zs t us w1 _ _ (HE.out.below b1) rz1 ru1 (by omega) (by omega) HY.out HQ.out HK.out).mono ?_
  rintro e w2 ⟨A3, c3, rfl, o3, d2⟩
  have rz2 := rz1.on d2
  have ru2 := ru1.on d2
  have b2 := b1.trans (d2.mono b1.size)
  have rq2 := o3.row
  clear rz1 ru1 b1 d2 o3
  go_wp2_with fail
  refine (specTake_to qs ok y A1 A2 c1 c2 zs t us w2 rz2 ru2 (by omega) (by omega) HY.out HQ.out HK.out).mono ?_
  rintro e w3 ⟨A4, c4, rfl, o4, d3⟩
  have rz3 := rz2.on d3
  have ru3 := ru2.on d3
  have rq3 := rq2.on d3
  have rp3 := o4.row
  have b3 := b2.trans (d3.mono b2.size)
  clear rz2 ru2 rq2 b2 d3 o4
  cases ok with
  | false =>
    clear HY HQ HK
    go_wp2_with fail
    refine (sameInts_ret A3 A4 c3 c4 qs _ _ _ rq3 rp3 (by unfold maxLen; omega)).mono ?_
    rintro e w4 ⟨rfl, d4⟩
    have rz4 := rz3.on d4
    have ru4 := ru3.on d4
    have rq4 := rq3.on d4
    have rp4 := rp3.on d4
    have b4 := b3.trans (d4.mono b3.size)
    clear rz3 ru3 rq3 rp3 b3 d4
    go_wp2_with fail
    refine (sameInts_ret A3 A4 c3 c4 qs _ _ _ rq4 rp4 (by unfold maxLen; omega)).mono ?_
    rintro e w5 ⟨rfl, d5⟩
    go_wp2_with fail
    go_ret
    exact .mk_ (b4.trans (d5.mono b4.size))
  | true =>
    obtain ⟨lv, tv, uv, hf, hqs⟩ := lway_yes HY.out HK.out HQ.out
    have lq : LV qs := by rw [← hqs]; exact take_LV lv tv
    obtain ⟨os, hos⟩ : ∃ os, ofL 0 t zs = os := ⟨_, rfl⟩
    obtain ⟨ps, hps⟩ : ∃ ps, ofL 0 t qs = ps := ⟨_, rfl⟩
    have hlo : os.length ≤ 4 := by rw [← hos, ← lv.1]; exact ofL_le _ _ _
    have hlp : ps.length = os.length + us.length := by
      rw [← hos, ← hps, ofL_length, ofL_length, ← hqs]
      exact take_count tv uv.2 hf
    have C1 : Hid (∀ x, Row x x.heap.size A1 (ints zs) → Calls Tryd.prog 14 #[.slice A1 zs.length c1, .int .i64 t] x (IntsOf os x)) := fun x hx => implLocksOf_is true os A1 c1 zs t x hx (by omega) ⟨fun _ => ⟨lv, tv⟩, fun _ => rfl⟩ hos
    have C2 : Hid (∀ x, Row x x.heap.size A3 (ints qs) → Calls Tryd.prog 14 #[.slice A3 qs.length c3, .int .i64 t] x (IntsOf ps x)) := fun x hx => implLocksOf_is true ps A3 c3 qs t x hx (by omega) ⟨fun _ => ⟨lq, tv⟩, fun _ => rfl⟩ hps
    have C3 : Hid (os.length = 0 → ∀ x, Row x x.heap.size A3 (ints qs) → Calls Tryd.prog 15 #[.slice A3 qs.length c3, .int .i64 t] x (Took zs true x)) := fun h0 x hx =>
      implLocksFree_is true true zs A3 c3 qs t x hx (by omega) ⟨fun _ => ⟨lq, tv⟩, fun _ => rfl⟩ ⟨fun _ => ⟨rfl, by rw [← hqs]; exact take_has lv tv uv⟩, fun _ => rfl⟩ (by
        show freeL t qs = zs
        rw [← hqs]
        exact free_take tv uv hf ((ofL_none t zs).1 (by rw [hos]; exact h0)))
    clear HY HQ HK lv tv uv hf hqs hos hps lq
    go_wp2_with fail
    refine (sameInts_ret A3 A4 c3 c4 qs _ _ _ rq3 rp3 (by unfold maxLen; omega)).mono ?_
    rintro e w4 ⟨rfl, d4⟩
    have rz4 := rz3.on d4
    have ru4 := ru3.on d4
    have rq4 := rq3.on d4
    have rp4 := rp3.on d4
    have b4 := b3.trans (d4.mono b3.size)
    clear rz3 ru3 rq3 rp3 b3 d4
    go_wp2_with fail
    refine (C1.out _ rz4).mono ?_
    rintro e w5 ⟨A5, c5, rfl, o5, d5⟩
    have rz5 := rz4.on d5
    have rq5 := rq4.on d5
    have b5 := b4.trans (d5.mono b4.size)
    clear rz4 ru4 rq4 rp4 b4 d5 o5
    by_cases h0 : os.length = 0
    · have e0 : decide ((0 : Int) < (os.length : Int)) = false := decide_eq_false (by omega)
      have e1 : decide (0 < os.length) = false := decide_eq_false (by omega)
      have C4 := hid (C3.out h0)
      clear C3 h0 hlp C2
      go_wp2_with fail
      refine (C4.out _ rq5).mono ?_
      rintro e w6 ⟨A6, c6, rfl, o6, d6⟩
      have rz6 := rz5.on d6
      have r6 := o6.row
      have b6 := b5.trans (d6.mono b5.size)
      clear rz5 rq5 b5 d6 o6
      go_wp2_with fail
      refine (sameInts_ret A6 A1 c6 c1 zs _ _ _ r6 rz6 (by unfold maxLen; omega)).mono ?_
      rintro e w7 ⟨rfl, d7⟩
      go_wp2_with fail
      go_ret
      exact .mk_ (b6.trans (d7.mono b6.size))
    · have e0 : decide ((0 : Int) < (os.length : Int)) = true := decide_eq_true (by omega)
      have e3 : decide (0 < os.length) = true := decide_eq_true (by omega)
      have hp : 0 < os.length := by omega
      have e1 : decide ((us.length : Int) < (ps.length : Int)) = true := decide_eq_true (by omega)
      have e2 : decide (us.length < ps.length) = true := decide_eq_true (by omega)
      clear C3 h0 hlp
      go_wp2_with fail
      refine (C2.out _ rq5).mono ?_
      rintro e w6 ⟨A6, c6, rfl, o6, d6⟩
      go_wp2_with fail
      go_ret
      exact .mk_ (b5.trans (d6.mono b5.size))
theorem FnTakeFree_any (A : Option Addr) (c : Nat) (bs : List Int) (w : World) (f1 : Row w w.heap.size A (bs.map (Value.int .u8))) (f2 : bs.length ≤ c) (f3 : c ≤ maxLen) (f4 : ∀ n ∈ bs, 0 ≤ n ∧ n < 256) (er0 er1 : Addr) (hE : Errs er0 er1 w) :
    Calls Tryd.prog 6 #[.slice A bs.length c] w (Ret (.bool true) w) := by
  by_cases hl : bs.length ≤ 1048576
  · exact FnTakeFree_yes A c bs w ⟨f1, f2, f3, f4⟩ hl er0 er1 hE
  · exact FnTakeFree_no A c bs w ⟨f1, f2, f3, f4⟩ hl
end Go.Proofs.YtdaodkacgoljbaaDoor
