/-
  Walk of the law on taken locks.
-/
import Derived.Test.YtdaodkacgoljbaaDoorLockM
namespace Go.Proofs.YtdaodkacgoljbaaDoor
open Go.RowKit Wo Pu Rf Lk

/-- Whether one of the first k updates is of the ref r. -/
def OnTo (us : List Up) (r : Nat) (b : Bool) (k : Nat) : Prop := b = true ↔ ∃ u ∈ us.take k, u.r = (r : Int)
theorem OnTo.zero (us : List Up) (r : Nat) : OnTo us r false 0 := ⟨(fun e => by cases e), fun ⟨u, hu, _⟩ => by simp at hu⟩
theorem OnTo.yes {us : List Up} {r : Nat} {k : Nat} (hk : k < us.length) (e : us[k].r = (r : Int)) : OnTo us r true (k + 1) := ⟨fun _ => ⟨us[k], by rw [List.take_succ_eq_append_getElem hk]; exact List.mem_append_right _ (List.mem_singleton.2 rfl), e⟩, fun _ => rfl⟩
theorem OnTo.more {us : List Up} {r : Nat} {k : Nat} (h : OnTo us r true k) (hk : k < us.length) : OnTo us r true (k + 1) := ⟨fun _ => by
  obtain ⟨u, hu, e⟩ := h.1 rfl
  exact ⟨u, by rw [List.take_succ_eq_append_getElem hk]; exact List.mem_append_left _ hu, e⟩, fun _ => rfl⟩
theorem OnTo.no {us : List Up} {r : Nat} {k : Nat} (h : OnTo us r false k) (hk : k < us.length) (e : ¬ us[k].r = (r : Int)) : OnTo us r false (k + 1) := ⟨(fun e => by cases e), fun ⟨u, hu, e2⟩ => by
  rw [List.take_succ_eq_append_getElem hk] at hu
  rcases List.mem_append.1 hu with hu | hu
  · exact h.2 ⟨u, hu, e2⟩
  · rw [List.mem_singleton.1 hu] at e2; exact absurd e2 e⟩
theorem FnTake_no (A : Option Addr) (c : Nat) (bs : List Int) (w : World) (h : Code_ w A c bs) (hl : ¬ bs.length ≤ 1048576) :
    Calls Tryd.prog 3 #[.slice A bs.length c] w (Ret (.bool true) w) := by
  have hc := h.2.1
  have hm := h.2.2.1
  unfold maxLen at hm
  go_enter Tryd.func3, Tryd.ntmps3
  go_wp2
  go_ret
  exact .mk_ (Below.refl _ _)
set_option maxRecDepth 100000 in
set_option maxHeartbeats 4000000 in
theorem FnTake_yes (A : Option Addr) (c : Nat) (bs : List Int) (w : World) (h : Code_ w A c bs) (hl : bs.length ≤ 1048576) (er0 er1 : Addr) (HE : Hid (Errs er0 er1 w)) :
    Calls Tryd.prog 3 #[.slice A bs.length c] w (Ret (.bool true) w) := by
  go_enter Tryd.func3, Tryd.ntmps3
  go_wp2_with fail
  refine (DrawLocksTake_any A c bs _ h).mono ?_
  rintro e w1 ⟨A1, c1, zs, t, A2, c2, us, rfl, rz1, h4, ht0, ht1, ru1, h5, b1⟩
  obtain ⟨y, hy⟩ := lway_of zs t us
  obtain ⟨qs, hqs⟩ : ∃ qs, applied zs (lk t us) y = qs := ⟨_, rfl⟩
  obtain ⟨ok, hok⟩ : ∃ ok, y.ok = ok := ⟨_, rfl⟩
  have hql : qs.length ≤ 4 := by rw [← hqs]; exact took_le h4
  have HY := hid hy
  have HQ := hid hqs
  have HK := hid hok
  clear hy hqs hok
  go_wp2_with fail
  refine (implTake_to qs ok y A1 A2 c1 c2 zs t us w1 _ _ (HE.out.below b1) rz1 ru1 (by omega) (by omega) HY.out HQ.out HK.out).mono ?_
  rintro e w2 ⟨A3, c3, rfl, o3, d2⟩
  have rz2 := rz1.on d2
  have ru2 := ru1.on d2
  have b2 := b1.trans (d2.mono b1.size)
  have rq2 := o3.row
  clear rz1 ru1 b1 d2 o3
  go_wp2_with fail
  refine (specTake_to qs ok y A1 A2 c1 c2 zs t us w2 rz2 ru2 (by omega) (by omega) HY.out HQ.out HK.out).mono ?_
  rintro e w3 ⟨A4, c4, rfl, o4, d3⟩
  have rz3 := rz2.on d3
  have ru3 := ru2.on d3
  have rq3 := rq2.on d3
  have rp3 := o4.row
  have b3 := b2.trans (d3.mono b2.size)
  clear rz2 ru2 rq2 b2 d3 o4
  cases ok with
  | false =>
    clear HY HQ HK
    go_wp2_with fail
    refine (sameInts_ret A3 A4 c3 c4 qs _ _ _ rq3 rp3 (by unfold maxLen; omega)).mono ?_
    rintro e w4 ⟨rfl, d4⟩
    have rz4 := rz3.on d4
    have ru4 := ru3.on d4
    have rq4 := rq3.on d4
    have rp4 := rp3.on d4
    have b4 := b3.trans (d4.mono b3.size)
    clear rz3 ru3 rq3 rp3 b3 d4
    go_wp2_with fail
    refine (sameInts_ret A3 A4 c3 c4 qs _ _ _ rq4 rp4 (by unfold maxLen; omega)).mono ?_
    rintro e w5 ⟨rfl, d5⟩
    go_wp2_with fail
    go_ret
    exact .mk_ (b4.trans (d5.mono b4.size))
  | true =>
    obtain ⟨lv, tv, uv, hf, hqs⟩ := lway_yes HY.out HK.out HQ.out
    have lvq : LV qs := by rw [← hqs]; exact take_LV lv tv
    have lz : Hid (zs.length = 4) := lv.1
    have lq : Hid (qs.length = 4) := lvq.1
    have HON : Hid (∀ r (h1 : r < zs.length) (h2 : r < qs.length), (∃ u ∈ us, u.r = (r : Int)) → zs[r] = -1 ∧ qs[r] = t) := fun r h1 h2 ⟨u, hu, e⟩ => by
      have er : u.r.toNat = r := by omega
      have g1 := hf (lk1 t u) (List.mem_map_of_mem hu)
      unfold fit1 at g1
      rw [show (lk1 t u).r = u.r from rfl, er, List.getElem?_eq_getElem h1] at g1
      injection g1 with g1
      have g2 := take_at lv tv uv hu
      rw [hqs, er, List.getElem?_eq_getElem h2] at g2
      injection g2 with g2
      exact ⟨g1, g2⟩
    have HOFF : Hid (∀ r (h1 : r < zs.length) (h2 : r < qs.length), ¬ (∃ u ∈ us, u.r = (r : Int)) → qs[r] = zs[r]) := fun r h1 h2 hno => by
      have g := setR_get (lk t us) zs r
      rw [hqs, List.getElem?_eq_getElem h1, List.getElem?_eq_getElem h2, Option.map_some] at g
      injection g with g
      rw [g]
      refine wantAt_no fun v hv => ?_
      obtain ⟨u, hu, rfl⟩ := List.mem_map.1 hv
      have h0 := (uv.2.mem u hu).2.1.1
      intro e
      exact hno ⟨u, hu, by have : u.r.toNat = r := e; omega⟩
    have CV : Hid (∀ x, Row x x.heap.size A3 (ints qs) → Calls Tryd.prog 13 #[.slice A3 qs.length c3] x (Ret (.bool true) x)) := fun x hx => implLocksValid_is true A3 c3 qs x _ hx (by omega) ⟨fun _ => lvq, fun _ => rfl⟩
    clear HY HQ HK lv tv uv hf hqs lvq
    go_wp2_with fail
    refine (sameInts_ret A3 A4 c3 c4 qs _ _ _ rq3 rp3 (by unfold maxLen; omega)).mono ?_
    rintro e w4 ⟨rfl, d4⟩
    have rz4 := rz3.on d4
    have ru4 := ru3.on d4
    have rq4 := rq3.on d4
    have rp4 := rp3.on d4
    have b4 := b3.trans (d4.mono b3.size)
    clear rz3 ru3 rq3 rp3 b3 d4
    clear rp4
    go_wp2_with fail
    go_loopw [10] (fun i wr => ∃ r : Nat, r ≤ 4 ∧ i = .int .i64 r ∧ Dr w4 wr) (fun i _ => 4 - (intOf i).toNat)
    case atStart => exact ⟨0, Nat.zero_le _, rfl, .refl _⟩
    case round =>
      obtain ⟨r, hr, rfl, HW⟩ := hrel
      by_cases hlt : r < 4
      · have r1 : r < zs.length := by rw [lz.out]; exact hlt
        have r2 : r < qs.length := by rw [lq.out]; exact hlt
        go_wp2_with fail
        go_loopw [11, 12] (fun x i wr2 => ∃ (k : Nat) (b : Bool), k ≤ us.length ∧ i = .int .i64 k ∧ x = .bool b ∧ Hid (OnTo us r b k) ∧ Dr w4 wr2) (fun _ i _ => us.length - (intOf i).toNat)
        case atStart => exact ⟨0, false, Nat.zero_le _, rfl, rfl, .zero us r, HW⟩
        case round =>
          obtain ⟨k, b, hk, rfl, rfl, HB, HV⟩ := hrel
          by_cases hlk : k < us.length
          · cases b with
            | true =>
              have HN := hid (HB.out.more hlk)
              clear HB
              go_wp2
              go_roundw
              case rel => exact ⟨k + 1, true, by omega, by go_num, rfl, HN, HV⟩
              case measure => simp [intOf]; omega
            | false =>
              obtain ⟨o, ad2, ho, rfl, ha2, g0, -, -⟩ := (HV.row ru4).up_ hlk
              have k0 : (0 : Int) ≤ (k : Int) := by omega
              have k1 : (k : Int) < (us.length : Int) := by omega
              by_cases hor : o.r = (r : Int)
              · have e0 : (o.r == (r : Int)) = true := by rw [beq_iff_eq]; exact hor
                have HN := hid (OnTo.yes hlk (by rw [ho]; exact hor))
                clear HB hor ho
                go_wp2
                go_roundw
                case rel => exact ⟨k + 1, true, by omega, by go_num, rfl, HN, HV⟩
                case measure => simp [intOf]; omega
              · have e0 : (o.r == (r : Int)) = false := by rw [beq_eq_false_iff_ne]; exact hor
                have HN := hid (HB.out.no hlk (by rw [ho]; exact hor))
                clear HB hor ho
                go_wp2
                go_roundw
                case rel => exact ⟨k + 1, false, by omega, by go_num, rfl, HN, HV⟩
                case measure => simp [intOf]; omega
          · have hk' : k = us.length := by omega
            subst hk'
            obtain ⟨ad, e1, had, hc⟩ := (HV.row rz4).int_ r1
            obtain ⟨ad3, e3, had3, hc3⟩ := (HV.row rq4).int_ r2
            have q0 : (0 : Int) ≤ (r : Int) := by omega
            have q1 : (r : Int) < (zs.length : Int) := by omega
            have q2 : (r : Int) < (qs.length : Int) := by omega
            have HB2 : OnTo us r b us.length := HB.out
            unfold OnTo at HB2
            rw [List.take_length] at HB2
            subst e1
            subst e3
            cases b with
            | true =>
              obtain ⟨z1, z2⟩ := HON.out r r1 r2 (HB2.1 rfl)
              rw [z1] at hc
              rw [z2] at hc3
              clear HB HB2 z1 z2
              go_wp2_with fail
              go_quiet (fail)
              go_wp2
              go_roundw
              case rel => exact ⟨r + 1, by omega, by go_num, HV.drewN _⟩
              case measure => simp [intOf]; omega
            | false =>
              have z3 := HOFF.out r r1 r2 (fun e => by have := HB2.2 e; cases this)
              rw [z3] at hc3
              obtain ⟨z, hz⟩ : ∃ z, zs[r] = z := ⟨_, rfl⟩
              rw [hz] at hc hc3
              clear HB HB2 z3 hz
              go_wp2_with fail
              go_quiet (fail)
              go_wp2
              go_roundw
              case rel => exact ⟨r + 1, by omega, by go_num, HV.drewN _⟩
              case measure => simp [intOf]; omega
      · have hr' : r = 4 := by omega
        subst hr'
        have d5 := HW.below w4.heap.size
        have rq5 := rq4.on d5
        have b5 := b4.trans (d5.mono b4.size)
        go_wp2_with fail
        refine (CV.out _ rq5).mono ?_
        rintro e w6 ⟨rfl, d6⟩
        go_wp2_with fail
        go_ret
        exact .mk_ (b5.trans (d6.mono b5.size))
theorem FnTake_any (A : Option Addr) (c : Nat) (bs : List Int) (w : World) (f1 : Row w w.heap.size A (bs.map (Value.int .u8))) (f2 : bs.length ≤ c) (f3 : c ≤ maxLen) (f4 : ∀ n ∈ bs, 0 ≤ n ∧ n < 256) (er0 er1 : Addr) (hE : Errs er0 er1 w) :
    Calls Tryd.prog 3 #[.slice A bs.length c] w (Ret (.bool true) w) := by
  by_cases hl : bs.length ≤ 1048576
  · exact FnTake_yes A c bs w ⟨f1, f2, f3, f4⟩ hl er0 er1 hE
  · exact FnTake_no A c bs w ⟨f1, f2, f3, f4⟩ hl
end Go.Proofs.YtdaodkacgoljbaaDoor
