/-
  Walk of the law on freed locks.
-/
import Derived.Test.YtcjnlbjlbmadlaaLockM
import Derived.Test.YtcjnlbjlbmadlaaLawLk3
namespace Go.Proofs.Ytcjnlbjlbmadlaa
open Go.RowKit Wo Pu Rf Lk

theorem FnFree_no (A : Option Addr) (c : Nat) (bs : List Int) (w : World) (h : Code_ w A c bs) (hl : ¬ bs.length ≤ 1048576) :
    Calls Try.prog 3 #[.slice A bs.length c] w (Ret (.bool true) w) := by
  have hc := h.2.1
  have hm := h.2.2.1
  unfold maxLen at hm
  go_enter Try.func3, Try.ntmps3
  go_wp2
  go_ret
  exact .mk_ (Below.refl _ _)
set_option maxRecDepth 100000 in
set_option maxHeartbeats 4000000 in
theorem FnFree_yes (A : Option Addr) (c : Nat) (bs : List Int) (w : World) (h : Code_ w A c bs) (hl : bs.length ≤ 1048576) :
    Calls Try.prog 3 #[.slice A bs.length c] w (Ret (.bool true) w) := by
  go_enter Try.func3, Try.ntmps3
  go_wp2_with fail
  refine (DrawLocksFree_any A c bs _ h).mono ?_
  rintro e w1 ⟨A1, c1, zs, t, rfl, rz1, h4, ht0, ht1, b1⟩
  obtain ⟨v, hv⟩ := bool_of (LV zs ∧ TV t)
  obtain ⟨b, hb⟩ := bool_of (v = true ∧ t ∈ zs)
  obtain ⟨qs, hqs⟩ : ∃ qs, freed v zs t = qs := ⟨_, rfl⟩
  have hql : qs.length ≤ 4 := by
    rw [← hqs]
    unfold freed
    cases v with
    | false => exact Nat.zero_le _
    | true => rw [if_pos rfl, free_length]; exact h4
  obtain ⟨vz, hvz⟩ := bool_of (LV zs)
  have HV := hid hv
  have HB := hid hb
  have HQ := hid hqs
  have HVZ := hid hvz
  clear hv hb hqs hvz
  go_wp2_with fail
  refine (implLocksFree_is v b qs A1 c1 zs t w1 rz1 (by omega) HV.out HB.out HQ.out).mono ?_
  rintro e w2 ⟨A3, c3, rfl, o3, d2⟩
  have rz2 := rz1.on d2
  have b2 := b1.trans (d2.mono b1.size)
  have rq2 := o3.row
  clear rz1 b1 d2 o3
  go_wp2_with fail
  refine (specLocksFree_is v b qs A1 c1 zs t w2 rz2 (by omega) HV.out HB.out HQ.out).mono ?_
  rintro e w3 ⟨A4, c4, rfl, o4, d3⟩
  have rz3 := rz2.on d3
  have rq3 := rq2.on d3
  have rp3 := o4.row
  have b3 := b2.trans (d3.mono b2.size)
  clear rz2 rq2 b2 d3 o4
  go_wp2_with fail
  refine (sameInts_ret A3 A4 c3 c4 qs _ _ _ rq3 rp3 (by unfold maxLen; omega)).mono ?_
  rintro e w4 ⟨rfl, d4⟩
  have rz4 := rz3.on d4
  have rq4 := rq3.on d4
  have rp4 := rp3.on d4
  have b4 := b3.trans (d4.mono b3.size)
  clear rz3 rq3 rp3 b3 d4
  go_wp2_with fail
  refine (specLocksValid_is vz A1 c1 zs _ _ rz4 (by omega) HVZ.out).mono ?_
  rintro e w5 ⟨rfl, rfl⟩
  cases vz with
  | false =>
    clear HV HB HQ HVZ
    go_wp2_with fail
    go_wp2_with fail
    refine (sameInts_ret A3 A4 c3 c4 qs _ _ _ rq4 rp4 (by unfold maxLen; omega)).mono ?_
    rintro e w5 ⟨rfl, d5⟩
    go_wp2_with fail
    go_ret
    exact .mk_ (b4.trans (d5.mono b4.size))
  | true =>
    have PL := hid (HVZ.out.1 rfl)
    clear HVZ
    by_cases tl : t < 0
    · have e0 : decide (t < 0) = true := decide_eq_true tl
      clear HV HB HQ PL
      go_wp2_with fail
      go_wp2_with fail
      refine (sameInts_ret A3 A4 c3 c4 qs _ _ _ rq4 rp4 (by unfold maxLen; omega)).mono ?_
      rintro e w5 ⟨rfl, d5⟩
      go_wp2_with fail
      go_ret
      exact .mk_ (b4.trans (d5.mono b4.size))
    · by_cases tg : 12 ≤ t
      · have e0 : decide (t < 0) = false := decide_eq_false tl
        have e1 : decide (12 ≤ t) = true := decide_eq_true tg
        clear HV HB HQ PL
        go_wp2_with fail
        go_wp2_with fail
        refine (sameInts_ret A3 A4 c3 c4 qs _ _ _ rq4 rp4 (by unfold maxLen; omega)).mono ?_
        rintro e w5 ⟨rfl, d5⟩
        go_wp2_with fail
        go_ret
        exact .mk_ (b4.trans (d5.mono b4.size))
      · have e0 : decide (t < 0) = false := decide_eq_false tl
        have e1 : decide (12 ≤ t) = false := decide_eq_false tg
        have tv : TV t := ⟨by omega, by omega⟩
        obtain rfl : v = true := HV.out.2 ⟨PL.out, tv⟩
        have hqs : freeL t zs = qs := HQ.out
        have hb : b = true ↔ t ∈ zs := HB.out.trans ⟨fun e => e.2, fun e => ⟨rfl, e⟩⟩
        have lvq : LV qs := by rw [← hqs]; exact free_LV PL.out
        obtain ⟨os, hos⟩ : ∃ os, ofL 0 t zs = os := ⟨_, rfl⟩
        have hol : os.length ≤ 4 := by rw [← hos]; exact Nat.le_trans (ofL_le _ _ _) h4
        have lz : zs.length = 4 := PL.out.1
        have lq : qs.length = 4 := lvq.1
        have C1 : Hid (∀ x, Row x x.heap.size A1 (ints zs) → Calls Try.prog 16 #[.slice A1 zs.length c1, .int .i64 t] x (IntsOf os x)) := fun x hx => implLocksOf_is true os A1 c1 zs t x hx (by omega) ⟨fun _ => ⟨PL.out, tv⟩, fun _ => rfl⟩ hos
        have C2 : Hid (∀ x, Row x x.heap.size A3 (ints qs) → Calls Try.prog 16 #[.slice A3 qs.length c3, .int .i64 t] x (fun e w' => ∃ A c, e = .returned (.slice A 0 c) ∧ Below x.heap.size x w')) := fun x hx => by
          have e0 : ofL 0 t qs = [] := List.eq_nil_of_length_eq_zero ((ofL_none _ _).2 (by rw [← hqs]; exact free_none tv))
          refine (implLocksOf_is true [] A3 c3 qs t x hx (by omega) ⟨fun _ => ⟨lvq, tv⟩, fun _ => rfl⟩ e0).mono ?_
          rintro e w' ⟨A5, c5, rfl, o5, d5⟩
          exact ⟨A5, c5, rfl, d5⟩
        have HAT : Hid (∀ r (h1 : r < zs.length) (h2 : r < qs.length), qs[r] = if zs[r] = t then -1 else zs[r]) := fun r h1 h2 => by subst hqs; exact free_at h1 h2
        have HM : Hid (∀ r (h1 : r < zs.length), (r : Int) ∈ os ↔ zs[r] = t) := fun r h1 => by rw [← hos]; exact ofL_at h1
        have hbo : decide ((0 : Int) < (os.length : Int)) = b := by
          have h1 := ofL_none t zs
          rw [hos] at h1
          rw [Bool.eq_iff_iff, decide_eq_true_iff, hb]
          constructor
          · intro e
            by_cases hm : t ∈ zs
            · exact hm
            · have := h1.2 hm; omega
          · intro e
            have : os.length ≠ 0 := fun e2 => h1.1 e2 e
            omega
        have HBO := hid hbo
        have LZ := hid lz
        have LQ := hid lq
        clear HV HB HQ hqs hb lvq hos hbo lz lq PL
        go_wp2_with fail
        refine (C1.out _ rz4).mono ?_
        rintro e w6 ⟨A5, c5, rfl, o5, d6⟩
        have rz6 := rz4.on d6
        have rq6 := rq4.on d6
        have rm6 := o5.row
        have b6 := b4.trans (d6.mono b4.size)
        clear rz4 rq4 rp4 b4 d6 o5 C1
        go_wp2_with fail
        go_loopw [10] (fun i wr => ∃ r : Nat, r ≤ zs.length ∧ i = .int .i64 r ∧ Row wr wr.heap.size A1 (ints zs) ∧ Row wr wr.heap.size A3 (ints qs) ∧ Row wr wr.heap.size A5 (ints os) ∧ Below w.heap.size w wr) (fun i _ => zs.length - (intOf i).toNat)
        case atStart => exact ⟨0, Nat.zero_le _, rfl, rz6, rq6, rm6, b6⟩
        case round =>
          clear rz6 rq6 rm6 b6
          obtain ⟨r, hr, rfl, rz, rq, rm, hb⟩ := hrel
          by_cases hlt : r < zs.length
          · have r2 : r < qs.length := by rw [LQ.out, ← LZ.out]; exact hlt
            obtain ⟨ad, e2, had, hc⟩ := rz.int_ hlt
            obtain ⟨ad3, e3, had3, hc3⟩ := rq.int_ r2
            obtain ⟨x, hx⟩ := bool_of ((r : Int) ∈ os)
            have hxt := hx.trans (HM.out r hlt)
            have CH : Hid (∀ y, Row y y.heap.size A5 (ints os) → Calls Try.prog 17 #[.slice A5 os.length c5, .int .i64 (r : Int)] y (Ret (.bool x) y)) := fun y hy => (hasInt_is x A5 c5 os (r : Int) y _ hy (by omega) hx).mono fun _ _ h => h.ret
            have hat := HAT.out r hlt r2
            have q0 : (0 : Int) ≤ (r : Int) := by omega
            have q1 : (r : Int) < (zs.length : Int) := by omega
            have q2 : (r : Int) < (qs.length : Int) := by omega
            subst e2
            subst e3
            cases x with
            | true =>
              rw [if_pos (hxt.1 rfl)] at hat
              rw [hat] at hc3
              clear hat hxt hx
              have G1 := Later.cell hc (by rw [add_block]; exact had)
              have G3 := Later.cell hc3 (by rw [add_block]; exact had3)
              go_wp2_with fail
              refine wp_region_later wr.heap.size (by kernel_rfl) (by kernel_rfl) ?_
              repeat (go_big_quiet_step ((go_at_call 17; exact Later.call (Nat.le_refl _) _ (CH.out _ ((rm.later _).more (Later.size (Nat.le_refl _) _))))))
              refine wpQuiet_nil ?_
              intro _ hw'
              obtain ⟨xx, hxx⟩ := hw'
              have hbx := xx.b
              subst hxx
              go_wp2
              go_roundw
              case rel => exact ⟨r + 1, by omega, by go_num, rz.on hbx, rq.on hbx, rm.on hbx, hb.trans (hbx.mono hb.size)⟩
              case measure => simp [intOf]; omega
            | false =>
              rw [if_neg (fun e => by have := hxt.2 e; cases this)] at hat
              obtain ⟨z, hz⟩ : ∃ z, zs[r] = z := ⟨_, rfl⟩
              rw [hat] at hc3
              rw [hz] at hc hc3
              clear hat hxt hx hz
              have G1 := Later.cell hc (by rw [add_block]; exact had)
              have G3 := Later.cell hc3 (by rw [add_block]; exact had3)
              go_wp2_with fail
              refine wp_region_later wr.heap.size (by kernel_rfl) (by kernel_rfl) ?_
              repeat (go_big_quiet_step ((go_at_call 17; exact Later.call (Nat.le_refl _) _ (CH.out _ ((rm.later _).more (Later.size (Nat.le_refl _) _))))))
              refine wpQuiet_nil ?_
              intro _ hw'
              obtain ⟨xx, hxx⟩ := hw'
              have hbx := xx.b
              subst hxx
              go_wp2
              go_roundw
              case rel => exact ⟨r + 1, by omega, by go_num, rz.on hbx, rq.on hbx, rm.on hbx, hb.trans (hbx.mono hb.size)⟩
              case measure => simp [intOf]; omega
          · have hr' : r = zs.length := by omega
            subst hr'
            have hbo := HBO.out
            clear HBO HAT HM
            subst hbo
            go_wp2_with fail
            refine (C2.out _ rq).mono ?_
            rintro e w7 ⟨A7, c7, rfl, d7⟩
            go_wp2_with fail
            go_ret
            exact .mk_ (hb.trans (d7.mono hb.size))
theorem FnFree_any (A : Option Addr) (c : Nat) (bs : List Int) (w : World) (f1 : Row w w.heap.size A (bs.map (Value.int .u8))) (f2 : bs.length ≤ c) (f3 : c ≤ maxLen) (f4 : ∀ n ∈ bs, 0 ≤ n ∧ n < 256) :
    Calls Try.prog 3 #[.slice A bs.length c] w (Ret (.bool true) w) := by
  by_cases hl : bs.length ≤ 1048576
  · exact FnFree_yes A c bs w ⟨f1, f2, f3, f4⟩ hl
  · exact FnFree_no A c bs w ⟨f1, f2, f3, f4⟩ hl
end Go.Proofs.Ytcjnlbjlbmadlaa
