/-
  Walks of the laws on locks taken twice, freed again, or crossing.
-/
import Derived.Test.YtdaodkacgoljbaaDoorLockM
namespace Go.Proofs.YtdaodkacgoljbaaDoor
open Go.RowKit Wo Pu Rf Lk

theorem FnTakeTwice_no (A : Option Addr) (c : Nat) (bs : List Int) (A' : Option Addr) (c' : Nat) (bs' : List Int) (w : World) (h : Code_ w A c bs) (h' : Code_ w A' c' bs') (hl : ¬ (bs.length ≤ 1048576 ∧ bs'.length ≤ 1048576)) :
    Calls Tryd.prog 5 #[.slice A bs.length c, .slice A' bs'.length c'] w (Ret (.bool true) w) := by
  have hc := h.2.1
  have hm := h.2.2.1
  have hc' := h'.2.1
  have hm' := h'.2.2.1
  unfold maxLen at hm hm'
  by_cases h1 : bs.length ≤ 1048576
  · have h2 : ¬ bs'.length ≤ 1048576 := fun e => hl ⟨h1, e⟩
    clear hl
    go_enter Tryd.func5, Tryd.ntmps5
    go_wp2
    go_ret
    exact .mk_ (Below.refl _ _)
  · clear hl
    go_enter Tryd.func5, Tryd.ntmps5
    go_wp2
    go_ret
    exact .mk_ (Below.refl _ _)
set_option maxRecDepth 100000 in
set_option maxHeartbeats 4000000 in
theorem FnTakeTwice_yes (A : Option Addr) (c : Nat) (bs : List Int) (A' : Option Addr) (c' : Nat) (bs' : List Int) (w : World) (h : Code_ w A c bs) (_h' : Code_ w A' c' bs') (hl : bs.length ≤ 1048576) (hl' : bs'.length ≤ 1048576) (er0 er1 : Addr) (HE : Hid (Errs er0 er1 w)) :
    Calls Tryd.prog 5 #[.slice A bs.length c, .slice A' bs'.length c'] w (Ret (.bool true) w) := by
  go_enter Tryd.func5, Tryd.ntmps5
  go_wp2_with fail
  refine (DrawLocksTake_any A c bs _ h).mono ?_
  rintro e w1 ⟨A1, c1, zs, t, A2, c2, us, rfl, rz1, h4, ht0, ht1, ru1, h5, b1⟩
  obtain ⟨y, hy⟩ := lway_of zs t us
  obtain ⟨qs, hqs⟩ : ∃ qs, applied zs (lk t us) y = qs := ⟨_, rfl⟩
  obtain ⟨ok, hok⟩ : ∃ ok, y.ok = ok := ⟨_, rfl⟩
  have hql : qs.length ≤ 4 := by rw [← hqs]; exact took_le h4
  have HY := hid hy
  have HQ := hid hqs
  have HK := hid hok
  clear hy hqs hok
  go_wp2_with fail
  refine (implTake_to qs ok y A1 A2 c1 c2 zs t us w1 _ _ (HE.out.below b1) rz1 ru1 (by omega) (by omega) HY.out HQ.out HK.out).mono ?_
  rintro e w2 ⟨A3, c3, rfl, o3, d2⟩
  have rz2 := rz1.on d2
  have ru2 := ru1.on d2
  have b2 := b1.trans (d2.mono b1.size)
  have rq2 := o3.row
  clear rz1 ru1 b1 d2 o3
  go_wp2_with fail
  refine (specTake_to qs ok y A1 A2 c1 c2 zs t us w2 rz2 ru2 (by omega) (by omega) HY.out HQ.out HK.out).mono ?_
  rintro e w3 ⟨A4, c4, rfl, o4, d3⟩
  have rz3 := rz2.on d3
  have ru3 := ru2.on d3
  have rq3 := rq2.on d3
  have rp3 := o4.row
  have b3 := b2.trans (d3.mono b2.size)
  clear rz2 ru2 rq2 b2 d3 o4
  cases ok with
  | false =>
    clear HY HQ HK
    go_wp2_with fail
    refine (sameInts_ret A3 A4 c3 c4 qs _ _ _ rq3 rp3 (by unfold maxLen; omega)).mono ?_
    rintro e w4 ⟨rfl, d4⟩
    have rz4 := rz3.on d4
    have ru4 := ru3.on d4
    have rq4 := rq3.on d4
    have rp4 := rp3.on d4
    have b4 := b3.trans (d4.mono b3.size)
    clear rz3 ru3 rq3 rp3 b3 d4
    go_wp2_with fail
    refine (sameInts_ret A3 A4 c3 c4 qs _ _ _ rq4 rp4 (by unfold maxLen; omega)).mono ?_
    rintro e w5 ⟨rfl, d5⟩
    go_wp2_with fail
    go_ret
    exact .mk_ (b4.trans (d5.mono b4.size))
  | true =>
    obtain ⟨lv, tv, uv, hf, hqs⟩ := lway_yes HY.out HK.out HQ.out
    obtain ⟨n, hn⟩ : ∃ n : Nat, (bs'.length : Int) % 12 = (n : Int) := ⟨bs'.length % 12, by simp⟩
    have hn12 : n < 12 := by omega
    have W2 : Hid (IsLWay qs (n : Int) us .no) := by
      rw [← hqs]
      exact ⟨take_LV lv tv, ⟨by omega, by omega⟩, uv, take_twice lv tv uv⟩
    clear HY HQ HK lv tv uv hf hqs
    go_wp2_with fail
    refine (sameInts_ret A3 A4 c3 c4 qs _ _ _ rq3 rp3 (by unfold maxLen; omega)).mono ?_
    rintro e w4 ⟨rfl, d4⟩
    have rz4 := rz3.on d4
    have ru4 := ru3.on d4
    have rq4 := rq3.on d4
    have rp4 := rp3.on d4
    have b4 := b3.trans (d4.mono b3.size)
    clear rz3 ru3 rq3 rp3 b3 d4
    go_wp2_with fail
    rw [hn]
    refine (implTake_to qs false .no A3 A2 c3 c2 qs (n : Int) us w4 _ _ (HE.out.below b4) rq4 ru4 (by omega) (by omega) W2.out rfl rfl).mono ?_
    rintro e w5 ⟨A5, c5, rfl, o5, d5⟩
    have rq5 := rq4.on d5
    have r5 := o5.row
    have b5 := b4.trans (d5.mono b4.size)
    clear rz4 ru4 rq4 rp4 b4 d5 o5
    go_wp2_with fail
    refine (sameInts_ret A5 A3 c5 c3 qs _ _ _ r5 rq5 (by unfold maxLen; omega)).mono ?_
    rintro e w6 ⟨rfl, d6⟩
    go_wp2_with fail
    go_ret
    exact .mk_ (b5.trans (d6.mono b5.size))
theorem FnTakeTwice_any (A : Option Addr) (c : Nat) (bs : List Int) (A' : Option Addr) (c' : Nat) (bs' : List Int) (w : World) (f1 : Row w w.heap.size A (bs.map (Value.int .u8))) (f2 : bs.length ≤ c) (f3 : c ≤ maxLen) (f4 : ∀ n ∈ bs, 0 ≤ n ∧ n < 256) (g1 : Row w w.heap.size A' (bs'.map (Value.int .u8))) (g2 : bs'.length ≤ c') (g3 : c' ≤ maxLen) (g4 : ∀ n ∈ bs', 0 ≤ n ∧ n < 256) (er0 er1 : Addr) (hE : Errs er0 er1 w) :
    Calls Tryd.prog 5 #[.slice A bs.length c, .slice A' bs'.length c'] w (Ret (.bool true) w) := by
  by_cases hl : bs.length ≤ 1048576 ∧ bs'.length ≤ 1048576
  · exact FnTakeTwice_yes A c bs A' c' bs' w ⟨f1, f2, f3, f4⟩ ⟨g1, g2, g3, g4⟩ hl.1 hl.2 er0 er1 hE
  · exact FnTakeTwice_no A c bs A' c' bs' w ⟨f1, f2, f3, f4⟩ ⟨g1, g2, g3, g4⟩ hl
theorem FnTakeCross_no (A : Option Addr) (c : Nat) (bs : List Int) (A' : Option Addr) (c' : Nat) (bs' : List Int) (w : World) (h : Code_ w A c bs) (h' : Code_ w A' c' bs') (hl : ¬ (bs.length ≤ 1048576 ∧ bs'.length ≤ 1048576)) :
    Calls Tryd.prog 7 #[.slice A bs.length c, .slice A' bs'.length c'] w (Ret (.bool true) w) := by
  have hc := h.2.1
  have hm := h.2.2.1
  have hc' := h'.2.1
  have hm' := h'.2.2.1
  unfold maxLen at hm hm'
  by_cases h1 : bs.length ≤ 1048576
  · have h2 : ¬ bs'.length ≤ 1048576 := fun e => hl ⟨h1, e⟩
    clear hl
    go_enter Tryd.func7, Tryd.ntmps7
    go_wp2
    go_ret
    exact .mk_ (Below.refl _ _)
  · clear hl
    go_enter Tryd.func7, Tryd.ntmps7
    go_wp2
    go_ret
    exact .mk_ (Below.refl _ _)
set_option maxRecDepth 100000 in
set_option maxHeartbeats 4000000 in
theorem FnTakeCross_yes (A : Option Addr) (c : Nat) (bs : List Int) (A' : Option Addr) (c' : Nat) (bs' : List Int) (w : World) (h : Code_ w A c bs) (h' : Code_ w A' c' bs') (hl : bs.length ≤ 1048576) (hl' : bs'.length ≤ 1048576) (er0 er1 : Addr) (HE : Hid (Errs er0 er1 w)) :
    Calls Tryd.prog 7 #[.slice A bs.length c, .slice A' bs'.length c'] w (Ret (.bool true) w) := by
  go_enter Tryd.func7, Tryd.ntmps7
  go_wp2_with fail
  refine (DrawLocksTake_any A c bs _ h).mono ?_
  rintro e w1 ⟨A1, c1, zs, t, A2, c2, us, rfl, rz1, h4, ht0, ht1, ru1, h5, b1⟩
  obtain ⟨y, hy⟩ := lway_of zs t us
  obtain ⟨qs, hqs⟩ : ∃ qs, applied zs (lk t us) y = qs := ⟨_, rfl⟩
  obtain ⟨ok, hok⟩ : ∃ ok, y.ok = ok := ⟨_, rfl⟩
  have hql : qs.length ≤ 4 := by rw [← hqs]; exact took_le h4
  have HY := hid hy
  have HQ := hid hqs
  have HK := hid hok
  clear hy hqs hok
  go_wp2_with fail
  refine (implTake_to qs ok y A1 A2 c1 c2 zs t us w1 _ _ (HE.out.below b1) rz1 ru1 (by omega) (by omega) HY.out HQ.out HK.out).mono ?_
  rintro e w2 ⟨A3, c3, rfl, o3, d2⟩
  have rz2 := rz1.on d2
  have ru2 := ru1.on d2
  have b2 := b1.trans (d2.mono b1.size)
  have rq2 := o3.row
  clear rz1 ru1 b1 d2 o3
  go_wp2_with fail
  refine (specTake_to qs ok y A1 A2 c1 c2 zs t us w2 rz2 ru2 (by omega) (by omega) HY.out HQ.out HK.out).mono ?_
  rintro e w3 ⟨A4, c4, rfl, o4, d3⟩
  have rz3 := rz2.on d3
  have ru3 := ru2.on d3
  have rq3 := rq2.on d3
  have rp3 := o4.row
  have b3 := b2.trans (d3.mono b2.size)
  clear rz2 ru2 rq2 b2 d3 o4
  cases ok with
  | false =>
    clear HY HQ HK
    go_wp2_with fail
    refine (sameInts_ret A3 A4 c3 c4 qs _ _ _ rq3 rp3 (by unfold maxLen; omega)).mono ?_
    rintro e w4 ⟨rfl, d4⟩
    have rz4 := rz3.on d4
    have ru4 := ru3.on d4
    have rq4 := rq3.on d4
    have rp4 := rp3.on d4
    have b4 := b3.trans (d4.mono b3.size)
    clear rz3 ru3 rq3 rp3 b3 d4
    go_wp2_with fail
    refine (sameInts_ret A3 A4 c3 c4 qs _ _ _ rq4 rp4 (by unfold maxLen; omega)).mono ?_
    rintro e w5 ⟨rfl, d5⟩
    go_wp2_with fail
    go_ret
    exact .mk_ (b4.trans (d5.mono b4.size))
  | true =>
    obtain ⟨lv, tv, uv, hf, hqs⟩ := lway_yes HY.out HK.out HQ.out
    have PL := hid lv
    have PT := hid tv
    have PU := hid uv
    have PF := hid hf
    have PQ := hid hqs
    clear HY HQ HK lv tv uv hf hqs
    go_wp2_with fail
    refine (sameInts_ret A3 A4 c3 c4 qs _ _ _ rq3 rp3 (by unfold maxLen; omega)).mono ?_
    rintro e w4 ⟨rfl, d4⟩
    have rz4 := rz3.on d4
    have ru4 := ru3.on d4
    have rq4 := rq3.on d4
    have rp4 := rp3.on d4
    have b4 := b3.trans (d4.mono b3.size)
    clear rz3 ru3 rq3 rp3 b3 d4
    clear rp4
    have code4 : Code_ w4 A' c' bs' := h'.below b4
    go_wp2_with fail
    refine (DrawLocksTake_any A' c' bs' _ code4).mono ?_
    rintro e w5 ⟨A5, c5, xs, t2, A6, c6, vs, rfl, -, -, k0, k1, rv5, hv5, d5⟩
    obtain ⟨y1, hy1⟩ := lway_of zs t2 vs
    obtain ⟨y2, hy2⟩ := lway_of qs t2 vs
    obtain ⟨p1, hp1⟩ : ∃ p1, applied zs (lk t2 vs) y1 = p1 := ⟨_, rfl⟩
    obtain ⟨p2, hp2⟩ : ∃ p2, applied qs (lk t2 vs) y2 = p2 := ⟨_, rfl⟩
    obtain ⟨a1, ha1⟩ : ∃ a1, y1.ok = a1 := ⟨_, rfl⟩
    obtain ⟨a2, ha2⟩ : ∃ a2, y2.ok = a2 := ⟨_, rfl⟩
    obtain ⟨x, hx⟩ := bool_of (Cross us vs)
    have key : a1 = true → a2 = !x := fun e => by
      rw [e] at ha1
      obtain ⟨-, tv2, vv, f1, -⟩ := lway_yes hy1 ha1 rfl
      have lq : LV qs := by rw [← PQ.out]; exact take_LV PL.out PT.out
      have iff := take_cross (t2 := t2) PL.out PT.out PU.out vv f1
      rw [PQ.out] at iff
      cases x with
      | true =>
        have : ¬ Fits qs (lk t2 vs) := fun hfq => (iff.1 hfq) (hx.1 rfl)
        cases y2 with
        | bad => rw [← ha2]; rfl
        | no => rw [← ha2]; rfl
        | yes => exact absurd hy2.2.2.2 this
      | false =>
        have hfq : Fits qs (lk t2 vs) := iff.2 fun e => by have := hx.2 e; cases this
        cases y2 with
        | bad => exact absurd ⟨lq, tv2, vv⟩ hy2
        | no => exact absurd hfq hy2.2.2.2
        | yes => rw [← ha2]; rfl
    have rz5 := rz4.on d5
    have ru5 := ru4.on d5
    have rq5 := rq4.on d5
    have b5 := b4.trans (d5.mono b4.size)
    have C1 : Hid (∀ x, Below w.heap.size w x → Row x x.heap.size A1 (ints zs) → Row x x.heap.size A6 (upsV vs) → Calls Tryd.prog 10 #[.slice A1 zs.length c1, .int .i64 t2, .slice A6 vs.length c6] x (Took p1 a1 x)) := fun x h0 h1 h2 => implTake_to p1 a1 y1 A1 A6 c1 c6 zs t2 vs x _ _ (HE.out.below h0) h1 h2 (by omega) (by omega) hy1 hp1 ha1
    have C2 : Hid (∀ x, Below w.heap.size w x → Row x x.heap.size A3 (ints qs) → Row x x.heap.size A6 (upsV vs) → Calls Tryd.prog 10 #[.slice A3 qs.length c3, .int .i64 t2, .slice A6 vs.length c6] x (Took p2 a2 x)) := fun x h0 h1 h2 => implTake_to p2 a2 y2 A3 A6 c3 c6 qs t2 vs x _ _ (HE.out.below h0) h1 h2 (by omega) (by omega) hy2 hp2 ha2
    have HX := hid hx
    clear hy1 hy2 hp1 hp2 ha1 ha2 hx rz4 ru4 rq4 b4 d5 code4 PL PT PU PF PQ
    go_wp2_with fail
    refine (C1.out _ b5 rz5 rv5).mono ?_
    rintro e w6 ⟨A7, c7, rfl, -, d6⟩
    have ru6 := ru5.on d6
    have rq6 := rq5.on d6
    have rv6 := rv5.on d6
    have b6 := b5.trans (d6.mono b5.size)
    clear rz5 ru5 rq5 rv5 b5 d6 C1
    go_wp2_with fail
    refine (C2.out _ b6 rq6 rv6).mono ?_
    rintro e w7 ⟨A8, c8, rfl, -, d7⟩
    have ru7 := ru6.on d7
    have rv7 := rv6.on d7
    have b7 := b6.trans (d7.mono b6.size)
    clear ru6 rq6 rv6 b6 d7 C2
    cases a1 with
    | false =>
      clear key HX
      go_wp2_with fail
      go_ret
      exact .mk_ b7
    | true =>
      obtain rfl := key rfl
      clear key
      go_wp2_with fail
      refine (implUpdatesCross_is x A2 A6 c2 c6 us vs _ ru7 rv7 (by omega) (by omega) HX.out).mono ?_
      rintro e w8 ⟨rfl, d8⟩
      clear HX
      cases x with
      | true =>
        go_wp2_with fail
        go_ret
        exact .mk_ (b7.trans (d8.mono b7.size))
      | false =>
        go_wp2_with fail
        go_ret
        exact .mk_ (b7.trans (d8.mono b7.size))
theorem FnTakeCross_any (A : Option Addr) (c : Nat) (bs : List Int) (A' : Option Addr) (c' : Nat) (bs' : List Int) (w : World) (f1 : Row w w.heap.size A (bs.map (Value.int .u8))) (f2 : bs.length ≤ c) (f3 : c ≤ maxLen) (f4 : ∀ n ∈ bs, 0 ≤ n ∧ n < 256) (g1 : Row w w.heap.size A' (bs'.map (Value.int .u8))) (g2 : bs'.length ≤ c') (g3 : c' ≤ maxLen) (g4 : ∀ n ∈ bs', 0 ≤ n ∧ n < 256) (er0 er1 : Addr) (hE : Errs er0 er1 w) :
    Calls Tryd.prog 7 #[.slice A bs.length c, .slice A' bs'.length c'] w (Ret (.bool true) w) := by
  by_cases hl : bs.length ≤ 1048576 ∧ bs'.length ≤ 1048576
  · exact FnTakeCross_yes A c bs A' c' bs' w ⟨f1, f2, f3, f4⟩ ⟨g1, g2, g3, g4⟩ hl.1 hl.2 er0 er1 hE
  · exact FnTakeCross_no A c bs A' c' bs' w ⟨f1, f2, f3, f4⟩ ⟨g1, g2, g3, g4⟩ hl
end Go.Proofs.YtdaodkacgoljbaaDoor
