/-
  Walks of the laws on the parts of names that clash or don't.
-/
import Derived.Test.YtdjfglebnblfkabDoorLawNam2
namespace Go.Proofs.YtdjfglebnblfkabDoor
open Go.RowKit Wo Pu Nm

theorem cutB_mk (s : ByteArray) : cutB s = (cutL (bl s)).map mk := rfl
theorem cla_partsB {p s : ByteArray} (h : Cla (bl p) (bl s)) : ((cutB s).length < (cutB p).length ∧ (cutB p).take (cutB s).length = cutB s) ∨ ((cutB p).length < (cutB s).length ∧ (cutB s).take (cutB p).length = cutB p) := by
  rw [cutB_mk, cutB_mk, List.length_map, List.length_map, ← List.map_take, ← List.map_take]
  rcases cla_parts h with ⟨h1, h2⟩ | ⟨h1, h2⟩
  · exact .inl ⟨h1, by rw [h2]⟩
  · exact .inr ⟨h1, by rw [h2]⟩
theorem FnClashParts_no (A : Option Addr) (c : Nat) (bs : List Int) (w : World) (h : Code_ w A c bs) (hl : ¬ bs.length ≤ 1048576) :
    Calls Tryd.prog 3 #[.slice A bs.length c] w (Ret (.bool true) w) := by
  have hc := h.2.1
  have hm := h.2.2.1
  unfold maxLen at hm
  go_enter Tryd.func3, Tryd.ntmps3
  go_wp2
  go_ret
  exact .mk_ (Below.refl _ _)
set_option maxRecDepth 100000 in
set_option maxHeartbeats 4000000 in
theorem FnClashParts_yes (A : Option Addr) (c : Nat) (bs : List Int) (w : World) (h : Code_ w A c bs) (hl : bs.length ≤ 1048576) :
    Calls Tryd.prog 3 #[.slice A bs.length c] w (Ret (.bool true) w) := by
  go_enter Tryd.func3, Tryd.ntmps3
  go_wp2_with fail
  refine (DrawNameClashes_any A c bs _ h).mono ?_
  rintro e w1 ⟨p, s, rfl, hp, hs, b1⟩
  obtain ⟨v, hv⟩ := bool_of (Cla (bl p) (bl s))
  have HV := hid hv
  clear hv
  go_wp2_with fail
  refine (implNameClashes_is v p s _ HV.out (by unfold maxLen; omega) (by unfold maxLen; omega)).mono ?_
  rintro e w2 ⟨rfl, hb2⟩
  have b2 := b1.trans (hb2.mono b1.size)
  go_wp2_with fail
  refine (specNameClashes_is v p s _ HV.out (by omega) (by omega)).mono ?_
  rintro e w3 ⟨rfl, hb3⟩
  have b3 := b2.trans (hb3.mono b2.size)
  clear hb2 hb3 b1 b2
  cases v with
  | false =>
    go_wp2_with fail
    go_ret
    exact .mk_ b3
  | true =>
    have hc := HV.out.1 rfl
    have HP := hid (cla_partsB hc)
    have np := hc.1
    have ns := hc.2.1
    have IP : Hid (∀ x, Calls Tryd.prog 13 #[.string p] x (RowsOf (cutB p) x)) := fun x => (implNameParts_is true p x ⟨fun _ => np, fun _ => rfl⟩ (by unfold maxLen; omega)).mono fun _ _ h => h.rows
    have IS : Hid (∀ x, Calls Tryd.prog 13 #[.string s] x (RowsOf (cutB s) x)) := fun x => (implNameParts_is true s x ⟨fun _ => ns, fun _ => rfl⟩ (by unfold maxLen; omega)).mono fun _ _ h => h.rows
    have lp := cutB_few p
    have ls := cutB_few s
    clear HV hc np ns
    generalize cutB p = xs at *
    generalize cutB s = ys at *
    go_wp2_with fail
    refine (IP.out _).mono ?_
    rintro e w4 ⟨A4, c4, rfl, r4, k4, hb4⟩
    have b4 := b3.trans (hb4.mono b3.size)
    clear hb4 b3 IP
    go_wp2_with fail
    refine (IS.out _).mono ?_
    rintro e w5 ⟨A5, c5, rfl, r5, k5, hb5⟩
    have b5 := b4.trans (hb5.mono b4.size)
    have q4 := (r4.below hb5 (Nat.le_refl _)).more hb5.size
    clear hb5 b4 IS r4
    by_cases hlt : ys.length < xs.length
    · have htake : xs.take ys.length = ys := by
        rcases HP.out with h | h
        · exact h.2
        · omega
      have rt := row_txts_take q4 ys.length
      rw [htake] at rt
      have e0 : decide ((ys.length : Int) < (xs.length : Int)) = true := decide_eq_true (by omega)
      have e1 : decide (ys.length < xs.length) = true := decide_eq_true hlt
      have q1 : (ys.length : Int) ≤ (c4 : Int) := by omega
      have q2 : ys.length ≤ c4 := by omega
      clear HP htake q4
      go_wp2_with fail
      refine (sameTexts_ret A4 A5 c4 c5 ys w5 rt r5 (by unfold maxLen; omega)).mono ?_
      rintro e w6 ⟨rfl, hb6⟩
      have b6 := b5.trans (hb6.mono b5.size)
      go_wp2_with fail
      go_ret
      exact .mk_ b6
    · obtain ⟨hlt2, htake⟩ : xs.length < ys.length ∧ ys.take xs.length = xs := by
        rcases HP.out with h | h
        · omega
        · exact h
      have rt := row_txts_take r5 xs.length
      rw [htake] at rt
      have e0 : decide ((ys.length : Int) < (xs.length : Int)) = false := decide_eq_false (by omega)
      have e1 : decide (ys.length < xs.length) = false := decide_eq_false hlt
      have e2 : decide ((xs.length : Int) < (ys.length : Int)) = true := decide_eq_true (by omega)
      have e3 : decide (xs.length < ys.length) = true := decide_eq_true hlt2
      have q1 : (xs.length : Int) ≤ (c5 : Int) := by omega
      have q2 : xs.length ≤ c5 := by omega
      clear HP htake r5
      go_wp2_with fail
      refine (sameTexts_ret A5 A4 c5 c4 xs w5 rt q4 (by unfold maxLen; omega)).mono ?_
      rintro e w6 ⟨rfl, hb6⟩
      have b6 := b5.trans (hb6.mono b5.size)
      go_wp2_with fail
      go_ret
      exact .mk_ b6
theorem FnClashParts_any (A : Option Addr) (c : Nat) (bs : List Int) (w : World) (f1 : Row w w.heap.size A (bs.map (Value.int .u8))) (f2 : bs.length ≤ c) (f3 : c ≤ maxLen) (f4 : ∀ n ∈ bs, 0 ≤ n ∧ n < 256) :
    Calls Tryd.prog 3 #[.slice A bs.length c] w (Ret (.bool true) w) := by
  by_cases hl : bs.length ≤ 1048576
  · exact FnClashParts_yes A c bs w ⟨f1, f2, f3, f4⟩ hl
  · exact FnClashParts_no A c bs w ⟨f1, f2, f3, f4⟩ hl
theorem cla_firstB {p s : ByteArray} (h : Cla (bl p) (bl s)) : (cutB p)[0]? = (cutB s)[0]? := by
  rw [cutB_mk, cutB_mk, List.getElem?_map, List.getElem?_map, cla_first h]
theorem FnClashNot_no (A : Option Addr) (c : Nat) (bs : List Int) (w : World) (h : Code_ w A c bs) (hl : ¬ bs.length ≤ 1048576) :
    Calls Tryd.prog 4 #[.slice A bs.length c] w (Ret (.bool true) w) := by
  have hc := h.2.1
  have hm := h.2.2.1
  unfold maxLen at hm
  go_enter Tryd.func4, Tryd.ntmps4
  go_wp2
  go_ret
  exact .mk_ (Below.refl _ _)
set_option maxRecDepth 100000 in
set_option maxHeartbeats 4000000 in
theorem FnClashNot_yes (A : Option Addr) (c : Nat) (bs : List Int) (w : World) (h : Code_ w A c bs) (hl : bs.length ≤ 1048576) :
    Calls Tryd.prog 4 #[.slice A bs.length c] w (Ret (.bool true) w) := by
  go_enter Tryd.func4, Tryd.ntmps4
  go_wp2_with fail
  refine (DrawNameClashes_any A c bs _ h).mono ?_
  rintro e w1 ⟨p, s, rfl, hp, hs, b1⟩
  obtain ⟨v, hv⟩ := bool_of (Cla (bl p) (bl s))
  have HV := hid hv
  clear hv
  go_wp2_with fail
  refine (implNameClashes_is v p s _ HV.out (by unfold maxLen; omega) (by unfold maxLen; omega)).mono ?_
  rintro e w2 ⟨rfl, hb2⟩
  have b2 := b1.trans (hb2.mono b1.size)
  go_wp2_with fail
  refine (specNameClashes_is v p s _ HV.out (by omega) (by omega)).mono ?_
  rintro e w3 ⟨rfl, hb3⟩
  have b3 := b2.trans (hb3.mono b2.size)
  clear hb2 hb3 b1 b2
  obtain ⟨vp, hvp⟩ := bool_of (Name (bl p))
  obtain ⟨vs, hvs⟩ := bool_of (Name (bl s))
  have IP : Hid (∀ x, Calls Tryd.prog 13 #[.string p] x (RowsOf (partsOf p vp) x)) := fun x => (implNameParts_is vp p x hvp (by unfold maxLen; omega)).mono fun _ _ h => h.rows
  have IS : Hid (∀ x, Calls Tryd.prog 13 #[.string s] x (RowsOf (partsOf s vs) x)) := fun x => (implNameParts_is vs s x hvs (by unfold maxLen; omega)).mono fun _ _ h => h.rows
  have HF : Hid (v = true → (partsOf p vp)[0]? = (partsOf s vs)[0]?) := fun hv => by
    have hc := HV.out.1 hv
    rw [hvp.2 hc.1, hvs.2 hc.2.1, partsOf_true, partsOf_true]
    exact cla_firstB hc
  have lp : (partsOf p vp).length ≤ 30 := by cases vp; simp [partsOf]; rw [partsOf_true]; have := cutB_few p; omega
  have ls : (partsOf s vs).length ≤ 30 := by cases vs; simp [partsOf]; rw [partsOf_true]; have := cutB_few s; omega
  clear HV hvp hvs
  generalize partsOf p vp = xs at *
  generalize partsOf s vs = ys at *
  have HG : Hid (v = false ∨ xs[0]? = ys[0]?) := by
    cases v with
    | false => exact .inl rfl
    | true => exact .inr (HF.out rfl)
  clear HF
  have go_on : ∀ v0 : Bool, v0 = v → True := fun _ _ => trivial
  clear go_on
  cases v <;> (
    go_wp2_with fail
    refine (IP.out _).mono ?_
    rintro e w4 ⟨A4, c4, rfl, r4, k4, hb4⟩
    have b4 := b3.trans (hb4.mono b3.size)
    clear hb4 b3 IP
    go_wp2_with fail
    refine (IS.out _).mono ?_
    rintro e w5 ⟨A5, c5, rfl, r5, k5, hb5⟩
    have b5 := b4.trans (hb5.mono b4.size)
    have q4 := (r4.below hb5 (Nat.le_refl _)).more hb5.size
    clear hb5 b4 IS r4
    by_cases hx : xs.length = 0
    · have e0 : ((xs.length : Int) == 0) = true := by rw [beq_iff_eq]; omega
      clear hx
      go_wp2_with fail
      go_quiet (fail)
      go_wp2
      go_ret
      exact .mk_ (Wo.Below.drewN b5 _)
    · have e0 : ((xs.length : Int) == 0) = false := by rw [beq_eq_false_iff_ne]; omega
      by_cases hy : ys.length = 0
      · have e1 : ((ys.length : Int) == 0) = true := by rw [beq_iff_eq]; omega
        clear hx hy
        go_wp2_with fail
        go_quiet (fail)
        go_wp2
        go_ret
        exact .mk_ (Wo.Below.drewN b5 _)
      · have e1 : ((ys.length : Int) == 0) = false := by rw [beq_eq_false_iff_ne]; omega
        obtain ⟨ad, rfl, had, hcx⟩ := q4.str_ (k := 0) (by omega)
        obtain ⟨ad', rfl, had', hcy⟩ := r5.str_ (k := 0) (by omega)
        have g1 : xs[0]? = some (xs[0]'(by omega)) := List.getElem?_eq_getElem (by omega)
        have g2 : ys[0]? = some (ys[0]'(by omega)) := List.getElem?_eq_getElem (by omega)
        have HG2 := HG.out
        rw [g1, g2] at HG2
        obtain ⟨t, ht⟩ : ∃ t, xs[0]'(by omega) = t := ⟨_, rfl⟩
        obtain ⟨u, hu⟩ : ∃ u, ys[0]'(by omega) = u := ⟨_, rfl⟩
        rw [ht, add_zero] at hcx
        rw [hu, add_zero] at hcy
        rw [ht, hu] at HG2
        have q1 : (0 : Int) < (xs.length : Int) := by omega
        have q2 : (0 : Int) < (ys.length : Int) := by omega
        clear g1 g2 ht hu HG hx hy
        by_cases heq : t = u
        · have f1 : (t.toList == u.toList) = true := (eq_toList _ _).2 heq
          clear HG2 heq
          go_wp2_with fail
          go_quiet (fail)
          go_wp2
          go_ret
          exact .mk_ (Wo.Below.drewN b5 _)
        · have f1 : (t.toList == u.toList) = false := (ne_toList _ _).2 heq
          first
          | (exfalso; rcases HG2 with h | h; exact absurd h (by decide); exact heq (Option.some.inj h); done)
          | (clear HG2 heq; go_wp2_with fail; go_quiet (fail); go_wp2; go_ret; exact .mk_ (Wo.Below.drewN b5 _)))
theorem FnClashNot_any (A : Option Addr) (c : Nat) (bs : List Int) (w : World) (f1 : Row w w.heap.size A (bs.map (Value.int .u8))) (f2 : bs.length ≤ c) (f3 : c ≤ maxLen) (f4 : ∀ n ∈ bs, 0 ≤ n ∧ n < 256) :
    Calls Tryd.prog 4 #[.slice A bs.length c] w (Ret (.bool true) w) := by
  by_cases hl : bs.length ≤ 1048576
  · exact FnClashNot_yes A c bs w ⟨f1, f2, f3, f4⟩ hl
  · exact FnClashNot_no A c bs w ⟨f1, f2, f3, f4⟩ hl
end Go.Proofs.YtdjfglebnblfkabDoor
