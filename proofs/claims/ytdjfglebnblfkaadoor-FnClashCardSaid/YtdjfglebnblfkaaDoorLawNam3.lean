/-
  Walks of the laws on patterns and on clashes.
-/
import Derived.Test.YtdjfglebnblfkaaDoorLawNam2
namespace Go.Proofs.YtdjfglebnblfkaaDoor
open Go.RowKit Wo Pu Nm

theorem last_byte {p : ByteArray} (h : (bl p).getLast? = some 42) : ∃ h0 : 0 < p.size, p[p.size - 1] = 42 := by
  have hl := bl_size p
  rw [List.getLast?_eq_getElem?] at h
  obtain ⟨h1, h2⟩ := List.getElem?_eq_some_iff.1 h
  have h0 : 0 < p.size := by omega
  refine ⟨h0, ?_⟩
  rw [← h2]
  simp only [hl]
  exact (bl_at p (by omega)).symm
theorem FnMatchStar_no (A : Option Addr) (c : Nat) (bs : List Int) (w : World) (h : Code_ w A c bs) (hl : ¬ bs.length ≤ 1048576) :
    Calls Tryd.prog 7 #[.slice A bs.length c] w (Ret (.bool true) w) := by
  have hc := h.2.1
  have hm := h.2.2.1
  unfold maxLen at hm
  go_enter Tryd.func7, Tryd.ntmps7
  go_wp2
  go_ret
  exact .mk_ (Below.refl _ _)
set_option maxRecDepth 100000 in
set_option maxHeartbeats 4000000 in
theorem FnMatchStar_yes (A : Option Addr) (c : Nat) (bs : List Int) (w : World) (h : Code_ w A c bs) (hl : bs.length ≤ 1048576) :
    Calls Tryd.prog 7 #[.slice A bs.length c] w (Ret (.bool true) w) := by
  go_enter Tryd.func7, Tryd.ntmps7
  go_wp2_with fail
  refine (DrawNameMatches_any A c bs _ h).mono ?_
  rintro e w1 ⟨p, s, rfl, hp, hs, b1⟩
  obtain ⟨v, hv⟩ := bool_of (Mat (bl p) (bl s))
  have HV := hid hv
  clear hv
  go_wp2_with fail
  refine (implNameMatches_is v p s _ HV.out (by omega) (by omega)).mono ?_
  rintro e w2 ⟨rfl, hb2⟩
  have b2 := b1.trans (hb2.mono b1.size)
  go_wp2_with fail
  refine (specNameMatches_is v p s _ HV.out (by omega) (by omega)).mono ?_
  rintro e w3 ⟨rfl, hb3⟩
  have b3 := b2.trans (hb3.mono b2.size)
  clear hb2 hb3 b1 b2
  cases v with
  | false =>
    go_wp2_with fail
    go_ret
    exact .mk_ b3
  | true =>
    have hm := HV.out.1 rfl
    have hn := hm.1
    have hmany := mat_many hm
    obtain ⟨K, hK⟩ : ∃ K, (cutB s).length = K := ⟨_, rfl⟩
    have hKc : (cutL (bl s)).length = K := by rw [← bl_cutB, List.length_map, hK]
    rw [hKc] at hmany
    have HM := hid hmany
    have PM : Hid (∀ x, Calls Tryd.prog 12 #[.string s] x (fun e w' => ∃ A c, e = .returned (.slice A K c) ∧ Below x.heap.size x w')) := fun x =>
      (implNameParts_is true s x ⟨fun _ => hn, fun _ => rfl⟩ (by unfold maxLen; omega)).mono fun e w' h => by
        obtain ⟨A, c, rfl, _, hb⟩ := h
        rw [partsOf_true, hK]
        exact ⟨A, c, rfl, hb⟩
    have hK24 : K ≤ 26 := by have := cutB_few s; omega
    clear HV hm hn hmany hK hKc
    go_wp2_with fail
    go_loop [7, 8] (fun n i => ∃ k m : Nat, k ≤ p.size ∧ i = .int .i64 k ∧ n = .int .i64 m ∧ m ≤ k + 1 ∧ Hid (Cnt p k m)) (fun _ i => p.size - (intOf i).toNat)
    case atStart => exact ⟨0, 1, Nat.zero_le _, rfl, rfl, Nat.le_refl _, .zero p⟩
    case round =>
      obtain ⟨k, m, hk, rfl, rfl, hm, H⟩ := hrel
      by_cases hlk : k < p.size
      · by_cases h47 : p[k] = 47
        · have HN := hid (H.out.yes hlk h47)
          have e1 := byte_yes h47
          clear H h47
          go_wp2
          go_round
          case rel => exact ⟨k + 1, m + 1, by omega, by go_num, by go_num, by omega, HN⟩
          case measure => simp [intOf]; omega
        · have HN := hid (H.out.no hlk h47)
          have e1 := byte_no h47
          clear H h47
          go_wp2
          go_round
          case rel => exact ⟨k + 1, m, by omega, by go_num, rfl, by omega, HN⟩
          case measure => simp [intOf]; omega
      · have hk' : k = p.size := by omega
        subst hk'
        have hcnt : (bl p).count 47 + 1 = m := by have := H.out.all; rwa [cutB_length] at this
        have hmk := HM.out
        rw [hcnt] at hmk
        clear H HM hcnt
        go_wp2_with fail
        refine (PM.out _).mono ?_
        rintro e w4 ⟨A4, c4, rfl, hb4⟩
        have b4 := b3.trans (hb4.mono b3.size)
        clear PM hb4 b3
        by_cases heq : m = K
        · have e1 : ((m : Int) == (K : Int)) = true := by rw [beq_iff_eq]; omega
          clear hmk heq
          go_wp2_with fail
          go_ret
          exact .mk_ b4
        · have e1 : ((m : Int) == (K : Int)) = false := by rw [beq_eq_false_iff_ne]; omega
          obtain ⟨hlt, hlast⟩ : m < K ∧ (bl p).getLast? = some 42 := by
            rcases hmk with h | h
            · exact absurd h heq
            · exact h
          obtain ⟨h0, h42⟩ := last_byte hlast
          have e2 : decide ((m : Int) < (K : Int)) = true := decide_eq_true (by omega)
          obtain ⟨j, hj⟩ : ∃ j, p.size = j + 1 := ⟨p.size - 1, by omega⟩
          have hjl : j < p.size := by omega
          have h42' : p[j] = 42 := by rw [← h42]; congr 1; omega
          have e3 : (((p[j]).toNat : Int) == 42) = true := by rw [h42']; rfl
          have q1 : IntKind.i64.wrap ((p.size : Int) - 1) = (j : Int) := by rw [IntWalk.i64_in _ (by omega)]; omega
          have q2 : (p.size : Int) - 1 = (j : Int) := by omega
          have q3 : (j : Int) < (p.size : Int) := by omega
          clear hmk heq hlast h42 h42' h0
          go_wp2_with fail
          go_ret
          exact .mk_ b4
theorem FnMatchStar_any (A : Option Addr) (c : Nat) (bs : List Int) (w : World) (f1 : Row w w.heap.size A (bs.map (Value.int .u8))) (f2 : bs.length ≤ c) (f3 : c ≤ maxLen) (f4 : ∀ n ∈ bs, 0 ≤ n ∧ n < 256) :
    Calls Tryd.prog 7 #[.slice A bs.length c] w (Ret (.bool true) w) := by
  by_cases hl : bs.length ≤ 1048576
  · exact FnMatchStar_yes A c bs w ⟨f1, f2, f3, f4⟩ hl
  · exact FnMatchStar_no A c bs w ⟨f1, f2, f3, f4⟩ hl
/-- Two names match as they are equal. -/
def ExM (vp vs v : Bool) (p s : ByteArray) : Prop := vp = true → vs = true → (p.toList == s.toList) = v
theorem FnMatchExact_no (A : Option Addr) (c : Nat) (bs : List Int) (w : World) (h : Code_ w A c bs) (hl : ¬ bs.length ≤ 1048576) :
    Calls Tryd.prog 8 #[.slice A bs.length c] w (Ret (.bool true) w) := by
  have hc := h.2.1
  have hm := h.2.2.1
  unfold maxLen at hm
  go_enter Tryd.func8, Tryd.ntmps8
  go_wp2
  go_ret
  exact .mk_ (Below.refl _ _)
set_option maxRecDepth 100000 in
set_option maxHeartbeats 4000000 in
theorem FnMatchExact_yes (A : Option Addr) (c : Nat) (bs : List Int) (w : World) (h : Code_ w A c bs) (hl : bs.length ≤ 1048576) :
    Calls Tryd.prog 8 #[.slice A bs.length c] w (Ret (.bool true) w) := by
  go_enter Tryd.func8, Tryd.ntmps8
  go_wp2_with fail
  refine (DrawNameMatches_any A c bs _ h).mono ?_
  rintro e w1 ⟨p, s, rfl, hp, hs, b1⟩
  obtain ⟨v, hv⟩ := bool_of (Mat (bl p) (bl s))
  have HV := hid hv
  clear hv
  go_wp2_with fail
  refine (implNameMatches_is v p s _ HV.out (by omega) (by omega)).mono ?_
  rintro e w2 ⟨rfl, hb2⟩
  have b2 := b1.trans (hb2.mono b1.size)
  go_wp2_with fail
  refine (specNameMatches_is v p s _ HV.out (by omega) (by omega)).mono ?_
  rintro e w3 ⟨rfl, hb3⟩
  have b3 := b2.trans (hb3.mono b2.size)
  clear hb2 hb3 b1 b2
  obtain ⟨vp, hvp⟩ := bool_of (Name (bl p))
  obtain ⟨vs, hvs⟩ := bool_of (Name (bl s))
  have CP : Hid (∀ x, Calls Tryd.prog 15 #[.string p] x (Ret (.bool vp) x)) := fun x => implNameValid_is vp p x hvp (by unfold maxLen; omega)
  have CS : Hid (∀ x, Calls Tryd.prog 15 #[.string s] x (Ret (.bool vs) x)) := fun x => implNameValid_is vs s x hvs (by unfold maxLen; omega)
  have HE : Hid (ExM vp vs v p s) := fun h1 h2 => by
    rw [Bool.eq_iff_iff, eq_toList, HV.out, mat_exact (hvp.1 h1) (hvs.1 h2)]
    exact ⟨fun h => by rw [h], fun h => bl_inj h⟩
  clear HV hvp hvs
  cases v <;> (
    go_wp2_with fail
    refine (CP.out _).mono ?_
    rintro e w4 ⟨rfl, hb4⟩
    have b4 := b3.trans (hb4.mono b3.size)
    clear hb4 b3
    cases vp with
    | false =>
      go_wp2_with fail
      go_ret
      exact .mk_ b4
    | true =>
      go_wp2_with fail
      refine (CS.out _).mono ?_
      rintro e w5 ⟨rfl, hb5⟩
      have b5 := b4.trans (hb5.mono b4.size)
      clear hb5 b4
      cases vs with
      | false =>
        go_wp2_with fail
        go_ret
        exact .mk_ b5
      | true =>
        have e0 := HE.out rfl rfl
        go_wp2_with fail
        go_ret
        exact .mk_ b5)
theorem FnMatchExact_any (A : Option Addr) (c : Nat) (bs : List Int) (w : World) (f1 : Row w w.heap.size A (bs.map (Value.int .u8))) (f2 : bs.length ≤ c) (f3 : c ≤ maxLen) (f4 : ∀ n ∈ bs, 0 ≤ n ∧ n < 256) :
    Calls Tryd.prog 8 #[.slice A bs.length c] w (Ret (.bool true) w) := by
  by_cases hl : bs.length ≤ 1048576
  · exact FnMatchExact_yes A c bs w ⟨f1, f2, f3, f4⟩ hl
  · exact FnMatchExact_no A c bs w ⟨f1, f2, f3, f4⟩ hl
theorem FnClash_no (A : Option Addr) (c : Nat) (bs : List Int) (w : World) (h : Code_ w A c bs) (hl : ¬ bs.length ≤ 1048576) :
    Calls Tryd.prog 10 #[.slice A bs.length c] w (Ret (.bool true) w) := by
  have hc := h.2.1
  have hm := h.2.2.1
  unfold maxLen at hm
  go_enter Tryd.func10, Tryd.ntmps10
  go_wp2
  go_ret
  exact .mk_ (Below.refl _ _)
set_option maxRecDepth 100000 in
set_option maxHeartbeats 4000000 in
theorem FnClash_yes (A : Option Addr) (c : Nat) (bs : List Int) (w : World) (h : Code_ w A c bs) (hl : bs.length ≤ 1048576) :
    Calls Tryd.prog 10 #[.slice A bs.length c] w (Ret (.bool true) w) := by
  go_enter Tryd.func10, Tryd.ntmps10
  go_wp2_with fail
  refine (DrawNameClashes_any A c bs _ h).mono ?_
  rintro e w1 ⟨p, s, rfl, hp, hs, b1⟩
  obtain ⟨v, hv⟩ := bool_of (Cla (bl p) (bl s))
  have HV := hid hv
  clear hv
  go_wp2_with fail
  refine (implNameClashes_is v p s _ HV.out (by unfold maxLen; omega) (by unfold maxLen; omega)).mono ?_
  rintro e w2 ⟨rfl, hb2⟩
  have b2 := b1.trans (hb2.mono b1.size)
  go_wp2_with fail
  refine (specNameClashes_is v p s _ HV.out (by omega) (by omega)).mono ?_
  rintro e w3 ⟨rfl, hb3⟩
  have b3 := b2.trans (hb3.mono b2.size)
  clear hb2 hb3 b1 b2
  have zx : (p ++ (⟨#[47, 120]⟩ : ByteArray)).size = p.size + 2 := ByteArray.size_append
  have ex : bl (p ++ (⟨#[47, 120]⟩ : ByteArray)) = bl p ++ 47 :: [120] := by rw [bl_append]; rfl
  obtain ⟨vx, hvx⟩ := bool_of (Name (bl (p ++ (⟨#[47, 120]⟩ : ByteArray))))
  have CR : Hid (∀ x, Calls Tryd.prog 22 #[.string s, .string p] x (Ret (.bool v) x)) := fun x => implNameClashes_is v s p x (HV.out.trans (cla_comm _ _)) (by unfold maxLen; omega) (by unfold maxLen; omega)
  have CX : Hid (∀ x, Calls Tryd.prog 15 #[.string (p ++ (⟨#[47, 120]⟩ : ByteArray))] x (Ret (.bool vx) x)) := fun x => implNameValid_is vx _ x hvx (by unfold maxLen; omega)
  have CU : Hid (vx = true → ∀ x, Calls Tryd.prog 22 #[.string p, .string (p ++ (⟨#[47, 120]⟩ : ByteArray))] x (Ret (.bool true) x)) := fun hv x => implNameClashes_is true _ _ x ⟨fun _ => by have := hvx.1 hv; rw [ex] at this ⊢; exact cla_x this, fun _ => rfl⟩ (by unfold maxLen; omega) (by unfold maxLen; omega)
  have CN : Hid (∀ x, Calls Tryd.prog 22 #[.string p, .string p] x (Ret (.bool false) x)) := fun x => implNameClashes_is false p p x ⟨(fun e => by cases e), fun e => absurd e (cla_none _)⟩ (by unfold maxLen; omega) (by unfold maxLen; omega)
  clear HV hvx ex
  cases v <;> (
    go_wp2_with fail
    refine (CR.out _).mono ?_
    rintro e w4 ⟨rfl, hb4⟩
    have b4 := b3.trans (hb4.mono b3.size)
    clear hb4 b3
    go_wp2_with fail
    refine (CX.out _).mono ?_
    rintro e w5 ⟨rfl, hb5⟩
    have b5 := b4.trans (hb5.mono b4.size)
    clear hb5 b4
    cases vx with
    | false =>
      go_wp2_with fail
      refine (CN.out _).mono ?_
      rintro e w6 ⟨rfl, hb6⟩
      have b6 := b5.trans (hb6.mono b5.size)
      go_wp2_with fail
      go_ret
      exact .mk_ b6
    | true =>
      have CU' := hid (CU.out rfl)
      clear CU
      go_wp2_with fail
      refine (CU'.out _).mono ?_
      rintro e w6 ⟨rfl, hb6⟩
      have b6 := b5.trans (hb6.mono b5.size)
      clear hb6 b5
      go_wp2_with fail
      refine (CN.out _).mono ?_
      rintro e w7 ⟨rfl, hb7⟩
      have b7 := b6.trans (hb7.mono b6.size)
      go_wp2_with fail
      go_ret
      exact .mk_ b7)
theorem FnClash_any (A : Option Addr) (c : Nat) (bs : List Int) (w : World) (f1 : Row w w.heap.size A (bs.map (Value.int .u8))) (f2 : bs.length ≤ c) (f3 : c ≤ maxLen) (f4 : ∀ n ∈ bs, 0 ≤ n ∧ n < 256) :
    Calls Tryd.prog 10 #[.slice A bs.length c] w (Ret (.bool true) w) := by
  by_cases hl : bs.length ≤ 1048576
  · exact FnClash_yes A c bs w ⟨f1, f2, f3, f4⟩ hl
  · exact FnClash_no A c bs w ⟨f1, f2, f3, f4⟩ hl
end Go.Proofs.YtdjfglebnblfkaaDoor
