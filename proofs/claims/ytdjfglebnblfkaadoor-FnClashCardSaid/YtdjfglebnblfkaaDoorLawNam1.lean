/-
  Walks of the laws on valid names: bad ones, long ones, a name as its own pattern.
-/
import Derived.Test.YtdjfglebnblfkaaDoorNamD
import Derived.Test.YtdjfglebnblfkaaDoorNamX
import Derived.Test.YtdjfglebnblfkaaDoorNamO
namespace Go.Proofs.YtdjfglebnblfkaaDoor
open Go.RowKit Wo Pu Nm

theorem bl_app (s : ByteArray) (l : List UInt8) : bl (s ++ mk l) = bl s ++ l := by rw [bl_append, bl_mk]
theorem bl_pre (s : ByteArray) (l : List UInt8) : bl (mk l ++ s) = l ++ bl s := by rw [bl_append, bl_mk]
theorem invalid_any (s : ByteArray) (h : ¬ Name (bl s)) (hs : s.size ≤ maxLen) (w : World) : Calls Tryd.prog 15 #[.string s] w (Ret (.bool false) w) := implNameValid_is false s w ⟨(fun e => by cases e), fun e => absurd e h⟩ hs
theorem valid_any (s : ByteArray) (h : Name (bl s)) (hs : s.size ≤ maxLen) (w : World) : Calls Tryd.prog 15 #[.string s] w (Ret (.bool true) w) := implNameValid_is true s w ⟨fun _ => h, fun _ => rfl⟩ hs
theorem end_no (s : ByteArray) {b : UInt8} (hb : b ≠ 47) (hl : ¬ Lett b) : ¬ Name (bl (s ++ (⟨#[b]⟩ : ByteArray))) := by
  rw [show (⟨#[b]⟩ : ByteArray) = mk [b] from rfl, bl_app]
  exact bad_end _ hb hl

theorem FnNameBad_no (A : Option Addr) (c : Nat) (bs : List Int) (w : World) (h : Code_ w A c bs) (hl : ¬ bs.length ≤ 1048576) :
    Calls Tryd.prog 4 #[.slice A bs.length c] w (Ret (.bool true) w) := by
  have hc := h.2.1
  have hm := h.2.2.1
  unfold maxLen at hm
  go_enter Tryd.func4, Tryd.ntmps4
  go_wp2
  go_ret
  exact .mk_ (Below.refl _ _)
set_option maxHeartbeats 4000000 in
theorem FnNameBad_yes (A : Option Addr) (c : Nat) (bs : List Int) (w : World) (h : Code_ w A c bs) (hl : bs.length ≤ 1048576) :
    Calls Tryd.prog 4 #[.slice A bs.length c] w (Ret (.bool true) w) := by
  go_enter Tryd.func4, Tryd.ntmps4
  go_wp2_with fail
  refine (DrawNameValid_any A c bs _ h).mono ?_
  rintro e w1 ⟨s, rfl, hs, b1⟩
  obtain ⟨v, hv⟩ := bool_of (Name (bl s))
  have HV := hid hv
  clear hv
  go_wp2_with fail
  refine (implNameValid_is v s _ HV.out (by unfold maxLen; omega)).mono ?_
  rintro e w2 ⟨rfl, hb2⟩
  have b2 := b1.trans (hb2.mono b1.size)
  go_wp2_with fail
  refine (specNameValid_is v s _ HV.out (by omega)).mono ?_
  rintro e w3 ⟨rfl, hb3⟩
  have b3 := b2.trans (hb3.mono b2.size)
  clear hb2 hb3 b1 b2
  cases v with
  | false =>
    go_wp2_with fail
    go_ret
    exact .mk_ b3
  | true =>
    have z1 : ∀ b : UInt8, (s ++ (⟨#[b]⟩ : ByteArray)).size ≤ maxLen := fun b => by rw [ByteArray.size_append, show (⟨#[b]⟩ : ByteArray).size = 1 from rfl]; unfold maxLen; omega
    have C1 : Hid (∀ x, Calls Tryd.prog 15 #[.string (s ++ (⟨#[47]⟩ : ByteArray))] x (Ret (.bool false) x)) := fun x => invalid_any _ (by rw [app_slash]; exact bad_slash _) (z1 _) x
    have C2 : Hid (∀ x, Calls Tryd.prog 15 #[.string (s ++ (⟨#[65]⟩ : ByteArray))] x (Ret (.bool false) x)) := fun x => invalid_any _ (end_no s (by decide) (by decide)) (z1 _) x
    have C3 : Hid (∀ x, Calls Tryd.prog 15 #[.string (s ++ (⟨#[32]⟩ : ByteArray))] x (Ret (.bool false) x)) := fun x => invalid_any _ (end_no s (by decide) (by decide)) (z1 _) x
    have C4 : Hid (∀ x, Calls Tryd.prog 15 #[.string (s ++ (⟨#[45]⟩ : ByteArray))] x (Ret (.bool false) x)) := fun x => invalid_any _ (end_no s (by decide) (by decide)) (z1 _) x
    have C5 : Hid (∀ x, Calls Tryd.prog 15 #[.string ((⟨#[47]⟩ : ByteArray) ++ s)] x (Ret (.bool false) x)) := fun x => invalid_any _ (by rw [show (⟨#[47]⟩ : ByteArray) = mk [47] from rfl, bl_pre]; exact bad_front _) (by rw [ByteArray.size_append, show (⟨#[47]⟩ : ByteArray).size = 1 from rfl]; unfold maxLen; omega) x
    clear z1 HV
    go_wp2_with fail
    refine ((C1).out _).mono ?_
    rintro e w4 ⟨rfl, hb4⟩
    have b4 := b3.trans (hb4.mono b3.size)
    clear hb4 b3
    go_wp2_with fail
    refine ((C2).out _).mono ?_
    rintro e w5 ⟨rfl, hb5⟩
    have b5 := b4.trans (hb5.mono b4.size)
    clear hb5 b4
    go_wp2_with fail
    refine ((C3).out _).mono ?_
    rintro e w6 ⟨rfl, hb6⟩
    have b6 := b5.trans (hb6.mono b5.size)
    clear hb6 b5
    go_wp2_with fail
    refine ((C4).out _).mono ?_
    rintro e w7 ⟨rfl, hb7⟩
    have b7 := b6.trans (hb7.mono b6.size)
    clear hb7 b6
    go_wp2_with fail
    refine ((C5).out _).mono ?_
    rintro e w8 ⟨rfl, hb8⟩
    have b8 := b7.trans (hb8.mono b7.size)
    clear hb8 b7
    go_wp2_with fail
    go_ret
    exact .mk_ b8
theorem FnNameBad_any (A : Option Addr) (c : Nat) (bs : List Int) (w : World) (f1 : Row w w.heap.size A (bs.map (Value.int .u8))) (f2 : bs.length ≤ c) (f3 : c ≤ maxLen) (f4 : ∀ n ∈ bs, 0 ≤ n ∧ n < 256) :
    Calls Tryd.prog 4 #[.slice A bs.length c] w (Ret (.bool true) w) := by
  by_cases hl : bs.length ≤ 1048576
  · exact FnNameBad_yes A c bs w ⟨f1, f2, f3, f4⟩ hl
  · exact FnNameBad_no A c bs w ⟨f1, f2, f3, f4⟩ hl
theorem FnNameLong_no (A : Option Addr) (c : Nat) (bs : List Int) (w : World) (h : Code_ w A c bs) (hl : ¬ bs.length ≤ 1048576) :
    Calls Tryd.prog 5 #[.slice A bs.length c] w (Ret (.bool true) w) := by
  have hc := h.2.1
  have hm := h.2.2.1
  unfold maxLen at hm
  go_enter Tryd.func5, Tryd.ntmps5
  go_wp2
  go_ret
  exact .mk_ (Below.refl _ _)
set_option maxHeartbeats 4000000 in
theorem FnNameLong_yes (A : Option Addr) (c : Nat) (bs : List Int) (w : World) (h : Code_ w A c bs) (hl : bs.length ≤ 1048576) :
    Calls Tryd.prog 5 #[.slice A bs.length c] w (Ret (.bool true) w) := by
  go_enter Tryd.func5, Tryd.ntmps5
  go_wp2_with fail
  refine (DrawNameValid_any A c bs _ h).mono ?_
  rintro e w1 ⟨s, rfl, hs, b1⟩
  obtain ⟨v, hv⟩ := bool_of (Name (bl s))
  have HV := hid hv
  clear hv
  go_wp2_with fail
  refine (implNameValid_is v s _ HV.out (by unfold maxLen; omega)).mono ?_
  rintro e w2 ⟨rfl, hb2⟩
  have b2 := b1.trans (hb2.mono b1.size)
  go_wp2_with fail
  refine (specNameValid_is v s _ HV.out (by omega)).mono ?_
  rintro e w3 ⟨rfl, hb3⟩
  have b3 := b2.trans (hb3.mono b2.size)
  clear hb2 hb3 b1 b2
  cases v with
  | false =>
    go_wp2_with fail
    go_ret
    exact .mk_ b3
  | true =>
    have hn := HV.out.1 rfl
    have h12 : s.size ≤ 12 := by have := hn.1; rwa [bl_size] at this
    have e0 : decide ((s.size : Int) ≤ 12) = true := decide_eq_true (by omega)
    have z1 : (s ++ (⟨#[97]⟩ : ByteArray)).size ≤ maxLen := by rw [ByteArray.size_append, show (⟨#[97]⟩ : ByteArray).size = 1 from rfl]; unfold maxLen; omega
    have e97 : bl (s ++ (⟨#[97]⟩ : ByteArray)) = bl s ++ [97] := by rw [bl_append]; rfl
    clear HV
    by_cases hlt : s.size < 12
    · have e1 : decide ((s.size : Int) < 12) = true := decide_eq_true (by omega)
      have CA : Hid (∀ x, Calls Tryd.prog 15 #[.string (s ++ (⟨#[97]⟩ : ByteArray))] x (Ret (.bool true) x)) := fun x => valid_any _ (by rw [e97]; exact long_ok hn (by rw [bl_size]; exact hlt)) z1 x
      clear hn z1 e97
      go_wp2_with fail
      refine (CA.out _).mono ?_
      rintro e w4 ⟨rfl, hb4⟩
      have b4 := b3.trans (hb4.mono b3.size)
      go_wp2_with fail
      go_ret
      exact .mk_ b4
    · have e1 : decide ((s.size : Int) < 12) = false := decide_eq_false (by omega)
      have e2 : decide (s.size < 12) = false := decide_eq_false hlt
      have CA : Hid (∀ x, Calls Tryd.prog 15 #[.string (s ++ (⟨#[97]⟩ : ByteArray))] x (Ret (.bool false) x)) := fun x => invalid_any _ (by rw [e97]; exact long_no (by rw [bl_size]; exact hlt)) z1 x
      clear hn z1 e97
      go_wp2_with fail
      refine (CA.out _).mono ?_
      rintro e w4 ⟨rfl, hb4⟩
      have b4 := b3.trans (hb4.mono b3.size)
      go_wp2_with fail
      go_ret
      exact .mk_ b4
theorem FnNameLong_any (A : Option Addr) (c : Nat) (bs : List Int) (w : World) (f1 : Row w w.heap.size A (bs.map (Value.int .u8))) (f2 : bs.length ≤ c) (f3 : c ≤ maxLen) (f4 : ∀ n ∈ bs, 0 ≤ n ∧ n < 256) :
    Calls Tryd.prog 5 #[.slice A bs.length c] w (Ret (.bool true) w) := by
  by_cases hl : bs.length ≤ 1048576
  · exact FnNameLong_yes A c bs w ⟨f1, f2, f3, f4⟩ hl
  · exact FnNameLong_no A c bs w ⟨f1, f2, f3, f4⟩ hl
theorem match_any (p s : ByteArray) (h : Mat (bl p) (bl s)) (hp : p.size ≤ 1048600) (hs : s.size ≤ 1048600) (w : World) : Calls Tryd.prog 18 #[.string p, .string s] w (Ret (.bool true) w) := implNameMatches_is true p s w ⟨fun _ => h, fun _ => rfl⟩ hp hs
theorem nomatch_any (p s : ByteArray) (h : ¬ Mat (bl p) (bl s)) (hp : p.size ≤ 1048600) (hs : s.size ≤ 1048600) (w : World) : Calls Tryd.prog 18 #[.string p, .string s] w (Ret (.bool false) w) := implNameMatches_is false p s w ⟨(fun e => by cases e), fun e => absurd e h⟩ hp hs
theorem FnMatchSelf_no (A : Option Addr) (c : Nat) (bs : List Int) (w : World) (h : Code_ w A c bs) (hl : ¬ bs.length ≤ 1048576) :
    Calls Tryd.prog 6 #[.slice A bs.length c] w (Ret (.bool true) w) := by
  have hc := h.2.1
  have hm := h.2.2.1
  unfold maxLen at hm
  go_enter Tryd.func6, Tryd.ntmps6
  go_wp2
  go_ret
  exact .mk_ (Below.refl _ _)
set_option maxHeartbeats 4000000 in
theorem FnMatchSelf_yes (A : Option Addr) (c : Nat) (bs : List Int) (w : World) (h : Code_ w A c bs) (hl : bs.length ≤ 1048576) :
    Calls Tryd.prog 6 #[.slice A bs.length c] w (Ret (.bool true) w) := by
  go_enter Tryd.func6, Tryd.ntmps6
  go_wp2_with fail
  refine (DrawNameValid_any A c bs _ h).mono ?_
  rintro e w1 ⟨s, rfl, hs, b1⟩
  obtain ⟨v, hv⟩ := bool_of (Name (bl s))
  have HV := hid hv
  clear hv
  go_wp2_with fail
  refine (implNameValid_is v s _ HV.out (by unfold maxLen; omega)).mono ?_
  rintro e w2 ⟨rfl, hb2⟩
  have b2 := b1.trans (hb2.mono b1.size)
  go_wp2_with fail
  refine (specNameValid_is v s _ HV.out (by omega)).mono ?_
  rintro e w3 ⟨rfl, hb3⟩
  have b3 := b2.trans (hb3.mono b2.size)
  clear hb2 hb3 b1 b2
  cases v with
  | false =>
    go_wp2_with fail
    go_ret
    exact .mk_ b3
  | true =>
    have hn := HV.out.1 rfl
    have C1 : Hid (∀ x, Calls Tryd.prog 18 #[.string s, .string s] x (Ret (.bool true) x)) := fun x => match_any s s (mat_self hn) (by omega) (by omega) x
    have C2 : Hid (∀ x, Calls Tryd.prog 18 #[.string ⟨#[42]⟩, .string s] x (Ret (.bool true) x)) := fun x => match_any ⟨#[42]⟩ s (mat_star hn) (by decide) (by omega) x
    clear hn HV
    go_wp2_with fail
    refine (C1.out _).mono ?_
    rintro e w4 ⟨rfl, hb4⟩
    have b4 := b3.trans (hb4.mono b3.size)
    go_wp2_with fail
    refine (C2.out _).mono ?_
    rintro e w5 ⟨rfl, hb5⟩
    have b5 := b4.trans (hb5.mono b4.size)
    go_wp2_with fail
    go_ret
    exact .mk_ b5
theorem FnMatchSelf_any (A : Option Addr) (c : Nat) (bs : List Int) (w : World) (f1 : Row w w.heap.size A (bs.map (Value.int .u8))) (f2 : bs.length ≤ c) (f3 : c ≤ maxLen) (f4 : ∀ n ∈ bs, 0 ≤ n ∧ n < 256) :
    Calls Tryd.prog 6 #[.slice A bs.length c] w (Ret (.bool true) w) := by
  by_cases hl : bs.length ≤ 1048576
  · exact FnMatchSelf_yes A c bs w ⟨f1, f2, f3, f4⟩ hl
  · exact FnMatchSelf_no A c bs w ⟨f1, f2, f3, f4⟩ hl
end Go.Proofs.YtdjfglebnblfkaaDoor
