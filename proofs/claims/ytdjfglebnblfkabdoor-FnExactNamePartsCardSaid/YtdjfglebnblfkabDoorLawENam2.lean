/-
  Walk of the exact law on NameParts.
-/
import Derived.Test.YtdjfglebnblfkabDoorNamV
namespace Go.Proofs.YtdjfglebnblfkabDoor
open Go.RowKit Wo Pu Nm

set_option maxHeartbeats 4000000 in
theorem FnExactNameParts_any (s : ByteArray) (w : World) (f1 : s.size ≤ maxLen) :
    Calls Tryd.prog 7 #[.string s] w (Ret (.bool true) w) := by
  have f2 := f1
  unfold maxLen at f2
  by_cases hs : s.size ≤ 1048576
  · obtain ⟨v, hv⟩ := bool_of (Name (bl s))
    obtain ⟨ts, hts⟩ : ∃ ts, partsOf s v = ts := ⟨_, rfl⟩
    have hn : ts.length ≤ 1048576 := by
      rw [← hts]
      cases v with
      | false => simp [partsOf]
      | true =>
        have := cutB_few s
        have h12 := ((name_iff s).1 (hv.1 rfl)).1
        rw [partsOf_true]
        omega
    have IM : Hid (∀ x, Calls Tryd.prog 13 #[.string s] x (TextsOf ts x)) := fun x => by subst hts; exact implNameParts_is v s x hv f1
    have SM : Hid (∀ x, Calls Tryd.prog 16 #[.string s] x (TextsOf ts x)) := fun x => by subst hts; exact specNameParts_is v s x hv (by omega)
    clear hts hv
    go_enter Tryd.func7, Tryd.ntmps7
    go_wp2_with fail
    refine (SM.out _).mono ?_
    rintro e w2 ⟨A2, c2, rfl, o2, b2⟩
    obtain ⟨A2', c2', e2, r2, hc2⟩ := o2.form2
    injection e2 with ea eb ec
    subst ea
    subst ec
    have zw := b2.size
    clear o2 SM eb
    go_wp2_with fail
    refine (IM.out _).mono ?_
    rintro e w3 ⟨A3, c3, rfl, o3, b3⟩
    obtain ⟨A3', c3', e3, r3, hc3⟩ := o3.form2
    injection e3 with ea eb ec
    subst ea
    subst ec
    have q3 := r2.below b3 (Nat.le_refl _)
    have b3' := b2.trans (b3.mono b2.size)
    have z3 := b3.size
    clear r2 b2 b3 eb
    go_wp2_with fail
    refine (eqStringS_ret A3 A2 c3 c2 ts w3 _ _ r3 q3 hn).mono ?_
    rintro e w4 ⟨rfl, b4⟩
    have o4 := o3.below b4 (Nat.le_refl _)
    have q4 := q3.below b4 z3
    have b4' := b3'.trans (b4.mono b3'.size)
    have z4 := Nat.le_trans z3 b4.size
    clear o3 q3 b3' b4 r3 z3
    go_wp2_with fail
    refine (markStringS_any w2.heap.size A3 c3 ts w4 o4 hn z4).mono ?_
    rintro e w5 ⟨rfl, r5, b5⟩
    have q5 := q4.below b5 (Nat.le_refl _)
    have b5' := b4'.trans (b5.mono zw)
    have z5 := Nat.le_trans z4 b5.size
    clear o4 q4 b4' b5 z4
    go_wp2_with fail
    refine (heldStringS_yes A3 c3 ts.length w5 r5 hn).mono ?_
    rintro e w6 ⟨rfl, b6⟩
    have r6 := (r5.below b6 (Nat.le_refl _)).more b6.size
    have q6 := q5.below b6 z5
    have b6' := b5'.trans (b6.mono b5'.size)
    have z6 := Nat.le_trans z5 b6.size
    clear r5 q5 b5' b6 z5
    go_wp2_with fail
    refine (IM.out _).mono ?_
    rintro e w7 ⟨A7, c7, rfl, o7, b7⟩
    obtain ⟨A7', c7', e7, p7, hc7⟩ := o7.form2
    injection e7 with ea eb ec
    subst ea
    subst ec
    have r7 := (r6.below b7 (Nat.le_refl _)).more b7.size
    have q7 := (q6.below b7 z6).more (Nat.le_trans z6 b7.size)
    have b7' := b6'.trans (b7.mono b6'.size)
    clear r6 q6 b6' b7 o7 eb
    go_wp2_with fail
    refine (eqStringS_ret A7 A2 c7 c2 ts w7 _ _ p7 q7 hn).mono ?_
    rintro e w8 ⟨rfl, b8⟩
    have r8 := (r7.below b8 (Nat.le_refl _)).more b8.size
    have b8' := b7'.trans (b8.mono b7'.size)
    clear r7 q7 b7' b8 p7
    go_wp2_with fail
    refine (heldStringS_yes A3 c3 ts.length w8 r8 hn).mono ?_
    rintro e w9 ⟨rfl, b9⟩
    go_wp2
    go_ret
    exact .mk_ (b8'.trans (b9.mono b8'.size))
  · go_enter Tryd.func7, Tryd.ntmps7
    go_wp2
    go_ret
    exact .mk_ (Below.refl _ _)
end Go.Proofs.YtdjfglebnblfkabDoor
