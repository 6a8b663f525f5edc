/-
  Walks of the exact laws on names that answer a bool.
-/
import Derived.Test.YtdjfglebnblfkabDoorNamO
import Derived.Test.YtdjfglebnblfkabDoorNamX
namespace Go.Proofs.YtdjfglebnblfkabDoor
open Go.RowKit Wo Pu Nm

set_option maxHeartbeats 4000000 in
theorem FnExactNameValid_any (s : ByteArray) (w : World) (f1 : s.size ≤ maxLen) :
    Calls Tryd.prog 6 #[.string s] w (Ret (.bool true) w) := by
  have f2 := f1
  unfold maxLen at f2
  by_cases hs : s.size ≤ 1048576
  · obtain ⟨v, hv⟩ := bool_of (Name (bl s))
    have HV := hid hv
    clear hv
    go_enter Tryd.func6, Tryd.ntmps6
    go_wp2_with fail
    refine (specNameValid_is v s _ HV.out (by omega)).mono ?_
    rintro e w2 ⟨rfl, b2⟩
    go_wp2_with fail
    refine (implNameValid_is v s _ HV.out f1).mono ?_
    rintro e w3 ⟨rfl, b3⟩
    have b4 := b2.trans (b3.mono b2.size)
    clear b2 b3 HV
    cases v with
    | true =>
      go_wp2_with fail
      go_ret
      exact .mk_ b4
    | false =>
      go_wp2_with fail
      go_ret
      exact .mk_ b4
  · go_enter Tryd.func6, Tryd.ntmps6
    go_wp2
    go_ret
    exact .mk_ (Below.refl _ _)
set_option maxHeartbeats 4000000 in
theorem FnExactNameMatches_any (p s : ByteArray) (w : World) (f1 : p.size ≤ maxLen) (g1 : s.size ≤ maxLen) :
    Calls Tryd.prog 8 #[.string p, .string s] w (Ret (.bool true) w) := by
  have f2 := f1
  have g2 := g1
  unfold maxLen at f2 g2
  by_cases hp : p.size ≤ 1048576
  · by_cases hs : s.size ≤ 1048576
    · obtain ⟨v, hv⟩ := bool_of (Mat (bl p) (bl s))
      have HV := hid hv
      clear hv
      go_enter Tryd.func8, Tryd.ntmps8
      go_wp2_with fail
      refine (specNameMatches_is v p s _ HV.out (by omega) (by omega)).mono ?_
      rintro e w2 ⟨rfl, b2⟩
      go_wp2_with fail
      refine (implNameMatches_is v p s _ HV.out (by omega) (by omega)).mono ?_
      rintro e w3 ⟨rfl, b3⟩
      have b4 := b2.trans (b3.mono b2.size)
      clear b2 b3 HV
      cases v with
      | true =>
        go_wp2_with fail
        go_ret
        exact .mk_ b4
      | false =>
        go_wp2_with fail
        go_ret
        exact .mk_ b4
    · go_enter Tryd.func8, Tryd.ntmps8
      go_wp2
      go_ret
      exact .mk_ (Below.refl _ _)
  · go_enter Tryd.func8, Tryd.ntmps8
    go_wp2
    go_ret
    exact .mk_ (Below.refl _ _)
set_option maxHeartbeats 4000000 in
theorem FnExactNameClashes_any (p s : ByteArray) (w : World) (f1 : p.size ≤ maxLen) (g1 : s.size ≤ maxLen) :
    Calls Tryd.prog 9 #[.string p, .string s] w (Ret (.bool true) w) := by
  have f2 := f1
  have g2 := g1
  unfold maxLen at f2 g2
  by_cases hp : p.size ≤ 1048576
  · by_cases hs : s.size ≤ 1048576
    · obtain ⟨v, hv⟩ := bool_of (Cla (bl p) (bl s))
      have HV := hid hv
      clear hv
      go_enter Tryd.func9, Tryd.ntmps9
      go_wp2_with fail
      refine (specNameClashes_is v p s _ HV.out (by omega) (by omega)).mono ?_
      rintro e w2 ⟨rfl, b2⟩
      go_wp2_with fail
      refine (implNameClashes_is v p s _ HV.out (by unfold maxLen; omega) (by unfold maxLen; omega)).mono ?_
      rintro e w3 ⟨rfl, b3⟩
      have b4 := b2.trans (b3.mono b2.size)
      clear b2 b3 HV
      cases v with
      | true =>
        go_wp2_with fail
        go_ret
        exact .mk_ b4
      | false =>
        go_wp2_with fail
        go_ret
        exact .mk_ b4
    · go_enter Tryd.func9, Tryd.ntmps9
      go_wp2
      go_ret
      exact .mk_ (Below.refl _ _)
  · go_enter Tryd.func9, Tryd.ntmps9
    go_wp2
    go_ret
    exact .mk_ (Below.refl _ _)
end Go.Proofs.YtdjfglebnblfkabDoor
