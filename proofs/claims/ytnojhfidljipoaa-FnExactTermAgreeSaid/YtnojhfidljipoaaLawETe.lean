/- The coordinator with the slices $SA and $SB is stored as the answer, with the word $BB. -/
/- Laws on coordinators: a coordinator is boxed. -/
/-
  Walks of the exact laws on TermDecide and TermAgree.
-/
import Derived.Test.YtnojhfidljipoaaTerI
namespace Go.Proofs.Ytnojhfidljipoaa
open Go.RowKit Wo Pu
set_option linter.unusedVariables false
set_option linter.unusedSimpArgs false

theorem Mine.intsT {w : World} {B g : Nat} {zs : List Int} (h : Mine w B 3 1 g zs.length (ints zs)) : Row w w.heap.size (some ⟨g, 0, none⟩) (ints zs) := h.row
theorem rowT {w w' : World} {A : Option Addr} {vs : List Value} (h : Row w w.heap.size A vs) (hb : Below w.heap.size w w') : Row w' w'.heap.size A vs := by
  rcases h.below hb (Nat.le_refl _) with h1 | ⟨ad, e, h1, h2⟩
  · exact .inl h1
  · exact .inr ⟨ad, e, Nat.lt_of_lt_of_le h1 hb.size, h2⟩
/- The two exact laws: $PRE fact, model's contract, program's contract. -/
set_option maxHeartbeats 4000000 in
theorem FnExactTermAgree_walk (A : Option Addr) (c : Nat) (zs : List Int) (w : World) (f1 : Row w w.heap.size A (ints zs)) (f2 : zs.length ≤ maxLen) :
    Calls Try.prog 9 #[.slice A zs.length c] w (Ret (.bool true) w) := by
  unfold maxLen at f2
  by_cases hn : zs.length ≤ 1048576
  · obtain ⟨v, hv⟩ := bool_of (StA zs); have HV := hid hv; clear hv
    go_enter Try.func9, Try.ntmps9
    go_wp2_with fail
    refine (toIntS_any _ A c zs _ f1 (Nat.le_refl _) hn).mono ?_
    rintro e w1 ⟨g1, rfl, m1, b1⟩
    have r1 := m1.intsT
    have s1 := rowT f1 b1
    go_wp2_with fail
    refine (specTermAgree_is v _ _ zs _ _ r1 (by omega) HV.out).mono ?_
    rintro e w2 ⟨rfl, rfl⟩
    go_wp2_with fail
    refine (toIntS_any _ A c zs _ s1 (Nat.le_refl _) hn).mono ?_
    rintro e w3 ⟨g3, rfl, m3, b3⟩
    have r3 := m3.intsT
    have s3 := rowT s1 b3
    have b4 := b1.trans (b3.mono b1.size)
    clear f1 m1 r1 s1 b1 b3 m3
    go_wp2_with fail
    refine (implTermAgree_is v _ _ zs _ _ r3 (by omega) HV.out).mono ?_
    rintro e w5 ⟨rfl, rfl⟩
    go_wp2_with fail
    refine (toIntS_any _ A c zs _ s3 (Nat.le_refl _) hn).mono ?_
    rintro e w6 ⟨g6, rfl, m6, d6⟩
    have r6 := rowT r3 d6
    have t6 := m6.intsT
    have b6 := b4.trans (d6.mono b4.size)
    clear r3 s3 b4 d6 m6 HV
    go_wp2_with fail
    refine (eqIntS_same _ _ _ _ _ _ zs _ r6 t6 (by unfold maxLen; omega)).mono ?_
    rintro e w7 ⟨rfl, d, rfl⟩
    go_wp2
    go_ret
    exact .mk_ (Wo.Below.drewN b6 _)
  · go_enter Try.func9, Try.ntmps9
    go_wp2
    go_ret
    exact .mk_ (Below.refl _ _)
set_option maxHeartbeats 4000000 in
theorem FnExactTermDecide_walk (A : Option Addr) (c : Nat) (zs : List Int) (w : World) (f1 : Row w w.heap.size A (ints zs)) (f2 : zs.length ≤ maxLen) :
    Calls Try.prog 8 #[.slice A zs.length c] w (Ret (.bool true) w) := by
  unfold maxLen at f2
  by_cases hn : zs.length ≤ 1048576
  · obtain ⟨v, hv⟩ := stD_ex zs; have HV := hid hv; clear hv
    go_enter Try.func8, Try.ntmps8
    go_wp2_with fail
    refine (toIntS_any _ A c zs _ f1 (Nat.le_refl _) hn).mono ?_
    rintro e w1 ⟨g1, rfl, m1, b1⟩
    have r1 := m1.intsT
    have s1 := rowT f1 b1
    go_wp2_with fail
    refine (specTermDecide_is v _ _ zs _ _ r1 (by omega) HV.out).mono ?_
    rintro e w2 ⟨rfl, rfl⟩
    go_wp2_with fail
    refine (toIntS_any _ A c zs _ s1 (Nat.le_refl _) hn).mono ?_
    rintro e w3 ⟨g3, rfl, m3, b3⟩
    have r3 := m3.intsT
    have s3 := rowT s1 b3
    have b4 := b1.trans (b3.mono b1.size)
    clear f1 m1 r1 s1 b1 b3 m3
    go_wp2_with fail
    refine (implTermDecide_is v _ _ zs _ _ r3 (by omega) HV.out).mono ?_
    rintro e w5 ⟨rfl, rfl⟩
    go_wp2_with fail
    refine (toIntS_any _ A c zs _ s3 (Nat.le_refl _) hn).mono ?_
    rintro e w6 ⟨g6, rfl, m6, d6⟩
    have r6 := rowT r3 d6
    have t6 := m6.intsT
    have b6 := b4.trans (d6.mono b4.size)
    clear r3 s3 b4 d6 m6 HV
    go_wp2_with fail
    refine (eqIntS_same _ _ _ _ _ _ zs _ r6 t6 (by unfold maxLen; omega)).mono ?_
    rintro e w7 ⟨rfl, d, rfl⟩
    go_wp2
    go_ret
    exact .mk_ (Wo.Below.drewN b6 _)
  · go_enter Try.func8, Try.ntmps8
    go_wp2
    go_ret
    exact .mk_ (Below.refl _ _)
end Go.Proofs.Ytnojhfidljipoaa
