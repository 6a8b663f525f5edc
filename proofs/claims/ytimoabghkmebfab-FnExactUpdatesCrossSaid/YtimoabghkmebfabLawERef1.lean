/-
  Walks of the exact laws on RefsValid, UpdatesValid and UpdatesCross.
-/
import Derived.Test.YtimoabghkmebfabRefW
import Derived.Test.YtimoabghkmebfabRefM
import Derived.Test.YtimoabghkmebfabRefX
namespace Go.Proofs.Ytimoabghkmebfab
open Go.RowKit Wo Pu Rf

theorem Mine.ints_ {w : World} {B g : Nat} {zs : List Int} (h : Mine w B 3 1 g zs.length (ints zs)) : Row w w.heap.size (some ⟨g, 0, none⟩) (ints zs) := h.row
theorem Mine.ups_ {w : World} {B g : Nat} {us : List Up} (h : Mine w B 52 3 g us.length (upsV us)) : Row w w.heap.size (some ⟨g, 0, none⟩) (upsV us) := h.row
set_option maxHeartbeats 4000000 in
theorem exactRefsValid_any (A : Option Addr) (c : Nat) (zs : List Int) (w : World) (f1 : Row w w.heap.size A (ints zs)) (f2 : zs.length ≤ maxLen) :
    Calls Try.prog 6 #[.slice A zs.length c] w (Ret (.bool true) w) := by
  unfold maxLen at f2
  by_cases hn : zs.length ≤ 1048576
  · obtain ⟨v, hv⟩ := bool_of (RV zs)
    have HV := hid hv
    clear hv
    go_enter Try.func6, Try.ntmps6
    go_wp2_with fail
    refine (toIntS_any _ A c zs _ f1 (Nat.le_refl _) hn).mono ?_
    rintro e w1 ⟨g1, rfl, m1, b1⟩
    have r1 := m1.ints_
    have s1 := f1.on b1
    go_wp2_with fail
    refine (specRefsValid_is v _ _ zs _ _ r1 (by omega) HV.out).mono ?_
    rintro e w2 ⟨rfl, rfl⟩
    go_wp2_with fail
    refine (toIntS_any _ A c zs _ s1 (Nat.le_refl _) hn).mono ?_
    rintro e w3 ⟨g3, rfl, m3, b3⟩
    have r3 := m3.ints_
    have s3 := s1.on b3
    have b4 := b1.trans (b3.mono b1.size)
    clear f1 m1 r1 s1 b1 b3 m3
    go_wp2_with fail
    refine (implRefsValid_is v _ _ zs _ _ r3 (by omega) HV.out).mono ?_
    rintro e w5 ⟨rfl, d5⟩
    have r5 := r3.on d5
    have s5 := s3.on d5
    have b5 := b4.trans (d5.mono b4.size)
    clear r3 s3 b4 d5 HV
    go_wp2_with fail
    refine (toIntS_any _ A c zs _ s5 (Nat.le_refl _) hn).mono ?_
    rintro e w6 ⟨g6, rfl, m6, d6⟩
    have r6 := r5.on d6
    have t6 := m6.ints_
    have b6 := b5.trans (d6.mono b5.size)
    clear r5 s5 b5 d6 m6
    go_wp2_with fail
    refine (eqIntS_ret _ _ _ _ zs _ _ _ r6 t6 (by unfold maxLen; omega)).mono ?_
    rintro e w7 ⟨rfl, d7⟩
    go_wp2
    go_ret
    exact .mk_ (b6.trans (d7.mono b6.size))
  · go_enter Try.func6, Try.ntmps6
    go_wp2
    go_ret
    exact .mk_ (Below.refl _ _)
set_option maxHeartbeats 4000000 in
theorem exactUpdatesValid_any (A : Option Addr) (c : Nat) (us : List Up) (w : World) (f1 : Row w w.heap.size A (upsV us)) (f2 : us.length ≤ maxLen) :
    Calls Try.prog 7 #[.slice A us.length c] w (Ret (.bool true) w) := by
  have f3 := f2
  unfold maxLen at f3
  go_enter Try.func7, Try.ntmps7
  by_cases hn : us.length ≤ 1048576
  · obtain ⟨v, hv⟩ := bool_of (UV us)
    have HV := hid hv
    clear hv
    go_wp2_with fail
    refine (szUpdateS_yes A us.length c 1048576 _ f2 (by omega) (by omega) (by omega)).mono ?_
    rintro e w0 ⟨rfl, rfl⟩
    have e0 : decide ((1048576 : Int) - (us.length : Int) < 0) = false := decide_eq_false (by omega)
    go_wp2_with fail
    refine (toUpdateS_any A c us _ f1 hn).mono ?_
    rintro e w1 ⟨g1, rfl, m1, b1⟩
    have r1 := m1.ups_
    have s1 := f1.on b1
    go_wp2_with fail
    refine (specUpdatesValid_is v _ _ us _ r1 (by omega) HV.out).mono ?_
    rintro e w2 ⟨rfl, d2⟩
    have s2 := s1.on d2
    have b2 := b1.trans (d2.mono b1.size)
    clear m1 r1 s1 b1 d2 f1
    go_wp2_with fail
    refine (toUpdateS_any A c us _ s2 hn).mono ?_
    rintro e w3 ⟨g3, rfl, m3, b3⟩
    have r3 := m3.ups_
    have s3 := s2.on b3
    have b4 := b2.trans (b3.mono b2.size)
    clear s2 b2 b3 m3
    go_wp2_with fail
    refine (implUpdatesValid_is v _ _ us _ r3 (by omega) HV.out).mono ?_
    rintro e w5 ⟨rfl, d5⟩
    have r5 := r3.on d5
    have s5 := s3.on d5
    have b5 := b4.trans (d5.mono b4.size)
    clear r3 s3 b4 d5 HV
    go_wp2_with fail
    refine (toUpdateS_any A c us _ s5 hn).mono ?_
    rintro e w6 ⟨g6, rfl, m6, d6⟩
    have r6 := r5.on d6
    have t6 := m6.ups_
    have b6 := b5.trans (d6.mono b5.size)
    clear r5 s5 b5 d6 m6
    go_wp2_with fail
    refine (eqUpdateS_same _ _ _ _ us _ r6 t6 hn).mono ?_
    rintro e w7 ⟨rfl, d7⟩
    go_wp2
    go_ret
    exact .mk_ (b6.trans (d7.mono b6.size))
  · go_wp2_with fail
    refine (szUpdateS_no A us.length c 1048576 _ f2 (by omega) (by omega) (by omega)).mono ?_
    rintro e w0 ⟨rfl, rfl⟩
    go_wp2
    go_ret
    exact .mk_ (Below.refl _ _)
set_option maxHeartbeats 4000000 in
theorem exactUpdatesCross_any (A : Option Addr) (c : Nat) (us : List Up) (A2 : Option Addr) (c2 : Nat) (vs : List Up) (w : World) (f1 : Row w w.heap.size A (upsV us)) (f2 : us.length ≤ maxLen) (g1 : Row w w.heap.size A2 (upsV vs)) (g2 : vs.length ≤ maxLen) :
    Calls Try.prog 10 #[.slice A us.length c, .slice A2 vs.length c2] w (Ret (.bool true) w) := by
  have f3 := f2
  unfold maxLen at f3
  have g3 := g2
  unfold maxLen at g3
  go_enter Try.func10, Try.ntmps10
  by_cases hn : us.length ≤ 1048576
  · go_wp2_with fail
    refine (szUpdateS_yes A us.length c 1048576 _ f2 (by omega) (by omega) (by omega)).mono ?_
    rintro e w0 ⟨rfl, rfl⟩
    have e0 : decide ((1048576 : Int) - (us.length : Int) < 0) = false := decide_eq_false (by omega)
    by_cases hm : vs.length + us.length ≤ 1048576
    · obtain ⟨v, hv⟩ := bool_of (Cross us vs)
      have HV := hid hv
      clear hv
      go_wp2_with fail
      refine (szUpdateS_yes A2 vs.length c2 (1048576 - (us.length : Int)) _ g2 (by omega) (by omega) (by omega)).mono ?_
      rintro e w0 ⟨rfl, rfl⟩
      have e1 : decide ((1048576 : Int) - (us.length : Int) - (vs.length : Int) < 0) = false := decide_eq_false (by omega)
      have hnv : vs.length ≤ 1048576 := by omega
      clear f2 g2
      go_wp2_with fail
      refine (toUpdateS_any A c us _ f1 hn).mono ?_
      rintro e w1 ⟨k1, rfl, m1, d1⟩
      have r1 := m1.ups_
      have f1' := f1.on d1
      have g1' := g1.on d1
      clear f1 g1
      go_wp2_with fail
      refine (toUpdateS_any A2 c2 vs _ g1' hnv).mono ?_
      rintro e w2 ⟨k2, rfl, m2, d2⟩
      have r2 := r1.on d2
      have s2 := m2.ups_
      have f2 := f1'.on d2
      have g2 := g1'.on d2
      have b2 := d1.trans (d2.mono d1.size)
      clear f1' g1' r1 m1 d1 d2 m2
      go_wp2_with fail
      refine (specUpdatesCross_is v _ _ _ _ us vs _ r2 s2 (by omega) (by omega) HV.out).mono ?_
      rintro e w3 ⟨rfl, d3⟩
      have f3 := f2.on d3
      have g3 := g2.on d3
      have b3 := b2.trans (d3.mono b2.size)
      clear r2 s2 f2 g2 b2 d3
      go_wp2_with fail
      refine (toUpdateS_any A c us _ f3 hn).mono ?_
      rintro e w4 ⟨k4, rfl, m4, d4⟩
      have r4 := m4.ups_
      have f4 := f3.on d4
      have g4 := g3.on d4
      have b4 := b3.trans (d4.mono b3.size)
      clear f3 g3 m4 d4 b3
      go_wp2_with fail
      refine (toUpdateS_any A2 c2 vs _ g4 hnv).mono ?_
      rintro e w5 ⟨k5, rfl, m5, d5⟩
      have r5 := r4.on d5
      have s5 := m5.ups_
      have f5 := f4.on d5
      have g5 := g4.on d5
      have b5 := b4.trans (d5.mono b4.size)
      clear r4 f4 g4 m5 d5 b4
      go_wp2_with fail
      refine (implUpdatesCross_is v _ _ _ _ us vs _ r5 s5 (by omega) (by omega) HV.out).mono ?_
      rintro e w6 ⟨rfl, d6⟩
      have r6 := r5.on d6
      have s6 := s5.on d6
      have f6 := f5.on d6
      have g6 := g5.on d6
      have b6 := b5.trans (d6.mono b5.size)
      clear r5 s5 f5 g5 d6 b5 HV
      go_wp2_with fail
      refine (toUpdateS_any A c us _ f6 hn).mono ?_
      rintro e w7 ⟨k7, rfl, m7, d7⟩
      have r7 := r6.on d7
      have s7 := s6.on d7
      have t7 := m7.ups_
      have g7 := g6.on d7
      have b7 := b6.trans (d7.mono b6.size)
      clear r6 s6 f6 g6 d7 b6 m7
      go_wp2_with fail
      refine (eqUpdateS_same _ _ _ _ us _ r7 t7 hn).mono ?_
      rintro e w8 ⟨rfl, d8⟩
      have s8 := s7.on d8
      have g8 := g7.on d8
      have b8 := b7.trans (d8.mono b7.size)
      clear r7 s7 t7 g7 d8 b7
      go_wp2_with fail
      refine (toUpdateS_any A2 c2 vs _ g8 hnv).mono ?_
      rintro e w9 ⟨k9, rfl, m9, d9⟩
      have s9 := s8.on d9
      have t9 := m9.ups_
      have b9 := b8.trans (d9.mono b8.size)
      clear s8 g8 m9 d9 b8
      go_wp2_with fail
      refine (eqUpdateS_same _ _ _ _ vs _ s9 t9 hnv).mono ?_
      rintro e w10 ⟨rfl, d10⟩
      go_wp2
      go_ret
      exact .mk_ (b9.trans (d10.mono b9.size))
    · go_wp2_with fail
      refine (szUpdateS_no A2 vs.length c2 (1048576 - (us.length : Int)) _ g2 (by omega) (by omega) (by omega)).mono ?_
      rintro e w0 ⟨rfl, rfl⟩
      go_wp2
      go_ret
      exact .mk_ (Below.refl _ _)
  · go_wp2_with fail
    refine (szUpdateS_no A us.length c 1048576 _ f2 (by omega) (by omega) (by omega)).mono ?_
    rintro e w0 ⟨rfl, rfl⟩
    go_wp2
    go_ret
    exact .mk_ (Below.refl _ _)
end Go.Proofs.Ytimoabghkmebfab
