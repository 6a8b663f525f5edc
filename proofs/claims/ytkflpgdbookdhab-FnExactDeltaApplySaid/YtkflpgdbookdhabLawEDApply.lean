/-
  Walk of the exact law on DeltaApply.
-/
import Derived.Test.YtkflpgdbookdhabApplyS
import Derived.Test.YtkflpgdbookdhabLawEDSize
namespace Go.Proofs.Ytkflpgdbookdhab
open Go.RowKit Wo Pu

set_option maxHeartbeats 4000000 in
theorem exactDeltaApply_any (base : ByteArray) (A : Option Addr) (c : Nat) (os : List Op2) (w : World) (g1 : base.size ≤ maxLen) (f1 : Row w w.heap.size A (opsV os)) (f2 : Wide2 os) (f3 : os.length ≤ maxLen) :
    Calls Try.prog 13 #[.string base, .slice A os.length c] w (Ret (.bool true) w) := by
  unfold maxLen at g1
  by_cases hbs : base.size ≤ 1048576
  · go_enter Try.func13, Try.ntmps13
    go_wp2_with fail
    refine (szOpS_any A c os 1048576 _ f1 (fun o ho => (f2 o ho).1) f3 (by omega) (by omega)).mono ?_
    rintro e w1 ⟨r, rfl, hr, b1⟩
    by_cases h0 : r < 0
    · go_wp2
      go_ret
      exact .mk_ b1
    · obtain ⟨hf, hn, ht⟩ := f2.fits (size_fits hr h0)
      have implA := fun A c w h => implDeltaApply_any A c os base w h hn hf hbs
      have specA := fun A c w h => specDeltaApply_any A c os base w h hn hf hbs
      unfold Applied at implA specA
      generalize dRes base os = s at *
      generalize dOk base os = b at *
      have r1 := (f1.below b1 (Nat.le_refl _)).more b1.size
      clear hr f2 f3
      go_wp2_with fail
      refine (toOpS_any A c os _ r1 hn).mono ?_
      rintro e w2 ⟨g2, rfl, m2, b2⟩
      have b2' := b1.trans (b2.mono b1.size)
      have r2 := (r1.below b2 (Nat.le_refl _)).more b2.size
      have s2 := m2.ops
      clear r1 b1 b2 m2
      go_wp2_with fail
      refine (specA _ _ _ s2).mono ?_
      rintro e w3 ⟨rfl, b3⟩
      have b3' := b2'.trans (b3.mono b2'.size)
      have r3 := (r2.below b3 (Nat.le_refl _)).more b3.size
      clear r2 b3 b2' s2
      go_wp2_with fail
      refine (toOpS_any A c os _ r3 hn).mono ?_
      rintro e w4 ⟨g4, rfl, m4, b4⟩
      have b4' := b3'.trans (b4.mono b3'.size)
      have r4 := (r3.below b4 (Nat.le_refl _)).more b4.size
      have s4 := m4.ops
      clear r3 b4 b3' m4
      go_wp2_with fail
      refine (implA _ _ _ s4).mono ?_
      rintro e w5 ⟨rfl, b5⟩
      have b5' := b4'.trans (b5.mono b4'.size)
      have r5 := (r4.below b5 (Nat.le_refl _)).more b5.size
      have s5 := (s4.below b5 (Nat.le_refl _)).more b5.size
      clear r4 b5 b4' s4
      cases b
      all_goals
        go_wp2_with fail
        refine (toOpS_any A c os _ r5 hn).mono ?_
        rintro e w6 ⟨g6, rfl, m6, b6⟩
        have b6' := b5'.trans (b6.mono b5'.size)
        have s6 := (s5.below b6 (Nat.le_refl _)).more b6.size
        have t6 := m6.ops
        clear r5 b6 b5' s5 m6
        go_wp2_with fail
        refine (eqOpS_same _ _ _ _ os _ s6 t6 hn).mono ?_
        rintro e w7 ⟨rfl, b7⟩
        go_wp2
        go_ret
        exact .mk_ (b6'.trans (b7.mono b6'.size))
  · go_enter Try.func13, Try.ntmps13
    go_wp2
    go_ret
    exact .mk_ (Below.refl _ _)
end Go.Proofs.Ytkflpgdbookdhab
