/-
  Walk of the exact law on DeltaSize.
-/
import Derived.Test.YtkflpgdbookdhabHelps
import Derived.Test.YtkflpgdbookdhabOpenD
namespace Go.Proofs.Ytkflpgdbookdhab
open Go.RowKit Wo Pu

theorem Wide2.fits {os : List Op2} (h : Wide2 os) (m : dsz os ≤ 1048576) : Fit2 os ∧ os.length ≤ 1048576 ∧ tsz os os.length ≤ 1048576 := by
  unfold dsz at m
  refine ⟨fun o ho => ?_, by omega, by omega⟩
  obtain ⟨_, h2⟩ := h o ho
  refine ⟨?_, h2⟩
  obtain ⟨i, hi, rfl⟩ := List.mem_iff_getElem.1 ho
  have := tsz_ge hi
  omega
theorem Mine.ops {w : World} {B g : Nat} {os : List Op2} (h : Mine w B 33 3 g os.length (opsV os)) : Row w w.heap.size (some ⟨g, 0, none⟩) (opsV os) := h.row
/-- What szOpS says. -/
theorem size_fits {tot : Nat} {r : Int} (h : r = -1 ∨ (0 ≤ r ∧ r = 1048576 - (tot : Int))) (h0 : ¬ r < 0) : tot ≤ 1048576 := by omega

set_option maxHeartbeats 4000000 in
theorem exactDeltaSize_any (A : Option Addr) (c : Nat) (os : List Op2) (w : World) (f1 : Row w w.heap.size A (opsV os)) (f2 : Wide2 os) (f3 : os.length ≤ maxLen) :
    Calls Try.prog 15 #[.slice A os.length c] w (Ret (.bool true) w) := by
  go_enter Try.func15, Try.ntmps15
  go_wp2_with fail
  refine (szOpS_any A c os 1048576 _ f1 (fun o ho => (f2 o ho).1) f3 (by omega) (by omega)).mono ?_
  rintro e w1 ⟨r, rfl, hr, b1⟩
  by_cases h0 : r < 0
  · go_wp2
    go_ret
    exact .mk_ b1
  · obtain ⟨hf, hn, ht⟩ := f2.fits (size_fits hr h0)
    have r1 := (f1.below b1 (Nat.le_refl _)).more b1.size
    clear hr f2 f3
    go_wp2_with fail
    refine (toOpS_any A c os _ r1 hn).mono ?_
    rintro e w2 ⟨g2, rfl, m2, b2⟩
    have b2' := b1.trans (b2.mono b1.size)
    have r2 := (r1.below b2 (Nat.le_refl _)).more b2.size
    have s2 := m2.ops
    clear r1 b1 b2 m2
    go_wp2_with fail
    refine (specDeltaSize_any _ _ os _ s2 hn ht).mono ?_
    rintro e w3 ⟨rfl, rfl⟩
    go_wp2_with fail
    refine (toOpS_any A c os _ r2 hn).mono ?_
    rintro e w4 ⟨g4, rfl, m4, b4⟩
    have b4' := b2'.trans (b4.mono b2'.size)
    have r4 := (r2.below b4 (Nat.le_refl _)).more b4.size
    have s4 := m4.ops
    clear r2 b4 b2' s2 m4
    go_wp2_with fail
    refine (implDeltaSize_any _ _ os _ s4 hn ht).mono ?_
    rintro e w5 ⟨rfl, b5⟩
    have b5' := b4'.trans (b5.mono b4'.size)
    have r5 := (r4.below b5 (Nat.le_refl _)).more b5.size
    have s5 := (s4.below b5 (Nat.le_refl _)).more b5.size
    clear r4 b5 b4' s4
    go_wp2_with fail
    refine (toOpS_any A c os _ r5 hn).mono ?_
    rintro e w6 ⟨g6, rfl, m6, b6⟩
    have b6' := b5'.trans (b6.mono b5'.size)
    have s6 := (s5.below b6 (Nat.le_refl _)).more b6.size
    have t6 := m6.ops
    clear r5 b6 b5' s5 m6
    go_wp2_with fail
    refine (eqOpS_same _ _ _ _ os _ s6 t6 hn).mono ?_
    rintro e w7 ⟨rfl, b7⟩
    go_wp2
    go_ret
    exact .mk_ (b6'.trans (b7.mono b6'.size))
end Go.Proofs.Ytkflpgdbookdhab
