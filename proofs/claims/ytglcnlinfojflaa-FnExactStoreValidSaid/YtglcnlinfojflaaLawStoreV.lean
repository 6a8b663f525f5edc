/-
  Walk of the exact law on StoreValid.
-/
import Derived.Test.YtglcnlinfojflaaStoreV
namespace Go.Proofs.Ytglcnlinfojflaa
open Go.RowKit Wo Pu

set_option maxHeartbeats 4000000 in
theorem exactStoreValid_any (A : Option Addr) (c : Nat) (os : List Ob) (w : World) (h : Objs w w.heap.size A os) (hf : Fit os) (hn : os.length ≤ maxLen) :
    Calls Try.prog 10 #[.slice A os.length c] w (Ret (.bool true) w) := by
  go_enter Try.func10, Try.ntmps10
  go_wp2_with fail
  refine (szObjectS_any A c os 1048576 w h hf hn (by omega) (by omega)).mono ?_
  rintro e w1 ⟨r, rfl, hr, hb1⟩
  rcases hr with rfl | ⟨hr0, hre⟩
  · go_wp2
    go_ret
    exact .mk_ hb1
  · obtain ⟨hl, hsz⟩ := allSz_fits (os := os) (m := 1048576) (by omega)
    have hs1 : ∀ o ∈ os, o.zs.length ≤ 1048576 := fun o ho => (hsz o ho).1
    clear hre hsz
    go_wp2_with fail
    refine (toObjectS_any A c os w1 ((h.below hb1 (Nat.le_refl _)).more hb1.size) hl hs1).mono ?_
    rintro e w2 ⟨g2, rfl, hf2, hb2⟩
    have b2 := hb1.trans (hb2.mono hb1.size)
    clear hb2
    go_wp2_with fail
    refine (specStoreValid_any _ _ os w2 hf2.objs hf hn).mono ?_
    rintro e w3 ⟨rfl, hb3⟩
    have b3 := b2.trans (hb3.mono b2.size)
    clear hb3 hf2
    go_wp2_with fail
    refine (toObjectS_any A c os w3 ((h.below b3 (Nat.le_refl _)).more b3.size) hl hs1).mono ?_
    rintro e w4 ⟨g4, rfl, hf4, hb4⟩
    have b4 := b3.trans (hb4.mono b3.size)
    clear hb4
    go_wp2_with fail
    refine (implStoreValid_any _ _ os w4 hf4.objs hf hn).mono ?_
    rintro e w5 ⟨rfl, hb5⟩
    have b5 := b4.trans (hb5.mono b4.size)
    have hf5 := hf4.below hb5
    clear hb5 hf4
    go_wp2_with fail
    refine (toObjectS_any A c os w5 ((h.below b5 (Nat.le_refl _)).more b5.size) hl hs1).mono ?_
    rintro e w6 ⟨g6, rfl, hf6, hb6⟩
    have b6 := b5.trans (hb6.mono b5.size)
    have hf56 := hf5.below hb6
    clear hb6
    go_wp2_with fail
    refine (eqObjectS_same _ _ _ _ os w6 hf56.objs hf6.objs hl hs1).mono ?_
    rintro e w7 ⟨rfl, hb7⟩
    go_wp2
    go_ret
    exact .mk_ (b6.trans (hb7.mono b6.size))
end Go.Proofs.Ytglcnlinfojflaa
