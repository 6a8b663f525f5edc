/-
  Walks of the laws on what is read of more and of fewer bytes.
-/
import Derived.Test.YtclonfhpabdpgabLogU
import Derived.Test.YtclonfhpabdpgabLogN
import Derived.Deep.RegionHeld3
import Derived.BigRegion
import Derived.Deep.Cut
namespace Go.Proofs.Ytclonfhpabdpgab
open Go.RowKit Wo Pu Lg

theorem FnScanPart_no (A : Option Addr) (c : Nat) (bs : List Int) (A' : Option Addr) (c' : Nat) (bs' : List Int) (w : World) (h : Code_ w A c bs) (h' : Code_ w A' c' bs') (hl : ¬ (bs.length ≤ 1048576 ∧ bs'.length ≤ 1048576)) :
    Calls Try.prog 4 #[.slice A bs.length c, .slice A' bs'.length c'] w (Ret (.bool true) w) := by
  have hc := h.2.1
  have hm := h.2.2.1
  have hc' := h'.2.1
  have hm' := h'.2.2.1
  unfold maxLen at hm hm'
  by_cases h1 : bs.length ≤ 1048576
  · have h2 : ¬ bs'.length ≤ 1048576 := fun e => hl ⟨h1, e⟩
    clear hl
    go_enter Try.func4, Try.ntmps4
    go_wp2
    go_ret
    exact .mk_ (Below.refl _ _)
  · clear hl
    go_enter Try.func4, Try.ntmps4
    go_wp2
    go_ret
    exact .mk_ (Below.refl _ _)
set_option maxHeartbeats 4000000 in
theorem FnScanPart_yes (A : Option Addr) (c : Nat) (bs : List Int) (A' : Option Addr) (c' : Nat) (bs' : List Int) (w : World) (h : Code_ w A c bs) (_h' : Code_ w A' c' bs') (hl : bs.length ≤ 1048576) (hl' : bs'.length ≤ 1048576) :
    Calls Try.prog 4 #[.slice A bs.length c, .slice A' bs'.length c'] w (Ret (.bool true) w) := by
  go_enter Try.func4, Try.ntmps4
  go_wp2_with fail
  refine (DrawLogScan_any A c bs _ h).mono ?_
  rintro e w1 ⟨s, rfl, hs, b1⟩
  have hsm : s.size ≤ 1048576 := by omega
  go_wp2_with fail
  refine (implLogScan_any s _ hsm).mono ?_
  rintro e w2 ⟨v2, rfl, o2, bb2⟩
  have b2 := b1.trans (bb2.mono b1.size)
  obtain ⟨A2, c2, rfl, r2, hc2⟩ := o2.form2
  have hts := texts_few s
  have hus := used_few s
  have hfit := texts_fit (L := bl s)
  obtain ⟨n, hn⟩ : ∃ n, used (bl s) = n := ⟨_, rfl⟩
  obtain ⟨ts, hT⟩ : ∃ ts, texts (bl s) = ts := ⟨_, rfl⟩
  have HN := hid hn
  have HT := hid hT
  rw [hT] at hts hfit r2 hc2
  rw [hn] at hus
  simp only [hn, hT]
  clear b1 bb2 o2
  go_wp2_with fail
  refine (specLogScan_any s _ hsm).mono ?_
  rintro e w3 ⟨v3, rfl, o3, bb3⟩
  have b3 := b2.trans (bb3.mono b2.size)
  obtain ⟨A3, c3, rfl, r3⟩ := o3.form
  rw [hT] at r3
  simp only [hn, hT]
  have r23 := (r2.below bb3 (Nat.le_refl _)).more bb3.size
  clear b2 bb3 o3 r2 hn hT
  have hlm : ts.length ≤ maxLen := by unfold maxLen; omega
  go_wp2_with fail
  refine (sameTexts_ret A2 A3 c2 c3 ts _ r23 r3 hlm).mono ?_
  rintro e w4 ⟨rfl, bb4⟩
  have b4 := b3.trans (bb4.mono b3.size)
  have r4 := (r23.below bb4 (Nat.le_refl _)).more bb4.size
  clear b3 bb4 r23 r3
  clear hfit
  obtain ⟨K, hK⟩ : ∃ K, K = bs'.length % (s.size + 1) := ⟨_, rfl⟩
  have hkn : K < s.size + 1 := by rw [hK]; exact Nat.mod_lt _ (by omega)
  have hKi : (bs'.length : Int) % ((s.size : Int) + 1) = (K : Int) := by rw [hK, Int.natCast_emod, Int.natCast_add]; rfl
  obtain ⟨m, m1, m2, m3⟩ := part_scan s K
  rw [HT.out] at m1 m2
  rw [HN.out] at m3
  obtain ⟨us, hus⟩ : ∃ us, ts.take m = us := ⟨_, rfl⟩
  obtain ⟨u, hu⟩ : ∃ u, used (bl (s.extract 0 K)) = u := ⟨_, rfl⟩
  have hul : us.length = m := by rw [← hus, List.length_take]; omega
  rw [hu] at m3
  rw [hus] at m2
  have H2 := hid m2
  have HU := hid hu
  have r5 := row_txts_take r4 m
  rw [hus] at r5
  have hk0 : 0 ≤ (bs'.length : Int) % ((s.size : Int) + 1) := by omega
  have hk1 : (bs'.length : Int) % ((s.size : Int) + 1) ≤ (s.size : Int) := by omega
  have hk2 : ((bs'.length : Int) % ((s.size : Int) + 1)).toNat = K := by omega
  have hx : (s.extract 0 K).size ≤ 1048576 := by rw [ByteArray.size_extract]; omega
  have hum : us.length ≤ maxLen := by unfold maxLen; omega
  clear hK hKi hu m2 hus
  go_wp2_with fail
  refine (implLogScan_any (s.extract 0 K) _ hx).mono ?_
  rintro e w5 ⟨v5, rfl, o5, bb5⟩
  obtain ⟨A5, c5, rfl, q5⟩ := o5.form
  rw [H2.out] at q5 ⊢
  rw [HU.out]
  have r6 := (r5.below bb5 (Nat.le_refl _)).more bb5.size
  have b5 := b4.trans (bb5.mono b4.size)
  have hmc : m ≤ c2 := by omega
  have hum2 := sameTexts_ret A5 A2 c5 c2 us w5 q5 r6 hum
  rw [hul] at hum2
  clear o5 r4 b4 bb5 hk0 hk1 hk2
  go_wp2_with fail
  refine hum2.mono ?_
  rintro e w6 ⟨rfl, bb6⟩
  go_wp2
  go_ret
  exact .mk_ (b5.trans (bb6.mono b5.size))
theorem FnScanPart_any (A : Option Addr) (c : Nat) (bs : List Int) (A' : Option Addr) (c' : Nat) (bs' : List Int) (w : World) (f1 : Row w w.heap.size A (bs.map (Value.int .u8))) (f2 : bs.length ≤ c) (f3 : c ≤ maxLen) (f4 : ∀ n ∈ bs, 0 ≤ n ∧ n < 256) (g1 : Row w w.heap.size A' (bs'.map (Value.int .u8))) (g2 : bs'.length ≤ c') (g3 : c' ≤ maxLen) (g4 : ∀ n ∈ bs', 0 ≤ n ∧ n < 256) :
    Calls Try.prog 4 #[.slice A bs.length c, .slice A' bs'.length c'] w (Ret (.bool true) w) := by
  by_cases hl : bs.length ≤ 1048576 ∧ bs'.length ≤ 1048576
  · exact FnScanPart_yes A c bs A' c' bs' w ⟨f1, f2, f3, f4⟩ ⟨g1, g2, g3, g4⟩ hl.1 hl.2
  · exact FnScanPart_no A c bs A' c' bs' w ⟨f1, f2, f3, f4⟩ ⟨g1, g2, g3, g4⟩ hl
end Go.Proofs.Ytclonfhpabdpgab
