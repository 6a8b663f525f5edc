/-
  Walks of the laws on what is read of bytes.
-/
import Derived.Test.YtclonfhpabdpgaaLogU
import Derived.Test.YtclonfhpabdpgaaLogN
import Derived.Deep.RegionHeld3
import Derived.BigRegion
namespace Go.Proofs.Ytclonfhpabdpgaa
open Go.RowKit Wo Pu Lg

theorem FnScan_no (A : Option Addr) (c : Nat) (bs : List Int) (w : World) (h : Code_ w A c bs) (hl : ¬ bs.length ≤ 1048576) :
    Calls Try.prog 6 #[.slice A bs.length c] w (Ret (.bool true) w) := by
  have hc := h.2.1
  have hm := h.2.2.1
  unfold maxLen at hm
  go_enter Try.func6, Try.ntmps6
  go_wp2
  go_ret
  exact .mk_ (Below.refl _ _)
set_option maxHeartbeats 4000000 in
theorem FnScan_yes (A : Option Addr) (c : Nat) (bs : List Int) (w : World) (h : Code_ w A c bs) (hl : bs.length ≤ 1048576) :
    Calls Try.prog 6 #[.slice A bs.length c] w (Ret (.bool true) w) := by
  go_enter Try.func6, Try.ntmps6
  go_wp2_with fail
  refine (DrawLogScan_any A c bs _ h).mono ?_
  rintro e w1 ⟨s, rfl, hs, b1⟩
  have hsm : s.size ≤ 1048576 := by omega
  go_wp2_with fail
  refine (implLogScan_any s _ hsm).mono ?_
  rintro e w2 ⟨v2, rfl, o2, bb2⟩
  have b2 := b1.trans (bb2.mono b1.size)
  obtain ⟨A2, c2, rfl, r2⟩ := o2.form
  have HU2 := hid o2
  have hts := texts_few s
  have hus := used_few s
  have hfit := texts_fit (L := bl s)
  obtain ⟨n, hn⟩ : ∃ n, used (bl s) = n := ⟨_, rfl⟩
  obtain ⟨ts, hT⟩ : ∃ ts, texts (bl s) = ts := ⟨_, rfl⟩
  have HN := hid hn
  have HT := hid hT
  rw [hT] at hts hfit r2
  rw [hn] at hus
  simp only [hn, hT]
  clear b1 bb2 o2 HU2
  go_wp2_with fail
  refine (specLogScan_any s _ hsm).mono ?_
  rintro e w3 ⟨v3, rfl, o3, bb3⟩
  have b3 := b2.trans (bb3.mono b2.size)
  obtain ⟨A3, c3, rfl, r3⟩ := o3.form
  rw [hT] at r3
  simp only [hn, hT]
  have r23 := (r2.below bb3 (Nat.le_refl _)).more bb3.size
  clear b2 bb3 o3 r2 hn hT
  have hlm : ts.length ≤ maxLen := by unfold maxLen; omega
  go_wp2_with fail
  refine (sameTexts_ret A2 A3 c2 c3 ts _ r23 r3 hlm).mono ?_
  rintro e w4 ⟨rfl, bb4⟩
  have b4 := b3.trans (bb4.mono b3.size)
  have r4 := (r23.below bb4 (Nat.le_refl _)).more bb4.size
  clear b3 bb4 r23 r3
  have HF := hid (fl_texts s)
  have HZ := hid (fl_texts_size s)
  have HFIT := hid hfit
  clear hfit
  go_wp2_with fail
  go_loopw [8, 9] (fun x i wr => ∃ (k : Nat) (t : ByteArray), k ≤ ts.length ∧ i = .int .i64 k ∧ x = .string t ∧ Hid (t = fl (ts.take k)) ∧ t.size ≤ n ∧ Row wr wr.heap.size A2 (txts ts) ∧ Below w.heap.size w wr) (fun _ i _ => ts.length - (intOf i).toNat)
  case atStart => exact ⟨0, ⟨#[]⟩, Nat.zero_le _, rfl, rfl, fl_nil.symm, Nat.zero_le _, r4, b4⟩
  case round =>
    clear r4 b4
    obtain ⟨k, t, hk, rfl, rfl, HX, htn, hr, hb⟩ := hrel
    by_cases hlt : k < ts.length
    · obtain ⟨ad, rfl, hab, hc⟩ := hr.str_ hlt
      have hf := HFIT.out _ (List.getElem_mem hlt)
      have HS : Hid (t ++ frameB ts[k] = fl (ts.take (k + 1))) := by show _ = _; rw [fl_step hlt hf, HX.out]
      have hsz : (t ++ frameB ts[k]).size ≤ n := by
        rw [HS.out, ← HN.out, ← HZ.out, HT.out]
        exact fl_size ts (k + 1)
      have hx : ts[k].size ≤ maxLen := by unfold maxLen; omega
      have hc1 := fun W => implLogFrame_any ts[k] W hx
      rw [ByteArray.size_append] at hsz
      obtain ⟨F, hF⟩ : ∃ F, frameB ts[k] = F := ⟨_, rfl⟩
      rw [hF] at hc1 hsz HS
      have HC1 := hid hc1
      clear hc1 hF hf HX
      obtain ⟨x, hxx⟩ : ∃ x, ts[k] = x := ⟨_, rfl⟩
      rw [hxx] at hc HC1
      clear hx hxx
      go_wp2_with fail
      refine (HC1.out _).mono ?_
      rintro e w5 ⟨rfl, bb5⟩
      have hr5 := (hr.below bb5 (Nat.le_refl _)).more bb5.size
      have hb5 := hb.trans (bb5.mono hb.size)
      have hsz' : (t ++ F).size ≤ n := by rw [ByteArray.size_append]; exact hsz
      clear hr hb bb5 HC1
      go_wp2_with fail
      go_roundw
      case rel => exact ⟨k + 1, t ++ F, by omega, by go_num, rfl, HS.out, hsz', hr5, hb5⟩
      case measure => simp [intOf]; omega
    · have hk' : k = ts.length := by omega
      subst hk'
      have ht : t = s.extract 0 n := by rw [HX.out, List.take_length, ← HT.out, HF.out, HN.out]
      subst ht
      clear HX htn
      go_wp2
      go_ret
      exact .mk_ hb
theorem FnScan_any (A : Option Addr) (c : Nat) (bs : List Int) (w : World) (f1 : Row w w.heap.size A (bs.map (Value.int .u8))) (f2 : bs.length ≤ c) (f3 : c ≤ maxLen) (f4 : ∀ n ∈ bs, 0 ≤ n ∧ n < 256) :
    Calls Try.prog 6 #[.slice A bs.length c] w (Ret (.bool true) w) := by
  by_cases hl : bs.length ≤ 1048576
  · exact FnScan_yes A c bs w ⟨f1, f2, f3, f4⟩ hl
  · exact FnScan_no A c bs w ⟨f1, f2, f3, f4⟩ hl
theorem FnScanAgain_no (A : Option Addr) (c : Nat) (bs : List Int) (w : World) (h : Code_ w A c bs) (hl : ¬ bs.length ≤ 1048576) :
    Calls Try.prog 8 #[.slice A bs.length c] w (Ret (.bool true) w) := by
  have hc := h.2.1
  have hm := h.2.2.1
  unfold maxLen at hm
  go_enter Try.func8, Try.ntmps8
  go_wp2
  go_ret
  exact .mk_ (Below.refl _ _)
set_option maxHeartbeats 4000000 in
theorem FnScanAgain_yes (A : Option Addr) (c : Nat) (bs : List Int) (w : World) (h : Code_ w A c bs) (hl : bs.length ≤ 1048576) :
    Calls Try.prog 8 #[.slice A bs.length c] w (Ret (.bool true) w) := by
  go_enter Try.func8, Try.ntmps8
  go_wp2_with fail
  refine (DrawLogScan_any A c bs _ h).mono ?_
  rintro e w1 ⟨s, rfl, hs, b1⟩
  have hsm : s.size ≤ 1048576 := by omega
  go_wp2_with fail
  refine (implLogScan_any s _ hsm).mono ?_
  rintro e w2 ⟨v2, rfl, o2, bb2⟩
  have b2 := b1.trans (bb2.mono b1.size)
  obtain ⟨A2, c2, rfl, r2⟩ := o2.form
  have HU2 := hid o2
  have hts := texts_few s
  have hus := used_few s
  have hfit := texts_fit (L := bl s)
  obtain ⟨n, hn⟩ : ∃ n, used (bl s) = n := ⟨_, rfl⟩
  obtain ⟨ts, hT⟩ : ∃ ts, texts (bl s) = ts := ⟨_, rfl⟩
  have HN := hid hn
  have HT := hid hT
  rw [hT] at hts hfit r2
  rw [hn] at hus
  simp only [hn, hT]
  clear b1 bb2 o2 HU2
  go_wp2_with fail
  refine (specLogScan_any s _ hsm).mono ?_
  rintro e w3 ⟨v3, rfl, o3, bb3⟩
  have b3 := b2.trans (bb3.mono b2.size)
  obtain ⟨A3, c3, rfl, r3⟩ := o3.form
  rw [hT] at r3
  simp only [hn, hT]
  have r23 := (r2.below bb3 (Nat.le_refl _)).more bb3.size
  clear b2 bb3 o3 r2 hn hT
  have hlm : ts.length ≤ maxLen := by unfold maxLen; omega
  go_wp2_with fail
  refine (sameTexts_ret A2 A3 c2 c3 ts _ r23 r3 hlm).mono ?_
  rintro e w4 ⟨rfl, bb4⟩
  have b4 := b3.trans (bb4.mono b3.size)
  have r4 := (r23.below bb4 (Nat.le_refl _)).more bb4.size
  clear b3 bb4 r23 r3
  obtain ⟨a1, a2⟩ := again_scan s
  rw [HN.out, HT.out] at a1
  rw [HN.out] at a2
  have H1 := hid a1
  have H2 := hid a2
  have hx : (s.extract 0 n).size ≤ 1048576 := by rw [ByteArray.size_extract]; omega
  clear a1 a2 hfit
  go_wp2_with fail
  refine (implLogScan_any (s.extract 0 n) _ hx).mono ?_
  rintro e w5 ⟨v5, rfl, o5, bb5⟩
  obtain ⟨A5, c5, rfl, r5⟩ := o5.form
  rw [H1.out] at r5 ⊢
  rw [H2.out]
  have q5 := (r4.below bb5 (Nat.le_refl _)).more bb5.size
  have b5 := b4.trans (bb5.mono b4.size)
  clear o5 r4 b4 bb5
  go_wp2_with fail
  refine (sameTexts_ret A5 A2 c5 c2 ts _ r5 q5 hlm).mono ?_
  rintro e w6 ⟨rfl, bb6⟩
  go_wp2
  go_ret
  exact .mk_ (b5.trans (bb6.mono b5.size))
theorem FnScanAgain_any (A : Option Addr) (c : Nat) (bs : List Int) (w : World) (f1 : Row w w.heap.size A (bs.map (Value.int .u8))) (f2 : bs.length ≤ c) (f3 : c ≤ maxLen) (f4 : ∀ n ∈ bs, 0 ≤ n ∧ n < 256) :
    Calls Try.prog 8 #[.slice A bs.length c] w (Ret (.bool true) w) := by
  by_cases hl : bs.length ≤ 1048576
  · exact FnScanAgain_yes A c bs w ⟨f1, f2, f3, f4⟩ hl
  · exact FnScanAgain_no A c bs w ⟨f1, f2, f3, f4⟩ hl
end Go.Proofs.Ytclonfhpabdpgaa
