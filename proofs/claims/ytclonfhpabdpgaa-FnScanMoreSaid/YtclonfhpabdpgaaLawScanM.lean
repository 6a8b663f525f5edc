/-
  Walks of the laws on what is read of more and of fewer bytes.
-/
import Derived.Test.YtclonfhpabdpgaaLogU
import Derived.Test.YtclonfhpabdpgaaLogN
import Derived.Deep.RegionHeld3
import Derived.BigRegion
import Derived.Deep.Cut
namespace Go.Proofs.Ytclonfhpabdpgaa
open Go.RowKit Wo Pu Lg

theorem FnScanMore_no (A : Option Addr) (c : Nat) (bs : List Int) (A' : Option Addr) (c' : Nat) (bs' : List Int) (w : World) (h : Code_ w A c bs) (h' : Code_ w A' c' bs') (hl : ¬ (bs.length ≤ 1048576 ∧ bs'.length ≤ 1048576)) :
    Calls Try.prog 7 #[.slice A bs.length c, .slice A' bs'.length c'] w (Ret (.bool true) w) := by
  have hc := h.2.1
  have hm := h.2.2.1
  have hc' := h'.2.1
  have hm' := h'.2.2.1
  unfold maxLen at hm hm'
  by_cases h1 : bs.length ≤ 1048576
  · have h2 : ¬ bs'.length ≤ 1048576 := fun e => hl ⟨h1, e⟩
    clear hl
    go_enter Try.func7, Try.ntmps7
    go_wp2
    go_ret
    exact .mk_ (Below.refl _ _)
  · clear hl
    go_enter Try.func7, Try.ntmps7
    go_wp2
    go_ret
    exact .mk_ (Below.refl _ _)
set_option maxHeartbeats 4000000 in
theorem FnScanMore_yes (A : Option Addr) (c : Nat) (bs : List Int) (A' : Option Addr) (c' : Nat) (bs' : List Int) (w : World) (h : Code_ w A c bs) (_h' : Code_ w A' c' bs') (hl : bs.length ≤ 1048576) (hl' : bs'.length ≤ 1048576) :
    Calls Try.prog 7 #[.slice A bs.length c, .slice A' bs'.length c'] w (Ret (.bool true) w) := by
  obtain ⟨i0, hi, hz0, hz1, hz2⟩ := info_of info_str
  obtain ⟨b, hb⟩ := wrap_byte (bs'.length : Int)
  have cv := conv_at _ b rfl
  go_enter Try.func7, Try.ntmps7
  go_wp2_with fail
  refine (DrawLogScan_any A c bs _ h).mono ?_
  rintro e w1 ⟨s, rfl, hs, b1⟩
  have hsm : s.size ≤ 1048576 := by omega
  go_wp2_with fail
  refine (implLogScan_any s _ hsm).mono ?_
  rintro e w2 ⟨v2, rfl, o2, bb2⟩
  have b2 := b1.trans (bb2.mono b1.size)
  obtain ⟨A2, c2, rfl, r2, hc2⟩ := o2.form2
  have hts := texts_few s
  have hus := used_few s
  have hfit := texts_fit (L := bl s)
  obtain ⟨n, hn⟩ : ∃ n, used (bl s) = n := ⟨_, rfl⟩
  obtain ⟨ts, hT⟩ : ∃ ts, texts (bl s) = ts := ⟨_, rfl⟩
  have HN := hid hn
  have HT := hid hT
  rw [hT] at hts hfit r2 hc2
  rw [hn] at hus
  simp only [hn, hT]
  clear b1 bb2 o2
  go_wp2_with fail
  refine (specLogScan_any s _ hsm).mono ?_
  rintro e w3 ⟨v3, rfl, o3, bb3⟩
  have b3 := b2.trans (bb3.mono b2.size)
  obtain ⟨A3, c3, rfl, r3⟩ := o3.form
  rw [hT] at r3
  simp only [hn, hT]
  have r23 := (r2.below bb3 (Nat.le_refl _)).more bb3.size
  clear b2 bb3 o3 r2 hn hT
  have hlm : ts.length ≤ maxLen := by unfold maxLen; omega
  go_wp2_with fail
  refine (sameTexts_ret A2 A3 c2 c3 ts _ r23 r3 hlm).mono ?_
  rintro e w4 ⟨rfl, bb4⟩
  have b4 := b3.trans (bb4.mono b3.size)
  have r4 := (r23.below bb4 (Nat.le_refl _)).more bb4.size
  clear b3 bb4 r23 r3
  clear hfit
  have hr2 : ((⟨#[114]⟩ : ByteArray) ++ mk [b]).size = 2 := by rw [ByteArray.size_append]; rfl
  have hz1' : (mk [b]).size = 1 := rfl
  go_upto_region 9 with fail
  obtain ⟨r, hr⟩ : ∃ r, (⟨#[114]⟩ : ByteArray) ++ mk [b] = r := ⟨_, rfl⟩
  rw [hr] at hr2
  simp only [hr]
  obtain ⟨m1, m2⟩ := more_scan s (r := r) (by omega)
  have hFs := frameB_size (s := r) (by omega)
  have hfr := fun W => implLogFrame_any r W (by unfold maxLen; omega)
  rw [HN.out, HT.out] at m1
  rw [HN.out] at m2
  obtain ⟨us, hus⟩ : ∃ us, ts ++ [r] = us := ⟨_, rfl⟩
  obtain ⟨F, hF⟩ : ∃ F, frameB r = F := ⟨_, rfl⟩
  rw [hF] at m1 m2 hFs hfr
  rw [hus] at m1
  have HFR := hid hfr
  have hul : us.length = ts.length + 1 := by rw [← hus, List.length_append]; rfl
  have HUS := hid hus
  have HM1 := hid m1
  have HM2 := hid m2
  obtain ⟨z, hz⟩ : ∃ z, n + r.size + 2 = z := ⟨_, rfl⟩
  rw [hz] at HM2
  have HZZ := hid hz
  have hum : us.length ≤ maxLen := by unfold maxLen; omega
  have hnx : (s.extract 0 n).size = n := by rw [ByteArray.size_extract]; omega
  have hx : (s.extract 0 n ++ F).size ≤ 1048576 := by rw [ByteArray.size_append]; omega
  have hadd : ¬ 9223372036854775807 < (s.extract 0 n).size + F.size := by omega
  have hadd2 : ¬ 9223372036854775807 < n + F.size := by omega
  have hadd3 : ¬ 9223372036854775807 < min n s.size + F.size := by omega
  have q0 : (n : Int) ≤ (s.size : Int) := by omega
  have r9 := r4.alloc (Nat.le_refl _) (.cells #[.int .u8 (b.toNat : Int)] 5)
  have b9 := b4.alloc b4.size (.cells #[.int .u8 (b.toNat : Int)] 5)
  have HR2 := hid hr2
  have hF4 : F.size ≤ 4 := by omega
  have hadd4 : ¬ (9223372036854775807 : Int) < (n : Int) + (F.size : Int) := by omega
  clear cv hb hr hz1' hfr hF hus m1 m2 r4 b4 hFs hz hr2
  have r9 := r9.more (B' := (w4.alloc (.cells #[.int .u8 (b.toNat : Int)] 5)).heap.size) (by simp)
  generalize w4.alloc (.cells #[.int .u8 (b.toNat : Int)] 5) = W at *
  go_region_held3 (fun _ => True) (trivial)
    (first
      | (go_at_call 18; (with_reducible refine (implLogScan_is (s.extract 0 n ++ F) us z w5 hx HM1.out HM2.out).mono ?_); rintro e w6 ⟨A6, c6, rfl, q6, hc6, bb6⟩; have r6 := (r5.below bb6 (Nat.le_refl _)).more bb6.size; have b6 := b5.trans (bb6.mono b5.size))
      | (go_at_call 16; (with_reducible refine (HFR.out W.drew).mono ?_); rintro e w5 ⟨rfl, bb5⟩; have r5 := (r9.below (w := W.drew) bb5 (Nat.le_refl _)).more bb5.size; have b5 := b9.trans (Below.trans ((Below.refl _ _).drew) (bb5.mono b9.size))))
  have hul0 : us.length = 0 + ts.length + 1 := by omega
  have HEQ : Hid ([] ++ txts ts ++ [.string r] = txts us) := by show _ = _; rw [← HUS.out]; simp [txts]
  have nA := nil_own (w := w6) (Nat.le_refl _) 9 1
  have rA := r6.alloc (Nat.le_refl _) (.cells #[] 9)
  have hsrt := fun (X : World) (hX : Below w6.heap.size w6 X) (A' : Option Addr) (c' : Nat) (hr' : Row X X.heap.size A' (txts us)) => sameTexts_ret A6 A' c6 c' us X ((q6.below hX (Nat.le_refl _)).more hX.size) hr' hum
  rw [hul] at hsrt
  have HSRT := hid hsrt
  have hr2 := HR2.out
  have hzz : (z : Int) = (n : Int) + 2 + 2 := by have := HZZ.out; omega
  clear hsrt q6 r6 r5 b5 r9 b9 bb5 bb6 hum hadd hadd2 hadd3 hadd4 hx hnx
  go_wp2_with (at_builtin; first
    | (refine wpList_append_own _ rfl _ _ 25 rfl w6.heap.size 9 i0 (.string ⟨#[]⟩) 1 16 Try.underlying25 hi hz0 hz1 hz2 rfl (by decide) _ (0 + ts.length) ([] ++ txts ts) rfl (World.ownsRow.alloc o8 _) ⟨w8.heap.size, 0, none⟩ 1 1 [.string r] rfl rfl (cell_one_new _ _ _) (one_str _) (by unfold maxLen; omega) (by omega) (by simp; omega) ?_; intro v9 w9 o9 g9 _)
    | (refine wpList_append_row _ rfl _ _ 25 rfl w6.heap.size 9 i0 (.string ⟨#[]⟩) 1 16 Try.underlying25 hi hz0 hz1 hz2 rfl (by decide) _ 0 [] rfl nA w6.heap.size A2 ts.length c2 (txts ts) rfl rA (by rw [txts_length]; omega) (txts_cells _) (by unfold maxLen; omega) (by omega) (by simp) ?_; intro v8 w8 o8 g8; have d8 : Below w6.heap.size w6 w8 := ((Below.refl _ w6).alloc (Nat.le_refl _) _).grown g8 (by simp) (fun j hj => (World.ownsRow.lt nA j hj).1); have z8 := d8.size))
  have p9 : OwnT w9 w6.heap.size v9 us := by
    unfold OwnT
    rw [hul0]
    rw [HEQ.out] at o9
    exact o9
  obtain ⟨A9, c9, rfl, r9, -⟩ := p9.form2
  have d9 : Below w6.heap.size w6 w9 := (d8.alloc z8 _).grown g9 (by simp; omega) (fun j hj => (World.ownsRow.lt o8 j hj).1)
  have hfin := HSRT.out w9 d9 A9 c9 r9
  clear HSRT o9 p9 o8 g8 g9 nA rA
  rw [hul]
  refine hfin.mono ?_
  rintro e w10 ⟨rfl, bb10⟩
  go_wp2
  go_ret
  exact .mk_ ((b6.trans (d9.mono b6.size)).trans (bb10.mono (Nat.le_trans b6.size d9.size)))
theorem FnScanMore_any (A : Option Addr) (c : Nat) (bs : List Int) (A' : Option Addr) (c' : Nat) (bs' : List Int) (w : World) (f1 : Row w w.heap.size A (bs.map (Value.int .u8))) (f2 : bs.length ≤ c) (f3 : c ≤ maxLen) (f4 : ∀ n ∈ bs, 0 ≤ n ∧ n < 256) (g1 : Row w w.heap.size A' (bs'.map (Value.int .u8))) (g2 : bs'.length ≤ c') (g3 : c' ≤ maxLen) (g4 : ∀ n ∈ bs', 0 ≤ n ∧ n < 256) :
    Calls Try.prog 7 #[.slice A bs.length c, .slice A' bs'.length c'] w (Ret (.bool true) w) := by
  by_cases hl : bs.length ≤ 1048576 ∧ bs'.length ≤ 1048576
  · exact FnScanMore_yes A c bs A' c' bs' w ⟨f1, f2, f3, f4⟩ ⟨g1, g2, g3, g4⟩ hl.1 hl.2
  · exact FnScanMore_no A c bs A' c' bs' w ⟨f1, f2, f3, f4⟩ ⟨g1, g2, g3, g4⟩ hl
end Go.Proofs.Ytclonfhpabdpgaa
