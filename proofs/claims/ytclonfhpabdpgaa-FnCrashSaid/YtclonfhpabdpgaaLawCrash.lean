/-
  Walk of the law that a crash keeps a beginning.
-/
import Derived.Test.YtclonfhpabdpgaaLogW
import Derived.Deep.RegionHeld3
import Derived.BigQuiet
namespace Go.Proofs.Ytclonfhpabdpgaa
open Go.RowKit Wo Pu Lg

theorem FnCrash_no (A : Option Addr) (c : Nat) (bs : List Int) (w : World) (h : Code_ w A c bs) (hl : ¬ bs.length ≤ 1048576) :
    Calls Try.prog 12 #[.slice A bs.length c] w (Ret (.bool true) w) := by
  have hc := h.2.1
  have hm := h.2.2.1
  unfold maxLen at hm
  go_enter Try.func12, Try.ntmps12
  go_wp2
  go_ret
  exact .mk_ (Below.refl _ _)
set_option maxHeartbeats 4000000 in
theorem FnCrash_yes (A : Option Addr) (c : Nat) (bs : List Int) (w : World) (h : Code_ w A c bs) (hl : bs.length ≤ 1048576) :
    Calls Try.prog 12 #[.slice A bs.length c] w (Ret (.bool true) w) := by
  go_enter Try.func12, Try.ntmps12
  go_wp2_with fail
  refine (DrawLogCrash_any A c bs _ h).mono ?_
  rintro e w1 ⟨s, y, k, rfl, hs, y0, y1, k0, k1, b1⟩
  have hsm : s.size ≤ maxLen := by unfold maxLen; omega
  have hkm : k ≤ 9223372036854775807 := by omega
  obtain ⟨t, z, hA⟩ := crO_agg s y k
  have c1 := fun W => implLogCrash_any s y k W hsm hkm
  have c2 := fun W => specLogCrash_any s y k W hsm hkm
  rw [hA] at c1 c2
  have C1 := hid c1
  have C2 := hid c2
  have HA := hid hA
  clear hA c1 c2
  have a1 := b1.alloc b1.size (.cells #[.string s, .int .i64 y] 32)
  have u1 := Blk2.new_ w1 32 (.string s) (.int .i64 y)
  obtain ⟨d0, d1, -⟩ := u1.reads
  go_wp2_with fail
  refine (C1.out _).mono ?_
  rintro e w2 ⟨rfl, hb2⟩
  have b2 := Below.trans (a1) (Below.mono hb2 (Below.size (a1)))
  have u2 := (u1.later hb2).alloc (.cells #[.string t, .int .i64 z] 32)
  have v2 := Blk2.new_ w2 32 (.string t) (.int .i64 z)
  have a2 := b2.alloc b2.size (.cells #[.string t, .int .i64 z] 32)
  clear d0 d1 u1 b1 a1 hb2
  obtain ⟨d0, d1, -⟩ := u2.reads
  go_wp2_with fail
  refine (C2.out _).mono ?_
  rintro e w3 ⟨rfl, hb3⟩
  have b3 := Below.trans (a2) (Below.mono hb3 (Below.size (a2)))
  have u3 := (u2.later hb3).alloc (.cells #[.string t, .int .i64 z] 32)
  have v3 := (v2.later hb3).alloc (.cells #[.string t, .int .i64 z] 32)
  have x3 := Blk2.new_ w3 32 (.string t) (.int .i64 z)
  have a3 := b3.alloc b3.size (.cells #[.string t, .int .i64 z] 32)
  clear d0 d1 u2 v2 b2 a2 hb3 C1 C2
  obtain ⟨d0, d1, -⟩ := id u3.reads
  obtain ⟨p0, p1, -⟩ := id v3.reads
  obtain ⟨q0, q1, -⟩ := id x3.reads
  by_cases hv : Vd s y
  ·
    go_wp2_with fail
    refine (specDiskValid_is true s y _ hsm (decide_eq_true hv)).mono ?_
    rintro e w4 ⟨rfl, hb4⟩
    have b4 := Below.trans (a3) (Below.mono hb4 (Below.size (a3)))
    have u4 := u3.later hb4
    have v4 := v3.later hb4
    have x4 := x3.later hb4
    clear d0 d1 p0 p1 q0 q1 u3 v3 x3
    obtain ⟨d0, d1, -⟩ := id u4.reads
    obtain ⟨p0, p1, -⟩ := id v4.reads
    obtain ⟨q0, q1, -⟩ := id x4.reads
    by_cases hk : k < 0
    · have ek : decide (k < 0) = true := decide_eq_true hk
      clear hk
      go_wp2
      go_ret
      exact .mk_ b4
    · have ek : decide (k < 0) = false := decide_eq_false hk
      obtain ⟨n, u, h1, h2, h3, h4, ht, rfl⟩ := crO_eq HA.out hv (by omega)
      have hts : t.size = u := by rw [ht]; exact cr_size s (by omega)
      have hvt : Vd t (u : Nat) := by rw [ht]; exact cr_valid hv (by omega)
      obtain ⟨hv1, hv2, hv3⟩ := id hv
      obtain ⟨m, rfl⟩ := Int.eq_ofNat_of_zero_le hv2
      have hmn : m ≤ n := by rw [← h1]; unfold crN; omega
      obtain ⟨j, j1, j2, j3⟩ := part_scan s n
      obtain ⟨i, i1, i2, i3⟩ := part_texts s hmn
      have hto := (cr_texts s h4 h3).1
      rw [← ht, j2] at hto
      rw [j2, List.length_take] at i1
      obtain ⟨ts, hTS⟩ : ∃ ts, texts (bl s) = ts := ⟨_, rfl⟩
      rw [hTS] at j1 hto i1
      obtain ⟨us, hUS⟩ : ∃ us, ts.take j = us := ⟨_, rfl⟩
      have hul : us.length = j := by rw [← hUS, List.length_take]; omega
      rw [hUS] at hto
      obtain ⟨os, hOS⟩ : ∃ os, texts (bl (s.extract 0 m)) = os := ⟨_, rfl⟩
      rw [hOS] at i3
      have hol : os.length ≤ j := by omega
      have HTS := hid hTS
      have HTO := hid hto
      have HUS := hid hUS
      have HOS := hid hOS
      have htl : ts.length ≤ 1048576 := by have := texts_few s; rw [hTS] at this; omega
      have hx : (s.extract 0 m).size ≤ 1048576 := by rw [ByteArray.size_extract]; omega
      have hut : t.size ≤ 1048576 := by omega
      have hy : (m : Int) ≤ (s.size : Int) := by omega
      have CV := hid (fun W => implDiskValid_is true t (u : Nat) W (by unfold maxLen; omega) (decide_eq_true hvt))
      clear h1 h2 h3 h4 ht hvt hv2 hv3 hmn j2 j3 i1 i2 i3 hto hTS hUS hOS hv hk y0 y1 HA
      go_wp2_with fail
      refine (recordsOf_is s m ts _ (by omega) HTS.out).mono ?_
      rintro e w5 ⟨A5, c5, rfl, r5, hc5, hb5⟩
      have b5 := b4.trans (hb5.mono b4.size)
      have u5 := u4.later hb5
      have v5 := v4.later hb5
      have x5 := x4.later hb5
      clear d0 d1 p0 p1 q0 q1 u4 v4 x4
      obtain ⟨d0, d1, -⟩ := id u5.reads
      obtain ⟨p0, p1, -⟩ := id v5.reads
      obtain ⟨q0, q1, -⟩ := id x5.reads
      clear b4
      go_wp2_with fail
      refine (recordsOf_is t u us _ hut HTO.out).mono ?_
      rintro e w6 ⟨A6, c6, rfl, r6, hc6, hb6⟩
      have b6 := b5.trans (hb6.mono b5.size)
      have s6 := (r5.below hb6 (Nat.le_refl _)).more hb6.size
      have u6 := u5.later hb6
      have v6 := v5.later hb6
      have x6 := x5.later hb6
      clear d0 d1 p0 p1 q0 q1 u5 v5 x5
      obtain ⟨d0, d1, -⟩ := id u6.reads
      obtain ⟨p0, p1, -⟩ := id v6.reads
      obtain ⟨q0, q1, -⟩ := id x6.reads
      clear b5 r5
      go_wp2_with fail
      refine (implLogScan_is (s.extract 0 m) os _ _ hx HOS.out rfl).mono ?_
      rintro e w7 ⟨A7, c7, rfl, r7, hc7, hb7⟩
      have b7 := b6.trans (hb7.mono b6.size)
      have s7 := row_txts_take ((s6.below hb7 (Nat.le_refl _)).more hb7.size) j
      rw [HUS.out] at s7
      have q7 := (r6.below hb7 (Nat.le_refl _)).more hb7.size
      have u7 := u6.later hb7
      have v7 := v6.later hb7
      have x7 := x6.later hb7
      clear d0 d1 p0 p1 q0 q1 u6 v6 x6
      obtain ⟨d0, d1, -⟩ := id u7.reads
      obtain ⟨p0, p1, -⟩ := id v7.reads
      obtain ⟨q0, q1, -⟩ := id x7.reads
      clear b6 s6 r6 r7
      have hjc : j ≤ c5 := by omega
      have hst := sameTexts_ret A6 A5 c6 c5 us w7 q7 s7 (by unfold maxLen; omega)
      rw [hul] at hst
      go_wp2_with fail
      refine hst.mono ?_
      rintro e w8 ⟨rfl, hb8⟩
      have b8 := b7.trans (hb8.mono b7.size)
      have u8 := u7.later hb8
      have v8 := v7.later hb8
      have x8 := x7.later hb8
      clear d0 d1 p0 p1 q0 q1 u7 v7 x7
      obtain ⟨d0, d1, -⟩ := id u8.reads
      obtain ⟨p0, p1, -⟩ := id v8.reads
      obtain ⟨q0, q1, -⟩ := id x8.reads
      clear b7 q7 s7 hst
      go_wp2_with fail
      refine (CV.out _).mono ?_
      rintro e w9 ⟨rfl, hb9⟩
      have b9 := Below.trans (b8) (Below.mono hb9 (Below.size (b8)))
      go_wp2
      go_ret
      exact .mk_ b9
  ·
    go_wp2_with fail
    refine (specDiskValid_is false s y _ hsm (decide_eq_false hv)).mono ?_
    rintro e w4 ⟨rfl, hb4⟩
    have b4 := Below.trans (a3) (Below.mono hb4 (Below.size (a3)))
    have u4 := u3.later hb4
    have v4 := v3.later hb4
    have x4 := x3.later hb4
    clear d0 d1 p0 p1 q0 q1 u3 v3 x3
    obtain ⟨d0, d1, -⟩ := id u4.reads
    obtain ⟨p0, p1, -⟩ := id v4.reads
    obtain ⟨q0, q1, -⟩ := id x4.reads
    clear hv
    go_wp2
    go_ret
    exact .mk_ b4
theorem FnCrash_any (A : Option Addr) (c : Nat) (bs : List Int) (w : World) (f1 : Row w w.heap.size A (bs.map (Value.int .u8))) (f2 : bs.length ≤ c) (f3 : c ≤ maxLen) (f4 : ∀ n ∈ bs, 0 ≤ n ∧ n < 256) :
    Calls Try.prog 12 #[.slice A bs.length c] w (Ret (.bool true) w) := by
  by_cases hl : bs.length ≤ 1048576
  · exact FnCrash_yes A c bs w ⟨f1, f2, f3, f4⟩ hl
  · exact FnCrash_no A c bs w ⟨f1, f2, f3, f4⟩ hl
end Go.Proofs.Ytclonfhpabdpgaa
