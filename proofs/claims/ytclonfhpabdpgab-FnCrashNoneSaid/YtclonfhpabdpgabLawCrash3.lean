/-
  Walks of the laws on crashes that keep more, or nothing more.
-/
import Derived.Test.YtclonfhpabdpgabLogW
import Derived.Deep.RegionHeld3
import Derived.Deep.Cut
import Derived.BigQuiet
namespace Go.Proofs.Ytclonfhpabdpgab
open Go.RowKit Wo Pu Lg

theorem FnCrashNone_no (A : Option Addr) (c : Nat) (bs : List Int) (w : World) (h : Code_ w A c bs) (hl : ¬ bs.length ≤ 1048576) :
    Calls Try.prog 5 #[.slice A bs.length c] w (Ret (.bool true) w) := by
  have hc := h.2.1
  have hm := h.2.2.1
  unfold maxLen at hm
  go_enter Try.func5, Try.ntmps5
  go_wp2
  go_ret
  exact .mk_ (Below.refl _ _)
set_option maxHeartbeats 4000000 in
theorem FnCrashNone_yes (A : Option Addr) (c : Nat) (bs : List Int) (w : World) (h : Code_ w A c bs) (hl : bs.length ≤ 1048576) :
    Calls Try.prog 5 #[.slice A bs.length c] w (Ret (.bool true) w) := by
  go_enter Try.func5, Try.ntmps5
  go_wp2_with fail
  refine (DrawLogCrash_any A c bs _ h).mono ?_
  rintro e w1 ⟨s, y, k, rfl, hs, y0, y1, k0, k1, b1⟩
  have hsm : s.size ≤ maxLen := by unfold maxLen; omega
  have hkm : k ≤ 9223372036854775807 := by omega
  obtain ⟨t, z, hA⟩ := crO_agg s y k
  have c1 := fun W => implLogCrash_any s y k W hsm hkm
  have c2 := fun W => specLogCrash_any s y k W hsm hkm
  rw [hA] at c1 c2
  have C1 := hid c1
  have C2 := hid c2
  have HA := hid hA
  clear hA c1 c2
  have a1 := b1.alloc b1.size (.cells #[.string s, .int .i64 y] 32)
  have u1 := Blk2.new_ w1 32 (.string s) (.int .i64 y)
  obtain ⟨d0, d1, -⟩ := u1.reads
  go_wp2_with fail
  refine (C1.out _).mono ?_
  rintro e w2 ⟨rfl, hb2⟩
  have b2 := Below.trans (a1) (Below.mono hb2 (Below.size (a1)))
  have u2 := (u1.later hb2).alloc (.cells #[.string t, .int .i64 z] 32)
  have v2 := Blk2.new_ w2 32 (.string t) (.int .i64 z)
  have a2 := b2.alloc b2.size (.cells #[.string t, .int .i64 z] 32)
  clear d0 d1 u1 b1 a1 hb2
  obtain ⟨d0, d1, -⟩ := u2.reads
  go_wp2_with fail
  refine (C2.out _).mono ?_
  rintro e w3 ⟨rfl, hb3⟩
  have b3 := Below.trans (a2) (Below.mono hb3 (Below.size (a2)))
  have u3 := (u2.later hb3).alloc (.cells #[.string t, .int .i64 z] 32)
  have v3 := (v2.later hb3).alloc (.cells #[.string t, .int .i64 z] 32)
  have x3 := Blk2.new_ w3 32 (.string t) (.int .i64 z)
  have a3 := b3.alloc b3.size (.cells #[.string t, .int .i64 z] 32)
  clear d0 d1 u2 v2 b2 a2 hb3 C1 C2
  obtain ⟨d0, d1, -⟩ := id u3.reads
  obtain ⟨p0, p1, -⟩ := id v3.reads
  obtain ⟨q0, q1, -⟩ := id x3.reads
  by_cases hv : Vd s y
  ·
    go_wp2_with fail
    refine (specDiskValid_is true s y _ hsm (decide_eq_true hv)).mono ?_
    rintro e w4 ⟨rfl, hb4⟩
    have b4 := Below.trans (a3) (Below.mono hb4 (Below.size (a3)))
    have u4 := u3.later hb4
    have v4 := v3.later hb4
    have x4 := x3.later hb4
    clear d0 d1 p0 p1 q0 q1 u3 v3 x3
    obtain ⟨d0, d1, -⟩ := id u4.reads
    obtain ⟨p0, p1, -⟩ := id v4.reads
    obtain ⟨q0, q1, -⟩ := id x4.reads
    by_cases hk : k < 0
    · have ek : decide (k < 0) = true := decide_eq_true hk
      clear hk
      go_wp2
      go_ret
      exact .mk_ b4
    · have ek : decide (k < 0) = false := decide_eq_false hk
      obtain ⟨t', z', hA'⟩ := crO_agg s y 0
      obtain ⟨n, u, h1, h2, h3, h4, ht, rfl⟩ := crO_eq hA' hv (by omega)
      have c4 := fun W => implLogCrash_any s y 0 W hsm (by omega)
      rw [hA'] at c4
      have C4 := hid c4
      obtain ⟨hv1, hv2, hv3⟩ := id hv
      obtain ⟨m, rfl⟩ := Int.eq_ofNat_of_zero_le hv2
      have hmn : m = n := by rw [← h1]; unfold crN; omega
      subst hmn
      have hto := (cr_texts s h4 h3).1
      rw [← ht] at hto
      obtain ⟨os, hOS⟩ : ∃ os, texts (bl (s.extract 0 m)) = os := ⟨_, rfl⟩
      rw [hOS] at hto
      have HTO := hid hto
      have HOS := hid hOS
      have HU := hid h4
      have hts : t'.size ≤ 1048576 := by rw [ht, cr_size s (by omega)]; omega
      have hx : (s.extract 0 m).size ≤ 1048576 := by rw [ByteArray.size_extract]; omega
      have hy : (m : Int) ≤ (s.size : Int) := by omega
      have hol : os.length ≤ maxLen := by have := texts_few (s.extract 0 m); rw [hOS] at this; unfold maxLen; omega
      clear h1 h3 h4 ht hA' c4 hto hOS hv hk y0 y1 HA hv2 hv3
      go_wp2_with fail
      refine (implLogScan_is (s.extract 0 m) os u _ hx HOS.out HU.out).mono ?_
      rintro e w5 ⟨A5, c5, rfl, r5, hc5, hb5⟩
      have b5 := b4.trans (hb5.mono b4.size)
      have u5 := u4.later hb5
      have v5 := v4.later hb5
      have x5 := x4.later hb5
      clear d0 d1 p0 p1 q0 q1 u4 v4 x4
      obtain ⟨d0, d1, -⟩ := id u5.reads
      obtain ⟨p0, p1, -⟩ := id v5.reads
      obtain ⟨q0, q1, -⟩ := id x5.reads
      clear b4
      go_wp2_with fail
      refine (C4.out _).mono ?_
      rintro e w6 ⟨rfl, hb6⟩
      have b6 := Below.trans (b5) (Below.mono hb6 (Below.size (b5)))
      have r6 := (r5.below hb6 (Nat.le_refl _)).more hb6.size
      have z6 := (Blk2.new_ w6 32 (.string t') (.int .i64 (u : Nat)))
      have r7 := (r6.alloc (Nat.le_refl _) (.cells #[.string t', .int .i64 (u : Nat)] 32)).more (B' := (w6.alloc (.cells #[.string t', .int .i64 (u : Nat)] 32)).heap.size) (by simp)
      have b7 := b6.alloc b6.size (.cells #[.string t', .int .i64 (u : Nat)] 32)
      clear b5 r5 r6 b6 d0 d1 p0 p1 q0 q1 hb5 hb6
      obtain ⟨d0, d1, -⟩ := id z6.reads
      go_wp2_with fail
      refine (recordsOf_is t' u os _ hts HTO.out).mono ?_
      rintro e w8 ⟨A8, c8, rfl, r8, hc8, hb8⟩
      have b8 := b7.trans (hb8.mono b7.size)
      have s8 := (r7.below hb8 (Nat.le_refl _)).more hb8.size
      have z8 := z6.later hb8
      clear d0 d1 b7 r7 z6
      obtain ⟨d0, d1, -⟩ := id z8.reads
      go_wp2_with fail
      refine (sameTexts_ret A8 A5 c8 c5 os w8 r8 s8 hol).mono ?_
      rintro e w9 ⟨rfl, hb9⟩
      have z9 := z8.later hb9
      clear d0 d1
      obtain ⟨d0, d1, -⟩ := id z9.reads
      go_wp2
      go_ret
      exact .mk_ (b8.trans (hb9.mono b8.size))
  ·
    go_wp2_with fail
    refine (specDiskValid_is false s y _ hsm (decide_eq_false hv)).mono ?_
    rintro e w4 ⟨rfl, hb4⟩
    have b4 := Below.trans (a3) (Below.mono hb4 (Below.size (a3)))
    have u4 := u3.later hb4
    have v4 := v3.later hb4
    have x4 := x3.later hb4
    clear d0 d1 p0 p1 q0 q1 u3 v3 x3
    obtain ⟨d0, d1, -⟩ := id u4.reads
    obtain ⟨p0, p1, -⟩ := id v4.reads
    obtain ⟨q0, q1, -⟩ := id x4.reads
    clear hv
    go_wp2
    go_ret
    exact .mk_ b4
theorem FnCrashNone_any (A : Option Addr) (c : Nat) (bs : List Int) (w : World) (f1 : Row w w.heap.size A (bs.map (Value.int .u8))) (f2 : bs.length ≤ c) (f3 : c ≤ maxLen) (f4 : ∀ n ∈ bs, 0 ≤ n ∧ n < 256) :
    Calls Try.prog 5 #[.slice A bs.length c] w (Ret (.bool true) w) := by
  by_cases hl : bs.length ≤ 1048576
  · exact FnCrashNone_yes A c bs w ⟨f1, f2, f3, f4⟩ hl
  · exact FnCrashNone_no A c bs w ⟨f1, f2, f3, f4⟩ hl
end Go.Proofs.Ytclonfhpabdpgab
