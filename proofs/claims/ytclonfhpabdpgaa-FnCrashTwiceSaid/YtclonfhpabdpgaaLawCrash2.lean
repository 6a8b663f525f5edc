/-
  Walk of the law that a second crash changes nothing.
-/
import Derived.Test.YtclonfhpabdpgaaLogW
import Derived.Deep.RegionHeld3
import Derived.BigQuiet
namespace Go.Proofs.Ytclonfhpabdpgaa
open Go.RowKit Wo Pu Lg

theorem FnCrashTwice_no (A : Option Addr) (c : Nat) (bs : List Int) (A' : Option Addr) (c' : Nat) (bs' : List Int) (w : World) (h : Code_ w A c bs) (h' : Code_ w A' c' bs') (hl : ¬ (bs.length ≤ 1048576 ∧ bs'.length ≤ 1048576)) :
    Calls Try.prog 13 #[.slice A bs.length c, .slice A' bs'.length c'] w (Ret (.bool true) w) := by
  have hc := h.2.1
  have hm := h.2.2.1
  have hc' := h'.2.1
  have hm' := h'.2.2.1
  unfold maxLen at hm hm'
  by_cases h1 : bs.length ≤ 1048576
  · have h2 : ¬ bs'.length ≤ 1048576 := fun e => hl ⟨h1, e⟩
    clear hl
    go_enter Try.func13, Try.ntmps13
    go_wp2
    go_ret
    exact .mk_ (Below.refl _ _)
  · clear hl
    go_enter Try.func13, Try.ntmps13
    go_wp2
    go_ret
    exact .mk_ (Below.refl _ _)
set_option maxHeartbeats 4000000 in
theorem FnCrashTwice_yes (A : Option Addr) (c : Nat) (bs : List Int) (A' : Option Addr) (c' : Nat) (bs' : List Int) (w : World) (h : Code_ w A c bs) (_h' : Code_ w A' c' bs') (hl : bs.length ≤ 1048576) (hl' : bs'.length ≤ 1048576) :
    Calls Try.prog 13 #[.slice A bs.length c, .slice A' bs'.length c'] w (Ret (.bool true) w) := by
  go_enter Try.func13, Try.ntmps13
  go_wp2_with fail
  refine (DrawLogCrash_any A c bs _ h).mono ?_
  rintro e w1 ⟨s, y, k, rfl, hs, y0, y1, k0, k1, b1⟩
  have hsm : s.size ≤ maxLen := by unfold maxLen; omega
  have hkm : k ≤ 9223372036854775807 := by omega
  obtain ⟨t, z, hA⟩ := crO_agg s y k
  have c1 := fun W => implLogCrash_any s y k W hsm hkm
  have c2 := fun W => specLogCrash_any s y k W hsm hkm
  rw [hA] at c1 c2
  have C1 := hid c1
  have C2 := hid c2
  have HA := hid hA
  clear hA c1 c2
  have a1 := b1.alloc b1.size (.cells #[.string s, .int .i64 y] 32)
  have u1 := Blk2.new_ w1 32 (.string s) (.int .i64 y)
  obtain ⟨d0, d1, -⟩ := u1.reads
  go_wp2_with fail
  refine (C1.out _).mono ?_
  rintro e w2 ⟨rfl, hb2⟩
  have b2 := Below.trans (a1) (Below.mono hb2 (Below.size (a1)))
  have u2 := (u1.later hb2).alloc (.cells #[.string t, .int .i64 z] 32)
  have v2 := Blk2.new_ w2 32 (.string t) (.int .i64 z)
  have a2 := b2.alloc b2.size (.cells #[.string t, .int .i64 z] 32)
  clear d0 d1 u1 b1 a1 hb2
  obtain ⟨d0, d1, -⟩ := u2.reads
  go_wp2_with fail
  refine (C2.out _).mono ?_
  rintro e w3 ⟨rfl, hb3⟩
  have b3 := Below.trans (a2) (Below.mono hb3 (Below.size (a2)))
  have u3 := (u2.later hb3).alloc (.cells #[.string t, .int .i64 z] 32)
  have v3 := (v2.later hb3).alloc (.cells #[.string t, .int .i64 z] 32)
  have x3 := Blk2.new_ w3 32 (.string t) (.int .i64 z)
  have a3 := b3.alloc b3.size (.cells #[.string t, .int .i64 z] 32)
  clear d0 d1 u2 v2 b2 a2 hb3 C1 C2
  obtain ⟨d0, d1, -⟩ := id u3.reads
  obtain ⟨p0, p1, -⟩ := id v3.reads
  obtain ⟨q0, q1, -⟩ := id x3.reads
  by_cases hv : Vd s y
  ·
    go_wp2_with fail
    refine (specDiskValid_is true s y _ hsm (decide_eq_true hv)).mono ?_
    rintro e w4 ⟨rfl, hb4⟩
    have b4 := Below.trans (a3) (Below.mono hb4 (Below.size (a3)))
    have u4 := u3.later hb4
    have v4 := v3.later hb4
    have x4 := x3.later hb4
    clear d0 d1 p0 p1 q0 q1 u3 v3 x3
    obtain ⟨d0, d1, -⟩ := id u4.reads
    obtain ⟨p0, p1, -⟩ := id v4.reads
    obtain ⟨q0, q1, -⟩ := id x4.reads
    by_cases hk : k < 0
    · have ek : decide (k < 0) = true := decide_eq_true hk
      clear hk
      go_wp2
      go_ret
      exact .mk_ b4
    · have ek : decide (k < 0) = false := decide_eq_false hk
      obtain ⟨n, u, h1, h2, h3, h4, ht, rfl⟩ := crO_eq HA.out hv (by omega)
      have hts : t.size = u := by rw [ht]; exact cr_size s (by omega)
      have hx := (cr_texts s h4 h3).2
      have hag := fun k' (hk' : 0 ≤ k') => cr_again s (k := k') hx (by omega) hv hk'
      rw [← ht] at hag
      have htm : t.size ≤ maxLen := by unfold maxLen; omega
      have c4 : ∀ (k' : Int) (W : World), 0 ≤ k' → k' ≤ 9 → Calls Try.prog 30 #[.agg #[.string t, .int .i64 (u : Nat)], .int .i64 k'] W (Ret (.agg #[.string t, .int .i64 (u : Nat)]) W) := fun k' W e1 e2 => by
        have hc := implLogCrash_any t (u : Nat) k' W htm (by omega)
        rw [hag k' e1] at hc
        exact hc
      have C4 := hid c4
      have e7 : 0 ≤ (bs'.length : Int) % 7 := by omega
      have e8 : (bs'.length : Int) % 7 ≤ 9 := by omega
      clear h1 h2 h3 h4 ht hx hag c4 hv hk HA hts htm
      have P0 := Later.cell p0 v4.lt
      have P1 := Later.cell p1 v4.lt
      go_wp2_with fail
      clear d0 d1 p0 p1 q0 q1
      refine wp_region_later w4.heap.size (by kernel_rfl) (by kernel_rfl) ?_
      repeat (go_big_quiet_step ((go_at_call 30; exact Later.call (Nat.le_refl _) _ (C4.out _ _ (by omega) (by omega)))))
      refine wpQuiet_nil ?_
      intro _ hw'
      obtain ⟨xx, hxx⟩ := hw'
      have hbx := xx.b
      subst hxx
      go_wp2
      go_ret
      exact .mk_ (b4.trans (hbx.mono b4.size))
  ·
    go_wp2_with fail
    refine (specDiskValid_is false s y _ hsm (decide_eq_false hv)).mono ?_
    rintro e w4 ⟨rfl, hb4⟩
    have b4 := Below.trans (a3) (Below.mono hb4 (Below.size (a3)))
    have u4 := u3.later hb4
    have v4 := v3.later hb4
    have x4 := x3.later hb4
    clear d0 d1 p0 p1 q0 q1 u3 v3 x3
    obtain ⟨d0, d1, -⟩ := id u4.reads
    obtain ⟨p0, p1, -⟩ := id v4.reads
    obtain ⟨q0, q1, -⟩ := id x4.reads
    clear hv
    go_wp2
    go_ret
    exact .mk_ b4
theorem FnCrashTwice_any (A : Option Addr) (c : Nat) (bs : List Int) (A' : Option Addr) (c' : Nat) (bs' : List Int) (w : World) (f1 : Row w w.heap.size A (bs.map (Value.int .u8))) (f2 : bs.length ≤ c) (f3 : c ≤ maxLen) (f4 : ∀ n ∈ bs, 0 ≤ n ∧ n < 256) (g1 : Row w w.heap.size A' (bs'.map (Value.int .u8))) (g2 : bs'.length ≤ c') (g3 : c' ≤ maxLen) (g4 : ∀ n ∈ bs', 0 ≤ n ∧ n < 256) :
    Calls Try.prog 13 #[.slice A bs.length c, .slice A' bs'.length c'] w (Ret (.bool true) w) := by
  by_cases hl : bs.length ≤ 1048576 ∧ bs'.length ≤ 1048576
  · exact FnCrashTwice_yes A c bs A' c' bs' w ⟨f1, f2, f3, f4⟩ ⟨g1, g2, g3, g4⟩ hl.1 hl.2
  · exact FnCrashTwice_no A c bs A' c' bs' w ⟨f1, f2, f3, f4⟩ ⟨g1, g2, g3, g4⟩ hl
end Go.Proofs.Ytclonfhpabdpgaa
