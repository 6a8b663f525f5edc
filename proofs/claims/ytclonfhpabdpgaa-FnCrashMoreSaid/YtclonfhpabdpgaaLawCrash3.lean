/-
  Walks of the laws on crashes that keep more, or nothing more.
-/
import Derived.Test.YtclonfhpabdpgaaLogW
import Derived.Deep.RegionHeld3
import Derived.Deep.Cut
import Derived.BigQuiet
namespace Go.Proofs.Ytclonfhpabdpgaa
open Go.RowKit Wo Pu Lg

theorem FnCrashMore_no (A : Option Addr) (c : Nat) (bs : List Int) (w : World) (h : Code_ w A c bs) (hl : ¬ bs.length ≤ 1048576) :
    Calls Try.prog 14 #[.slice A bs.length c] w (Ret (.bool true) w) := by
  have hc := h.2.1
  have hm := h.2.2.1
  unfold maxLen at hm
  go_enter Try.func14, Try.ntmps14
  go_wp2
  go_ret
  exact .mk_ (Below.refl _ _)
set_option maxHeartbeats 4000000 in
theorem FnCrashMore_yes (A : Option Addr) (c : Nat) (bs : List Int) (w : World) (h : Code_ w A c bs) (hl : bs.length ≤ 1048576) :
    Calls Try.prog 14 #[.slice A bs.length c] w (Ret (.bool true) w) := by
  go_enter Try.func14, Try.ntmps14
  go_wp2_with fail
  refine (DrawLogCrash_any A c bs _ h).mono ?_
  rintro e w1 ⟨s, y, k, rfl, hs, y0, y1, k0, k1, b1⟩
  have hsm : s.size ≤ maxLen := by unfold maxLen; omega
  have hkm : k ≤ 9223372036854775807 := by omega
  obtain ⟨t, z, hA⟩ := crO_agg s y k
  have c1 := fun W => implLogCrash_any s y k W hsm hkm
  have c2 := fun W => specLogCrash_any s y k W hsm hkm
  rw [hA] at c1 c2
  have C1 := hid c1
  have C2 := hid c2
  have HA := hid hA
  clear hA c1 c2
  have a1 := b1.alloc b1.size (.cells #[.string s, .int .i64 y] 32)
  have u1 := Blk2.new_ w1 32 (.string s) (.int .i64 y)
  obtain ⟨d0, d1, -⟩ := u1.reads
  go_wp2_with fail
  refine (C1.out _).mono ?_
  rintro e w2 ⟨rfl, hb2⟩
  have b2 := Below.trans (a1) (Below.mono hb2 (Below.size (a1)))
  have u2 := (u1.later hb2).alloc (.cells #[.string t, .int .i64 z] 32)
  have v2 := Blk2.new_ w2 32 (.string t) (.int .i64 z)
  have a2 := b2.alloc b2.size (.cells #[.string t, .int .i64 z] 32)
  clear d0 d1 u1 b1 a1 hb2
  obtain ⟨d0, d1, -⟩ := u2.reads
  go_wp2_with fail
  refine (C2.out _).mono ?_
  rintro e w3 ⟨rfl, hb3⟩
  have b3 := Below.trans (a2) (Below.mono hb3 (Below.size (a2)))
  have u3 := (u2.later hb3).alloc (.cells #[.string t, .int .i64 z] 32)
  have v3 := (v2.later hb3).alloc (.cells #[.string t, .int .i64 z] 32)
  have x3 := Blk2.new_ w3 32 (.string t) (.int .i64 z)
  have a3 := b3.alloc b3.size (.cells #[.string t, .int .i64 z] 32)
  clear d0 d1 u2 v2 b2 a2 hb3 C1 C2
  obtain ⟨d0, d1, -⟩ := id u3.reads
  obtain ⟨p0, p1, -⟩ := id v3.reads
  obtain ⟨q0, q1, -⟩ := id x3.reads
  by_cases hv : Vd s y
  ·
    go_wp2_with fail
    refine (specDiskValid_is true s y _ hsm (decide_eq_true hv)).mono ?_
    rintro e w4 ⟨rfl, hb4⟩
    have b4 := Below.trans (a3) (Below.mono hb4 (Below.size (a3)))
    have u4 := u3.later hb4
    have v4 := v3.later hb4
    have x4 := x3.later hb4
    clear d0 d1 p0 p1 q0 q1 u3 v3 x3
    obtain ⟨d0, d1, -⟩ := id u4.reads
    obtain ⟨p0, p1, -⟩ := id v4.reads
    obtain ⟨q0, q1, -⟩ := id x4.reads
    by_cases hk : k < 0
    · have ek : decide (k < 0) = true := decide_eq_true hk
      clear hk
      go_wp2
      go_ret
      exact .mk_ b4
    · have ek : decide (k < 0) = false := decide_eq_false hk
      obtain ⟨n, u, h1, h2, h3, h4, ht, rfl⟩ := crO_eq HA.out hv (by omega)
      obtain ⟨t', z', hA'⟩ := crO_agg s y (k + 1)
      obtain ⟨n', u', h1', h2', h3', h4', ht', rfl⟩ := crO_eq hA' hv (by omega)
      have c4 := fun W => implLogCrash_any s y (k + 1) W hsm (by omega)
      rw [hA'] at c4
      unfold dk at c4
      have C4 := hid c4
      have hnn : n ≤ n' := by rw [← h1, ← h1']; unfold crN; omega
      obtain ⟨i, i1, i2, i3⟩ := part_texts s hnn
      have hto := (cr_texts s h4 h3).1
      have hto' := (cr_texts s h4' h3').1
      rw [← ht] at hto
      rw [← ht'] at hto'
      obtain ⟨os, hOS⟩ : ∃ os, texts (bl (s.extract 0 n)) = os := ⟨_, rfl⟩
      obtain ⟨us, hUS⟩ : ∃ us, texts (bl (s.extract 0 n')) = us := ⟨_, rfl⟩
      rw [hOS] at hto i3
      rw [hUS] at hto' i1
      have HTO := hid hto
      have HTU := hid hto'
      have hts : t.size ≤ 1048576 := by rw [ht, cr_size s (by omega)]; omega
      have hts' : t'.size ≤ 1048576 := by rw [ht', cr_size s (by omega)]; omega
      have hle : (os.length : Int) ≤ (us.length : Int) := by omega
      have hle2 : os.length ≤ us.length := by omega
      have hkw : IntKind.i64.wrap (k + 1) = k + 1 := IntWalk.i64_in _ (by omega)
      clear h1 h2 h3 h4 ht h1' h2' h3' h4' ht' hA' c4 hto hto' hOS hUS hv hk y0 y1 HA hnn i1 i2 i3 x4 q0 q1 hb4 a3
      go_upto_region 8 with fail
      have RD0 := d0
      go_region_held3 (fun w' => w'.cell? ⟨w1.heap.size, 0, none⟩ = some (.string s) ∧ w'.cell? ⟨w1.heap.size, 1, none⟩ = some (.int .i64 y) ∧ w'.cell? ⟨w2.heap.size, 0, none⟩ = some (.string t) ∧ w'.cell? ⟨w2.heap.size, 1, none⟩ = some (.int .i64 (u : Nat))) (simp [*, go_sem])
        (first
          | (go_at_call 31; (with_reducible refine (recordsOf_is t u os w6 hts HTO.out).mono ?_); rintro e w7 ⟨A7, c7, rfl, r7, hc7, hb7⟩; have b7 := b6.trans (hb7.mono b6.size); obtain ⟨g0, g1, -⟩ := (u6.later hb7).reads; obtain ⟨l0, l1, -⟩ := (v6.later hb7).reads)
          | (go_at_call 31; (with_reducible refine (recordsOf_is t' u' us w5 hts' HTU.out).mono ?_); rintro e w6 ⟨A6, c6, rfl, r6, hc6, hb6⟩; have u6 := u5.later hb6; have v6 := v5.later hb6; have b6 := b5.trans (hb6.mono b5.size); obtain ⟨i0, i1, -⟩ := id u6.reads; obtain ⟨j0, j1, -⟩ := id v6.reads)
          | (go_at_call 30; (with_reducible refine (C4.out w4.drew).mono ?_); rintro e w5 ⟨rfl, hb5⟩; have hb5' : Below w4.heap.size w4 w5 := Below.trans ((Below.refl _ _).drew) hb5; have u5 := u4.later hb5'; have v5 := v4.later hb5'; have b5 := b4.trans (hb5'.mono b4.size); obtain ⟨e0, e1, -⟩ := id u5.reads; obtain ⟨f0, f1, -⟩ := id v5.reads))
      go_wp2
      go_ret
      exact .mk_ b7
  ·
    go_wp2_with fail
    refine (specDiskValid_is false s y _ hsm (decide_eq_false hv)).mono ?_
    rintro e w4 ⟨rfl, hb4⟩
    have b4 := Below.trans (a3) (Below.mono hb4 (Below.size (a3)))
    have u4 := u3.later hb4
    have v4 := v3.later hb4
    have x4 := x3.later hb4
    clear d0 d1 p0 p1 q0 q1 u3 v3 x3
    obtain ⟨d0, d1, -⟩ := id u4.reads
    obtain ⟨p0, p1, -⟩ := id v4.reads
    obtain ⟨q0, q1, -⟩ := id x4.reads
    clear hv
    go_wp2
    go_ret
    exact .mk_ b4
theorem FnCrashMore_any (A : Option Addr) (c : Nat) (bs : List Int) (w : World) (f1 : Row w w.heap.size A (bs.map (Value.int .u8))) (f2 : bs.length ≤ c) (f3 : c ≤ maxLen) (f4 : ∀ n ∈ bs, 0 ≤ n ∧ n < 256) :
    Calls Try.prog 14 #[.slice A bs.length c] w (Ret (.bool true) w) := by
  by_cases hl : bs.length ≤ 1048576
  · exact FnCrashMore_yes A c bs w ⟨f1, f2, f3, f4⟩ hl
  · exact FnCrashMore_no A c bs w ⟨f1, f2, f3, f4⟩ hl
end Go.Proofs.Ytclonfhpabdpgaa
