/-
  Walk of the law that synchronized records survive.
-/
import Derived.Test.YtclonfhpabdpgaaLogW
import Derived.Deep.RegionHeld3
import Derived.Deep.Cut
import Derived.BigQuiet
namespace Go.Proofs.Ytclonfhpabdpgaa
open Go.RowKit Wo Pu Lg

theorem syO_agg (s : ByteArray) (y : Int) : ∃ t z, syO s y = .agg #[.string t, .int .i64 z] ∧ (Vd s y → t = s ∧ z = (s.size : Int)) := by
  unfold syO
  by_cases h : Vd s y
  · rw [if_pos h]; exact ⟨_, _, rfl, fun _ => ⟨rfl, rfl⟩⟩
  · rw [if_neg h]; exact ⟨_, _, rfl, fun e => absurd e h⟩
theorem FnSync_no (A : Option Addr) (c : Nat) (bs : List Int) (A' : Option Addr) (c' : Nat) (bs' : List Int) (w : World) (h : Code_ w A c bs) (h' : Code_ w A' c' bs') (hl : ¬ (bs.length ≤ 1048576 ∧ bs'.length ≤ 1048576)) :
    Calls Try.prog 11 #[.slice A bs.length c, .slice A' bs'.length c'] w (Ret (.bool true) w) := by
  have hc := h.2.1
  have hm := h.2.2.1
  have hc' := h'.2.1
  have hm' := h'.2.2.1
  unfold maxLen at hm hm'
  by_cases h1 : bs.length ≤ 1048576
  · have h2 : ¬ bs'.length ≤ 1048576 := fun e => hl ⟨h1, e⟩
    clear hl
    go_enter Try.func11, Try.ntmps11
    go_wp2
    go_ret
    exact .mk_ (Below.refl _ _)
  · clear hl
    go_enter Try.func11, Try.ntmps11
    go_wp2
    go_ret
    exact .mk_ (Below.refl _ _)
set_option maxHeartbeats 4000000 in
theorem FnSync_yes (A : Option Addr) (c : Nat) (bs : List Int) (A' : Option Addr) (c' : Nat) (bs' : List Int) (w : World) (h : Code_ w A c bs) (_h' : Code_ w A' c' bs') (hl : bs.length ≤ 1048576) (hl' : bs'.length ≤ 1048576) :
    Calls Try.prog 11 #[.slice A bs.length c, .slice A' bs'.length c'] w (Ret (.bool true) w) := by
  go_enter Try.func11, Try.ntmps11
  go_wp2_with fail
  refine (DrawLogSync_any A c bs _ h).mono ?_
  rintro e w1 ⟨s, y, rfl, hs, y0, y1, b1⟩
  have hsm : s.size ≤ maxLen := by unfold maxLen; omega
  obtain ⟨t, z, hA, hTZ⟩ := syO_agg s y
  have c1 := fun W => implLogSync_any s y W hsm
  have c2 := fun W => specLogSync_any s y W hsm
  rw [hA] at c1 c2
  have C1 := hid c1
  have C2 := hid c2
  have HTZ := hid hTZ
  clear hA c1 c2 hTZ
  have a1 := b1.alloc b1.size (.cells #[.string s, .int .i64 y] 32)
  have u1 := Blk2.new_ w1 32 (.string s) (.int .i64 y)
  obtain ⟨d0, d1, -⟩ := u1.reads
  go_wp2_with fail
  refine (C1.out _).mono ?_
  rintro e w2 ⟨rfl, hb2⟩
  have b2 := Below.trans (a1) (Below.mono hb2 (Below.size (a1)))
  have u2 := (u1.later hb2).alloc (.cells #[.string t, .int .i64 z] 32)
  have v2 := Blk2.new_ w2 32 (.string t) (.int .i64 z)
  have a2 := b2.alloc b2.size (.cells #[.string t, .int .i64 z] 32)
  clear d0 d1 u1 b1 a1 hb2
  obtain ⟨d0, d1, -⟩ := u2.reads
  go_wp2_with fail
  refine (C2.out _).mono ?_
  rintro e w3 ⟨rfl, hb3⟩
  have b3 := Below.trans (a2) (Below.mono hb3 (Below.size (a2)))
  have u3 := (u2.later hb3).alloc (.cells #[.string t, .int .i64 z] 32)
  have v3 := (v2.later hb3).alloc (.cells #[.string t, .int .i64 z] 32)
  have x3 := Blk2.new_ w3 32 (.string t) (.int .i64 z)
  have a3 := b3.alloc b3.size (.cells #[.string t, .int .i64 z] 32)
  clear d0 d1 u2 v2 b2 a2 hb3 C1 C2
  obtain ⟨d0, d1, -⟩ := id u3.reads
  obtain ⟨p0, p1, -⟩ := id v3.reads
  obtain ⟨q0, q1, -⟩ := id x3.reads
  by_cases hv : Vd s y
  ·
    go_wp2_with fail
    refine (specDiskValid_is true s y _ hsm (decide_eq_true hv)).mono ?_
    rintro e w4 ⟨rfl, hb4⟩
    have b4 := Below.trans (a3) (Below.mono hb4 (Below.size (a3)))
    have u4 := u3.later hb4
    have v4 := v3.later hb4
    have x4 := x3.later hb4
    clear d0 d1 p0 p1 q0 q1 u3 v3 x3
    obtain ⟨d0, d1, -⟩ := id u4.reads
    obtain ⟨p0, p1, -⟩ := id v4.reads
    obtain ⟨q0, q1, -⟩ := id x4.reads
    obtain ⟨rfl, rfl⟩ := HTZ.out hv
    have hv2 : Vd t (t.size : Int) := by have := hv.1; unfold Vd; omega
    obtain ⟨K, hK⟩ : ∃ K, (bs'.length : Int) % 9 = K := ⟨_, rfl⟩
    have hK0 : 0 ≤ K := by omega
    have hK1 : K ≤ 9 := by omega
    obtain ⟨x, xz, hA'⟩ := crO_agg t (t.size : Int) K
    obtain ⟨n, u, h1, h2, h3, h4, ht, rfl⟩ := crO_eq hA' hv2 hK0
    have hn : n = t.size := by rw [← h1]; unfold crN; omega
    subst hn
    have c4 := fun W => implLogCrash_any t (t.size : Int) K W hsm (by omega)
    rw [hA'] at c4
    have C4 := hid c4
    have hto := (cr_texts t h4 h3).1
    rw [← ht, cut_all t (Nat.le_refl _)] at hto
    obtain ⟨ts, hTS⟩ : ∃ ts, texts (bl t) = ts := ⟨_, rfl⟩
    rw [hTS] at hto
    have HTS := hid hTS
    have HTO := hid hto
    have hxs : x.size ≤ 1048576 := by rw [ht, cr_size t (by omega)]; omega
    have hts : t.size ≤ 1048576 := by omega
    have hlm : ts.length ≤ maxLen := by have := texts_few t; rw [hTS] at this; unfold maxLen; omega
    clear h1 h2 h3 h4 ht hA' c4 hto hTS hv hv2 HTZ q0 q1 x4 hb4 a3
    go_wp2_with fail
    refine (C4.out _).mono ?_
    rintro e w5 ⟨rfl, hb5⟩
    have b5 := Below.trans (b4) (Below.mono hb5 (Below.size (b4)))
    have u6 := (u4.later hb5).alloc (.cells #[.string x, .int .i64 (u : Nat)] 32)
    have v6 := (v4.later hb5).alloc (.cells #[.string x, .int .i64 (u : Nat)] 32)
    have x6 := Blk2.new_ w5 32 (.string x) (.int .i64 (u : Nat))
    have b6 := b5.alloc b5.size (.cells #[.string x, .int .i64 (u : Nat)] 32)
    clear d0 d1 p0 p1 u4 v4 b4 b5 hb5
    go_upto_region 9 with fail
    generalize w5.alloc (.cells #[.string x, .int .i64 (u : Nat)] 32) = W at *
    obtain ⟨d0, d1, -⟩ := id u6.reads
    obtain ⟨p0, p1, -⟩ := id v6.reads
    obtain ⟨q0, q1, -⟩ := id x6.reads
    go_region_held3 (fun w' => w'.cell? ⟨w1.heap.size, 0, none⟩ = some (.string t) ∧ w'.cell? ⟨w1.heap.size, 1, none⟩ = some (.int .i64 y) ∧ w'.cell? ⟨w2.heap.size, 0, none⟩ = some (.string t) ∧ w'.cell? ⟨w2.heap.size, 1, none⟩ = some (.int .i64 (t.size : Nat)) ∧ w'.cell? ⟨w5.heap.size, 0, none⟩ = some (.string x) ∧ w'.cell? ⟨w5.heap.size, 1, none⟩ = some (.int .i64 (u : Nat))) (simp [*, go_sem])
      (first
        | (go_at_call 19; (with_reducible refine (sameTexts_ret A7 A8 c7 c8 ts w8 s8 r8 hlm).mono ?_); rintro e w9 ⟨rfl, hb9⟩; have b9 := b8.trans (hb9.mono b8.size); obtain ⟨g0, g1, -⟩ := (u8.later hb9).reads; obtain ⟨l0, l1, -⟩ := (v8.later hb9).reads; obtain ⟨m0, m1, -⟩ := (x8.later hb9).reads)
        | (go_at_call 31; (with_reducible refine (recordsOf_is t y ts w7 hts HTS.out).mono ?_); rintro e w8 ⟨A8, c8, rfl, r8, hc8, hb8⟩; have b8 := b7.trans (hb8.mono b7.size); have s8 := (r7.below hb8 (Nat.le_refl _)).more hb8.size; have u8 := u7.later hb8; have v8 := v7.later hb8; have x8 := x7.later hb8; obtain ⟨g0, g1, -⟩ := id u8.reads; obtain ⟨l0, l1, -⟩ := id v8.reads; obtain ⟨m0, m1, -⟩ := id x8.reads)
        | (go_at_call 31; (with_reducible refine (recordsOf_is x u ts W.drew hxs HTO.out).mono ?_); rintro e w7 ⟨A7, c7, rfl, r7, hc7, hb7⟩; have hb7' : Below W.heap.size W w7 := Below.trans ((Below.refl _ _).drew) hb7; have b7 := b6.trans (hb7'.mono b6.size); have u7 := u6.later hb7'; have v7 := v6.later hb7'; have x7 := x6.later hb7'; obtain ⟨e0, e1, -⟩ := id u7.reads; obtain ⟨f0, f1, -⟩ := id v7.reads; obtain ⟨i0, i1, -⟩ := id x7.reads))
    go_wp2
    go_ret
    exact .mk_ b9
  ·
    go_wp2_with fail
    refine (specDiskValid_is false s y _ hsm (decide_eq_false hv)).mono ?_
    rintro e w4 ⟨rfl, hb4⟩
    have b4 := Below.trans (a3) (Below.mono hb4 (Below.size (a3)))
    have u4 := u3.later hb4
    have v4 := v3.later hb4
    have x4 := x3.later hb4
    clear d0 d1 p0 p1 q0 q1 u3 v3 x3
    obtain ⟨d0, d1, -⟩ := id u4.reads
    obtain ⟨p0, p1, -⟩ := id v4.reads
    obtain ⟨q0, q1, -⟩ := id x4.reads
    clear hv HTZ
    go_wp2
    go_ret
    exact .mk_ b4
theorem FnSync_any (A : Option Addr) (c : Nat) (bs : List Int) (A' : Option Addr) (c' : Nat) (bs' : List Int) (w : World) (f1 : Row w w.heap.size A (bs.map (Value.int .u8))) (f2 : bs.length ≤ c) (f3 : c ≤ maxLen) (f4 : ∀ n ∈ bs, 0 ≤ n ∧ n < 256) (g1 : Row w w.heap.size A' (bs'.map (Value.int .u8))) (g2 : bs'.length ≤ c') (g3 : c' ≤ maxLen) (g4 : ∀ n ∈ bs', 0 ≤ n ∧ n < 256) :
    Calls Try.prog 11 #[.slice A bs.length c, .slice A' bs'.length c'] w (Ret (.bool true) w) := by
  by_cases hl : bs.length ≤ 1048576 ∧ bs'.length ≤ 1048576
  · exact FnSync_yes A c bs A' c' bs' w ⟨f1, f2, f3, f4⟩ ⟨g1, g2, g3, g4⟩ hl.1 hl.2
  · exact FnSync_no A c bs A' c' bs' w ⟨f1, f2, f3, f4⟩ ⟨g1, g2, g3, g4⟩ hl
end Go.Proofs.Ytclonfhpabdpgaa
