/-
  Walks of the exact laws on StoreReach and StoreMissing.
-/
import Derived.Test.YtfdilnibhcnkgaaReachR
import Derived.Test.YtfdilnibhcnkgaaRchP
import Derived.Test.YtfdilnibhcnkgaaLawGet
namespace Go.Proofs.Ytfdilnibhcnkgaa
open Go.RowKit Wo Pu

theorem eqIntR_same (B C : Nat) (A A' : Option Addr) (c c' : Nat) (zs : List Int) (w : World) (hr : Row w B A (ints zs)) (hr' : Row w C A' (ints zs)) (hm : zs.length ≤ maxLen) :
    Calls Try.prog 38 #[.slice A zs.length c, .slice A' zs.length c'] w (Ret (.bool true) w) := by
  refine (eqIntS_same B C A A' c c' zs w hr hr' hm).mono ?_
  rintro e w' ⟨rfl, h⟩
  exact .mk_ (Dr.below h _)
theorem Apart.row_ {B C : Nat} {w w' : World} (h : Apart B C w w') {A : Option Addr} {D : Nat} {vs : List Value} (hr : Row w D A vs) (hD : D ≤ B) : Row w' D A vs := hr.below h.1 hD
theorem Wrote.below_ {g B : Nat} {w w' : World} (h : Wrote g w w') (hB : B ≤ g) (hz : B ≤ w.heap.size) : Below B w w' := (Below.refl _ _).grown h.1 hz (fun k hk => by injection hk with hk; omega)
theorem Own.wrote_ {g B : Nat} {w w' : World} {v : Value} {zs : List Int} (h : Own w B v zs) (hw : Wrote g w w') (hg : g < B) : Own w' B v zs :=
  World.ownsRow.kept h hw.1 (by
    rcases hv : v.ownBlock with _ | k
    · exact .inl rfl
    · refine .inr (fun e => ?_)
      have := (World.ownsRow.lt h k hv).1
      injection e with e
      omega)

theorem Apart.mine_ {B C D : Nat} {w w' : World} {e : TypeId} {sz g n : Nat} {xs : List Value} (h : Apart B C w w') (hm : Mine w D e sz g n xs) (hD : C ≤ D) : Mine w' D e sz g n xs := by
  have hl := hm.lt
  obtain ⟨q1, q2⟩ := hm
  refine ⟨q1, ?_⟩
  rcases q2 with q2 | ⟨g', cap, cur, hv, hB, hh, q3⟩
  · exact .inl q2
  · refine .inr ⟨g', cap, cur, hv, hB, ?_, q3⟩
    have hg' : g' = g := by injection hv with e1; injection e1 with e1; injection e1 with e1; exact e1.symm
    rw [h.2 g' (by omega) (by rw [hg']; omega)]
    exact hh

set_option maxRecDepth 100000 in
set_option maxHeartbeats 8000000 in
theorem exactStoreReach_any (A : Option Addr) (c : Nat) (os : List Ob) (A' : Option Addr) (c' : Nat) (fr : List Int) (w : World) (h : Objs w w.heap.size A os) (hf : Fit os) (hn : os.length ≤ maxLen) (hfr : Row w w.heap.size A' (ints fr)) (hm : fr.length ≤ maxLen) :
    Calls Try.prog 10 #[.slice A os.length c, .slice A' fr.length c'] w (Ret (.bool true) w) := by
  have hm' := hm
  unfold maxLen at hm'
  by_cases hfl : fr.length ≤ 1048576
  · go_enter Try.func10, Try.ntmps10
    go_wp2_with fail
    refine (szObjectS_any A c os 1048576 w h hf hn (by omega) (by omega)).mono ?_
    rintro e w1 ⟨q, rfl, hr, b1⟩
    rcases hr with rfl | ⟨hr0, hre⟩
    · go_wp2
      go_ret
      exact .mk_ b1
    · obtain ⟨hl, hsz⟩ := allSz_fits (os := os) (m := 1048576) (by omega)
      have hs1 : ∀ o ∈ os, o.zs.length ≤ 1048576 := fun o ho => (hsz o ho).1
      clear hre hsz
      have h1 := (h.below b1 (Nat.le_refl _)).more b1.size
      have r1 := (hfr.below b1 (Nat.le_refl _)).more b1.size
      clear h hfr
      go_wp2_with fail
      refine (toObjectS_any A c os w1 h1 hl hs1).mono ?_
      rintro e w2 ⟨g2, rfl, f2, hb⟩
      have b2 := b1.trans (hb.mono b1.size)
      have h2 := (h1.below hb (Nat.le_refl _)).more hb.size
      have r2 := (r1.below hb (Nat.le_refl _)).more hb.size
      have f2' := f2.objs
      clear h1 r1 hb b1 f2
      go_wp2_with fail
      refine (toIntS_any _ A' c' fr w2 r2 (Nat.le_refl _) hfl).mono ?_
      rintro e w3 ⟨g3, rfl, m3, hb⟩
      have b3 := b2.trans (hb.mono b2.size)
      have h3 := (h2.below hb (Nat.le_refl _)).more hb.size
      have r3 := (r2.below hb (Nat.le_refl _)).more hb.size
      have f3 := (f2'.below hb (Nat.le_refl _)).more hb.size
      have m3' := m3.row
      clear h2 r2 hb b2 f2' m3
      go_wp2_with fail
      refine (specStoreReach_any _ _ _ _ os fr w3 f3 hf hn m3' hm).mono ?_
      rintro e w4 ⟨L, ha, v4, rfl, o4, hb⟩
      have HA := hid ha
      have hRl := (Ans.few (os := os) (L := L)).1
      obtain ⟨R, hRR⟩ : ∃ R, reachL os L = R := ⟨_, rfl⟩
      rw [hRR] at o4 hRl
      have HRR := hid hRR
      have hRm : R.length ≤ maxLen := by unfold maxLen; omega
      have hRn : R.length ≤ 1048576 := by omega
      clear hRR ha
      obtain ⟨A4, c4, rfl, t4⟩ := o4.form
      have b4 := b3.trans (hb.mono b3.size)
      have h4 := (h3.below hb (Nat.le_refl _)).more hb.size
      have r4 := (r3.below hb (Nat.le_refl _)).more hb.size
      have zw4 := b4.size
      clear h3 r3 f3 m3' o4 b3 hb
      go_wp2_with fail
      refine (toObjectS_any A c os w4 h4 hl hs1).mono ?_
      rintro e w5 ⟨g5, rfl, f5, hb⟩
      have b5 := b4.trans (hb.mono b4.size)
      have h5 := h4.below hb (by omega)
      have r5 := r4.below hb (by omega)
      have t5 := t4.below hb (Nat.le_refl _)
      have l5 := f5.lists
      have z5 := hb.size
      clear h4 r4 t4 hb b4
      go_wp2_with fail
      refine (toIntS_any _ A' c' fr w5 r5 (by omega) hfl).mono ?_
      rintro e w6 ⟨g6, rfl, m6, hb⟩
      have b6 := b5.trans (hb.mono b5.size)
      have h6 := h5.below hb (by omega)
      have r6 := r5.below hb (by omega)
      have t6 := t5.below hb z5
      have f6 := f5.below hb
      have l6 := l5.below hb (Nat.le_refl _)
      have z6 := hb.size
      have mlt := m6.lt
      clear h5 r5 t5 f5 l5 hb b5
      go_wp2_with fail
      refine (implStoreReach_any _ _ _ _ os fr w6 f6.objs hf hn m6.row hm).mono ?_
      rintro e w7 ⟨L7, ha7, v7, rfl, o7, hb⟩
      rw [ha7.reach HA.out, HRR.out] at o7
      clear ha7
      obtain ⟨A7, c7, rfl, -⟩ := o7.form
      have b7 := b6.trans (hb.mono b6.size)
      have h7 := h6.below hb (by omega)
      have r7 := r6.below hb (by omega)
      have t7 := t6.below hb (by omega)
      have f7 := f6.below hb
      have l7 := l6.below hb (by omega)
      have m7 := m6.below hb mlt.2
      have z7 := hb.size
      clear h6 r6 t6 f6 l6 m6 hb b6
      go_wp2_with fail
      refine (eqIntR_same _ _ A7 A4 c7 c4 R w7 o7.row t7 hRm).mono ?_
      rintro e w8 ⟨rfl, hb⟩
      have b8 := b7.trans (hb.mono b7.size)
      have h8 := h7.below hb (by omega)
      have r8 := r7.below hb (by omega)
      have t8 := t7.below hb (by omega)
      have f8 := f7.below hb
      have l8 := l7.below hb (by omega)
      have m8 := m7.below hb (by omega)
      have o8 := o7.below hb (Nat.le_refl _)
      have z8 := hb.size
      clear h7 r7 t7 f7 l7 m7 o7 hb b7
      go_wp2_with fail
      refine (toObjectS_any A c os w8 (h8.more (by omega)) hl hs1).mono ?_
      rintro e w9 ⟨g9, rfl, fn, hb⟩
      have b9 := b8.trans (hb.mono b8.size)
      have h9 := h8.below hb (by omega)
      have r9 := r8.below hb (by omega)
      have t9 := t8.below hb (by omega)
      have f9 := f8.below hb
      have l9 := l8.below hb (by omega)
      have m9 := m8.below hb (by omega)
      have o9 := o8.below hb (Nat.le_refl _)
      have z9 := hb.size
      clear h8 r8 t8 f8 l8 m8 o8 hb b8
      go_wp2_with fail
      refine (eqObjectS_same _ _ _ _ os w9 f9.objs fn.objs hl hs1).mono ?_
      rintro e w10 ⟨rfl, hb⟩
      have b10 := b9.trans (hb.mono b9.size)
      have h10 := h9.below hb (by omega)
      have r10 := r9.below hb (by omega)
      have t10 := t9.below hb (by omega)
      have l10 := l9.below hb (by omega)
      have m10 := m9.below hb (by omega)
      have o10 := o9.below hb (Nat.le_refl _)
      have z10 := hb.size
      clear h9 r9 t9 f9 l9 m9 o9 fn hb b9
      go_wp2_with fail
      refine (toIntS_any _ A' c' fr w10 r10 (by omega) hfl).mono ?_
      rintro e w11 ⟨g11, rfl, m11n, hb⟩
      have b11 := b10.trans (hb.mono b10.size)
      have h11 := h10.below hb (by omega)
      have r11 := r10.below hb (by omega)
      have t11 := t10.below hb (by omega)
      have l11 := l10.below hb (by omega)
      have m11 := m10.below hb (by omega)
      have o11 := o10.below hb (Nat.le_refl _)
      have z11 := hb.size
      clear h10 r10 t10 l10 m10 o10 hb b10
      go_wp2_with fail
      refine (eqIntR_same _ _ _ _ _ _ fr w11 m11.row m11n.row hm).mono ?_
      rintro e w12 ⟨rfl, hb⟩
      have b12 := b11.trans (hb.mono b11.size)
      have h12 := h11.below hb (by omega)
      have r12 := r11.below hb (by omega)
      have t12 := t11.below hb (by omega)
      have l12 := l11.below hb (by omega)
      have m12 := m11.below hb (by omega)
      have o12 := o11.below hb (Nat.le_refl _)
      have z12 := hb.size
      clear h11 r11 t11 l11 m11 o11 m11n hb b11
      go_wp2_with fail
      refine (markObjectS_any w4.heap.size w5.heap.size g5 os w12 l12 (by omega) z5 hl hs1).mono ?_
      rintro e w13 ⟨k13, rfl, hk13, ha⟩
      have b13 := b12.trans (ha.1.mono zw4)
      have h13 := h12.below ha.1 (Nat.le_refl _)
      have r13 := r12.below ha.1 (Nat.le_refl _)
      have t13 := t12.below ha.1 (Nat.le_refl _)
      have o13 := ha.own_ o12 (by omega)
      have z13 := ha.size_
      have m13 := ha.mine_ m12 (Nat.le_refl _)
      clear h12 r12 t12 l12 m12 o12 ha b12
      go_wp2_with fail
      refine (markIntS_own w5.heap.size g6 fr.length fr.length k13 (ints fr) w13 m13 hfl hk13.1 hk13.2).mono ?_
      rintro e w14 ⟨rfl, hw, -⟩
      have hk0 : 0 ≤ k13 + (fr.length : Int) := by omega
      clear hk13
      have bw := hw.below_ (B := w5.heap.size) mlt.1 (by omega)
      have b14 := b13.trans (bw.mono (by omega))
      have h14 := h13.below bw (by omega)
      have r14 := r13.below bw (by omega)
      have t14 := t13.below bw (by omega)
      have o14 := o13.wrote_ hw mlt.2
      have z14 : w14.heap.size = w13.heap.size := hw.2.1
      clear h13 r13 t13 m13 o13 hw bw b13
      go_wp2_with fail
      refine (eqIntR_same _ _ A7 A4 c7 c4 R w14 o14.row t14 hRm).mono ?_
      rintro e w15 ⟨rfl, hb⟩
      have b15 := b14.trans (hb.mono b14.size)
      have h15 := h14.below hb (by omega)
      have r15 := r14.below hb (by omega)
      have t15 := t14.below hb (by omega)
      have o15 := o14.below hb (Nat.le_refl _)
      have z15 := hb.size
      clear h14 r14 t14 o14 hb b14
      go_wp2_with fail
      refine (markInts_any _ A7 c7 R 1 w15 o15 hRn (by omega) (by omega)).mono ?_
      rintro e w16 ⟨rfl, o16, hg⟩
      have bw : Below w6.heap.size w15 w16 := (Below.refl _ _).grown hg (by omega) (fun k hk => (o15.lt_ k hk).1)
      have b16 := b15.trans (bw.mono (by omega))
      have h16 := h15.below bw (by omega)
      have r16 := r15.below bw (by omega)
      have t16 := t15.below bw (by omega)
      have q16 : Row w16 w16.heap.size A7 (ints (marks 1 R.length)) := o16.row'
      have z16 := hg.size
      clear h15 r15 t15 o15 o16 hg bw b15
      go_wp2_with fail
      refine (heldIntS_yes _ A7 c7 R.length 1 w16 q16 hRn (by omega) (by omega)).mono ?_
      rintro e w17 ⟨rfl, rfl⟩
      go_wp2_with fail
      refine (toObjectS_any A c os w16 (h16.more (by omega)) hl hs1).mono ?_
      rintro e w18 ⟨g18, rfl, f18, hb⟩
      have b18 := b16.trans (hb.mono b16.size)
      have r18 := r16.below hb (by omega)
      have t18 := t16.below hb (by omega)
      have q18 := (q16.below hb (Nat.le_refl _)).more hb.size
      have z18 := hb.size
      have f18' := f18.objs
      clear h16 r16 t16 q16 hb b16 f18
      go_wp2_with fail
      refine (toIntS_any _ A' c' fr w18 r18 (by omega) hfl).mono ?_
      rintro e w19 ⟨g19, rfl, m19, hb⟩
      have b19 := b18.trans (hb.mono b18.size)
      have t19 := t18.below hb (by omega)
      have q19 := (q18.below hb (Nat.le_refl _)).more hb.size
      have f19 := (f18'.below hb (Nat.le_refl _)).more hb.size
      have m19' := m19.row
      have z19 := hb.size
      clear r18 t18 q18 hb b18 f18' m19
      go_wp2_with fail
      refine (implStoreReach_any _ _ _ _ os fr w19 f19 hf hn m19' hm).mono ?_
      rintro e w20 ⟨L20, ha20, v20, rfl, o20, hb⟩
      rw [ha20.reach HA.out, HRR.out] at o20
      clear ha20
      obtain ⟨A20, c20, rfl, s20⟩ := o20.form
      have b20 := b19.trans (hb.mono b19.size)
      have t20 := t19.below hb (by omega)
      have q20 := (q19.below hb (Nat.le_refl _)).more hb.size
      clear t19 q19 hb b19 f19 m19' o20
      go_wp2_with fail
      refine (eqIntR_same _ _ A20 A4 c20 c4 R w20 s20 t20 hRm).mono ?_
      rintro e w21 ⟨rfl, hb⟩
      have b21 := b20.trans (hb.mono b20.size)
      have q21 := (q20.below hb (Nat.le_refl _)).more hb.size
      clear t20 q20 s20 hb b20
      go_wp2_with fail
      refine (heldIntS_yes _ A7 c7 R.length 1 w21 q21 hRn (by omega) (by omega)).mono ?_
      rintro e w22 ⟨rfl, rfl⟩
      go_wp2
      go_ret
      exact .mk_ b21
  · go_enter Try.func10, Try.ntmps10
    go_wp2
    go_ret
    exact .mk_ (Below.refl _ _)
set_option maxRecDepth 100000 in
set_option maxHeartbeats 8000000 in
theorem exactStoreMissing_any (A : Option Addr) (c : Nat) (os : List Ob) (A' : Option Addr) (c' : Nat) (fr : List Int) (w : World) (h : Objs w w.heap.size A os) (hf : Fit os) (hn : os.length ≤ maxLen) (hfr : Row w w.heap.size A' (ints fr)) (hm : fr.length ≤ maxLen) :
    Calls Try.prog 11 #[.slice A os.length c, .slice A' fr.length c'] w (Ret (.bool true) w) := by
  have hm' := hm
  unfold maxLen at hm'
  by_cases hfl : fr.length ≤ 1048576
  · go_enter Try.func11, Try.ntmps11
    go_wp2_with fail
    refine (szObjectS_any A c os 1048576 w h hf hn (by omega) (by omega)).mono ?_
    rintro e w1 ⟨q, rfl, hr, b1⟩
    rcases hr with rfl | ⟨hr0, hre⟩
    · go_wp2
      go_ret
      exact .mk_ b1
    · obtain ⟨hl, hsz⟩ := allSz_fits (os := os) (m := 1048576) (by omega)
      have hs1 : ∀ o ∈ os, o.zs.length ≤ 1048576 := fun o ho => (hsz o ho).1
      clear hre hsz
      have h1 := (h.below b1 (Nat.le_refl _)).more b1.size
      have r1 := (hfr.below b1 (Nat.le_refl _)).more b1.size
      clear h hfr
      go_wp2_with fail
      refine (toObjectS_any A c os w1 h1 hl hs1).mono ?_
      rintro e w2 ⟨g2, rfl, f2, hb⟩
      have b2 := b1.trans (hb.mono b1.size)
      have h2 := (h1.below hb (Nat.le_refl _)).more hb.size
      have r2 := (r1.below hb (Nat.le_refl _)).more hb.size
      have f2' := f2.objs
      clear h1 r1 hb b1 f2
      go_wp2_with fail
      refine (toIntS_any _ A' c' fr w2 r2 (Nat.le_refl _) hfl).mono ?_
      rintro e w3 ⟨g3, rfl, m3, hb⟩
      have b3 := b2.trans (hb.mono b2.size)
      have h3 := (h2.below hb (Nat.le_refl _)).more hb.size
      have r3 := (r2.below hb (Nat.le_refl _)).more hb.size
      have f3 := (f2'.below hb (Nat.le_refl _)).more hb.size
      have m3' := m3.row
      clear h2 r2 hb b2 f2' m3
      go_wp2_with fail
      refine (specStoreMissing_any _ _ _ _ os fr w3 f3 hf hn m3' hm).mono ?_
      rintro e w4 ⟨L, ha, v4, rfl, o4, hb⟩
      have HA := hid ha
      have hRl := (Ans.few (os := os) (L := L)).2
      obtain ⟨R, hRR⟩ : ∃ R, missL os L = R := ⟨_, rfl⟩
      rw [hRR] at o4 hRl
      have HRR := hid hRR
      have hRm : R.length ≤ maxLen := by unfold maxLen; omega
      have hRn : R.length ≤ 1048576 := by omega
      clear hRR ha
      obtain ⟨A4, c4, rfl, t4⟩ := o4.form
      have b4 := b3.trans (hb.mono b3.size)
      have h4 := (h3.below hb (Nat.le_refl _)).more hb.size
      have r4 := (r3.below hb (Nat.le_refl _)).more hb.size
      have zw4 := b4.size
      clear h3 r3 f3 m3' o4 b3 hb
      go_wp2_with fail
      refine (toObjectS_any A c os w4 h4 hl hs1).mono ?_
      rintro e w5 ⟨g5, rfl, f5, hb⟩
      have b5 := b4.trans (hb.mono b4.size)
      have h5 := h4.below hb (by omega)
      have r5 := r4.below hb (by omega)
      have t5 := t4.below hb (Nat.le_refl _)
      have l5 := f5.lists
      have z5 := hb.size
      clear h4 r4 t4 hb b4
      go_wp2_with fail
      refine (toIntS_any _ A' c' fr w5 r5 (by omega) hfl).mono ?_
      rintro e w6 ⟨g6, rfl, m6, hb⟩
      have b6 := b5.trans (hb.mono b5.size)
      have h6 := h5.below hb (by omega)
      have r6 := r5.below hb (by omega)
      have t6 := t5.below hb z5
      have f6 := f5.below hb
      have l6 := l5.below hb (Nat.le_refl _)
      have z6 := hb.size
      have mlt := m6.lt
      clear h5 r5 t5 f5 l5 hb b5
      go_wp2_with fail
      refine (implStoreMissing_any _ _ _ _ os fr w6 f6.objs hf hn m6.row hm).mono ?_
      rintro e w7 ⟨L7, ha7, v7, rfl, o7, hb⟩
      rw [ha7.miss HA.out, HRR.out] at o7
      clear ha7
      obtain ⟨A7, c7, rfl, -⟩ := o7.form
      have b7 := b6.trans (hb.mono b6.size)
      have h7 := h6.below hb (by omega)
      have r7 := r6.below hb (by omega)
      have t7 := t6.below hb (by omega)
      have f7 := f6.below hb
      have l7 := l6.below hb (by omega)
      have m7 := m6.below hb mlt.2
      have z7 := hb.size
      clear h6 r6 t6 f6 l6 m6 hb b6
      go_wp2_with fail
      refine (eqIntR_same _ _ A7 A4 c7 c4 R w7 o7.row t7 hRm).mono ?_
      rintro e w8 ⟨rfl, hb⟩
      have b8 := b7.trans (hb.mono b7.size)
      have h8 := h7.below hb (by omega)
      have r8 := r7.below hb (by omega)
      have t8 := t7.below hb (by omega)
      have f8 := f7.below hb
      have l8 := l7.below hb (by omega)
      have m8 := m7.below hb (by omega)
      have o8 := o7.below hb (Nat.le_refl _)
      have z8 := hb.size
      clear h7 r7 t7 f7 l7 m7 o7 hb b7
      go_wp2_with fail
      refine (toObjectS_any A c os w8 (h8.more (by omega)) hl hs1).mono ?_
      rintro e w9 ⟨g9, rfl, fn, hb⟩
      have b9 := b8.trans (hb.mono b8.size)
      have h9 := h8.below hb (by omega)
      have r9 := r8.below hb (by omega)
      have t9 := t8.below hb (by omega)
      have f9 := f8.below hb
      have l9 := l8.below hb (by omega)
      have m9 := m8.below hb (by omega)
      have o9 := o8.below hb (Nat.le_refl _)
      have z9 := hb.size
      clear h8 r8 t8 f8 l8 m8 o8 hb b8
      go_wp2_with fail
      refine (eqObjectS_same _ _ _ _ os w9 f9.objs fn.objs hl hs1).mono ?_
      rintro e w10 ⟨rfl, hb⟩
      have b10 := b9.trans (hb.mono b9.size)
      have h10 := h9.below hb (by omega)
      have r10 := r9.below hb (by omega)
      have t10 := t9.below hb (by omega)
      have l10 := l9.below hb (by omega)
      have m10 := m9.below hb (by omega)
      have o10 := o9.below hb (Nat.le_refl _)
      have z10 := hb.size
      clear h9 r9 t9 f9 l9 m9 o9 fn hb b9
      go_wp2_with fail
      refine (toIntS_any _ A' c' fr w10 r10 (by omega) hfl).mono ?_
      rintro e w11 ⟨g11, rfl, m11n, hb⟩
      have b11 := b10.trans (hb.mono b10.size)
      have h11 := h10.below hb (by omega)
      have r11 := r10.below hb (by omega)
      have t11 := t10.below hb (by omega)
      have l11 := l10.below hb (by omega)
      have m11 := m10.below hb (by omega)
      have o11 := o10.below hb (Nat.le_refl _)
      have z11 := hb.size
      clear h10 r10 t10 l10 m10 o10 hb b10
      go_wp2_with fail
      refine (eqIntR_same _ _ _ _ _ _ fr w11 m11.row m11n.row hm).mono ?_
      rintro e w12 ⟨rfl, hb⟩
      have b12 := b11.trans (hb.mono b11.size)
      have h12 := h11.below hb (by omega)
      have r12 := r11.below hb (by omega)
      have t12 := t11.below hb (by omega)
      have l12 := l11.below hb (by omega)
      have m12 := m11.below hb (by omega)
      have o12 := o11.below hb (Nat.le_refl _)
      have z12 := hb.size
      clear h11 r11 t11 l11 m11 o11 m11n hb b11
      go_wp2_with fail
      refine (markObjectS_any w4.heap.size w5.heap.size g5 os w12 l12 (by omega) z5 hl hs1).mono ?_
      rintro e w13 ⟨k13, rfl, hk13, ha⟩
      have b13 := b12.trans (ha.1.mono zw4)
      have h13 := h12.below ha.1 (Nat.le_refl _)
      have r13 := r12.below ha.1 (Nat.le_refl _)
      have t13 := t12.below ha.1 (Nat.le_refl _)
      have o13 := ha.own_ o12 (by omega)
      have z13 := ha.size_
      have m13 := ha.mine_ m12 (Nat.le_refl _)
      clear h12 r12 t12 l12 m12 o12 ha b12
      go_wp2_with fail
      refine (markIntS_own w5.heap.size g6 fr.length fr.length k13 (ints fr) w13 m13 hfl hk13.1 hk13.2).mono ?_
      rintro e w14 ⟨rfl, hw, -⟩
      have hk0 : 0 ≤ k13 + (fr.length : Int) := by omega
      clear hk13
      have bw := hw.below_ (B := w5.heap.size) mlt.1 (by omega)
      have b14 := b13.trans (bw.mono (by omega))
      have h14 := h13.below bw (by omega)
      have r14 := r13.below bw (by omega)
      have t14 := t13.below bw (by omega)
      have o14 := o13.wrote_ hw mlt.2
      have z14 : w14.heap.size = w13.heap.size := hw.2.1
      clear h13 r13 t13 m13 o13 hw bw b13
      go_wp2_with fail
      refine (eqIntR_same _ _ A7 A4 c7 c4 R w14 o14.row t14 hRm).mono ?_
      rintro e w15 ⟨rfl, hb⟩
      have b15 := b14.trans (hb.mono b14.size)
      have h15 := h14.below hb (by omega)
      have r15 := r14.below hb (by omega)
      have t15 := t14.below hb (by omega)
      have o15 := o14.below hb (Nat.le_refl _)
      have z15 := hb.size
      clear h14 r14 t14 o14 hb b14
      go_wp2_with fail
      refine (markInts_any _ A7 c7 R 1 w15 o15 hRn (by omega) (by omega)).mono ?_
      rintro e w16 ⟨rfl, o16, hg⟩
      have bw : Below w6.heap.size w15 w16 := (Below.refl _ _).grown hg (by omega) (fun k hk => (o15.lt_ k hk).1)
      have b16 := b15.trans (bw.mono (by omega))
      have h16 := h15.below bw (by omega)
      have r16 := r15.below bw (by omega)
      have t16 := t15.below bw (by omega)
      have q16 : Row w16 w16.heap.size A7 (ints (marks 1 R.length)) := o16.row'
      have z16 := hg.size
      clear h15 r15 t15 o15 o16 hg bw b15
      go_wp2_with fail
      refine (heldIntS_yes _ A7 c7 R.length 1 w16 q16 hRn (by omega) (by omega)).mono ?_
      rintro e w17 ⟨rfl, rfl⟩
      go_wp2_with fail
      refine (toObjectS_any A c os w16 (h16.more (by omega)) hl hs1).mono ?_
      rintro e w18 ⟨g18, rfl, f18, hb⟩
      have b18 := b16.trans (hb.mono b16.size)
      have r18 := r16.below hb (by omega)
      have t18 := t16.below hb (by omega)
      have q18 := (q16.below hb (Nat.le_refl _)).more hb.size
      have z18 := hb.size
      have f18' := f18.objs
      clear h16 r16 t16 q16 hb b16 f18
      go_wp2_with fail
      refine (toIntS_any _ A' c' fr w18 r18 (by omega) hfl).mono ?_
      rintro e w19 ⟨g19, rfl, m19, hb⟩
      have b19 := b18.trans (hb.mono b18.size)
      have t19 := t18.below hb (by omega)
      have q19 := (q18.below hb (Nat.le_refl _)).more hb.size
      have f19 := (f18'.below hb (Nat.le_refl _)).more hb.size
      have m19' := m19.row
      have z19 := hb.size
      clear r18 t18 q18 hb b18 f18' m19
      go_wp2_with fail
      refine (implStoreMissing_any _ _ _ _ os fr w19 f19 hf hn m19' hm).mono ?_
      rintro e w20 ⟨L20, ha20, v20, rfl, o20, hb⟩
      rw [ha20.miss HA.out, HRR.out] at o20
      clear ha20
      obtain ⟨A20, c20, rfl, s20⟩ := o20.form
      have b20 := b19.trans (hb.mono b19.size)
      have t20 := t19.below hb (by omega)
      have q20 := (q19.below hb (Nat.le_refl _)).more hb.size
      clear t19 q19 hb b19 f19 m19' o20
      go_wp2_with fail
      refine (eqIntR_same _ _ A20 A4 c20 c4 R w20 s20 t20 hRm).mono ?_
      rintro e w21 ⟨rfl, hb⟩
      have b21 := b20.trans (hb.mono b20.size)
      have q21 := (q20.below hb (Nat.le_refl _)).more hb.size
      clear t20 q20 s20 hb b20
      go_wp2_with fail
      refine (heldIntS_yes _ A7 c7 R.length 1 w21 q21 hRn (by omega) (by omega)).mono ?_
      rintro e w22 ⟨rfl, rfl⟩
      go_wp2
      go_ret
      exact .mk_ b21
  · go_enter Try.func11, Try.ntmps11
    go_wp2
    go_ret
    exact .mk_ (Below.refl _ _)
end Go.Proofs.Ytfdilnibhcnkgaa
