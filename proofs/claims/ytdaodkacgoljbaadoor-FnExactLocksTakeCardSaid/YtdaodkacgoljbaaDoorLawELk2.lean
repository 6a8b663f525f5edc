/-
  Walk of the exact law on LocksTake.
-/
import Derived.Test.YtdaodkacgoljbaaDoorRefW
import Derived.Test.YtdaodkacgoljbaaDoorLockM
namespace Go.Proofs.YtdaodkacgoljbaaDoor
open Go.RowKit Wo Pu Rf Lk

theorem InB.le {w : World} {B N R n c : Nat} {A : Option Addr} {zs : List Int} (h : OwnI w B (.slice A n c) zs) (hI : InB A R) (hN : A = none → R = N) (hB : N ≤ B) : N ≤ R := by
  cases A with
  | none => rw [hN rfl]; exact Nat.le_refl _
  | some ad =>
    have h1 := (World.ownsRow.lt h ad.block rfl).1
    have h2 := hI ad rfl
    omega
set_option maxRecDepth 100000 in
set_option maxHeartbeats 8000000 in
theorem exactLocksTake_any (A : Option Addr) (c : Nat) (zs : List Int) (t : Int) (A2 : Option Addr) (c2 : Nat) (us : List Up) (w : World) (f1 : Row w w.heap.size A (ints zs)) (f2 : zs.length ≤ maxLen) (_wt : (Lit.int .i64 t).wf = true) (g1 : Row w w.heap.size A2 (upsV us)) (g2 : us.length ≤ maxLen) (er0 er1 : Addr) (hE : Errs er0 er1 w) :
    Calls Tryd.prog 8 #[.slice A zs.length c, .int .i64 t, .slice A2 us.length c2] w (Ret (.bool true) w) := by
  have HE := hid hE
  clear hE
  unfold maxLen at f2
  have g3 := g2
  unfold maxLen at g3
  go_enter Tryd.func8, Tryd.ntmps8
  by_cases hn : zs.length ≤ 1048576
  · by_cases hm : us.length ≤ 1048576
    · obtain ⟨y, hy⟩ := lway_of zs t us
      obtain ⟨qs, hqs⟩ : ∃ qs, applied zs (lk t us) y = qs := ⟨_, rfl⟩
      obtain ⟨ok, hok⟩ : ∃ ok, y.ok = ok := ⟨_, rfl⟩
      have hq : qs.length ≤ 1048576 := by rw [← hqs]; exact took_le hn
      have SA : Hid (∀ x A c A2 c2, Row x x.heap.size A (ints zs) → Row x x.heap.size A2 (upsV us) → Calls Tryd.prog 11 #[.slice A zs.length c, .int .i64 t, .slice A2 us.length c2] x (Took qs ok x)) := fun x A c A2 c2 h1 h2 => specTake_to qs ok y A A2 c c2 zs t us x h1 h2 (by omega) (by omega) hy hqs hok
      have IA : Hid (∀ x A c A2 c2, Below w.heap.size w x → Row x x.heap.size A (ints zs) → Row x x.heap.size A2 (upsV us) → Calls Tryd.prog 10 #[.slice A zs.length c, .int .i64 t, .slice A2 us.length c2] x (Took qs ok x)) := fun x A c A2 c2 h0 h1 h2 => implTake_to qs ok y A A2 c c2 zs t us x _ _ (HE.out.below h0) h1 h2 (by omega) (by omega) hy hqs hok
      obtain ⟨n1, hn1⟩ : ∃ n1 : Nat, n1 = 1 + zs.length := ⟨_, rfl⟩
      obtain ⟨K2, hK2⟩ : ∃ K2 : Int, K2 = (n1 : Int) + 3 * (us.length : Int) := ⟨_, rfl⟩
      obtain ⟨K3, hK3⟩ : ∃ K3 : Int, K3 = 1 + (qs.length : Int) := ⟨_, rfl⟩
      have HN1 : Hid ((n1 : Int) = 1 + (zs.length : Int)) := by show _ = _; omega
      have HK2 := hid hK2
      have HK3 := hid hK3
      have n1a : 1 ≤ n1 := by omega
      have n1b : n1 ≤ 4194304 := by omega
      have k2 : decide (K2 < 0) = false := decide_eq_false (by omega)
      have k3 : decide (K3 < 0) = false := decide_eq_false (by omega)
      clear hy hqs hok hn1 hK2 hK3
      go_wp2_with fail
      refine (szUpdateS_yes A2 us.length c2 1048576 _ g2 (by omega) (by omega) (by omega)).mono ?_
      rintro e w0 ⟨rfl, rfl⟩
      have e0 : decide ((1048576 : Int) - (us.length : Int) < 0) = false := decide_eq_false (by omega)
      go_wp2_with fail
      refine (toIntS_any _ A c zs _ f1 (Nat.le_refl _) hn).mono ?_
      rintro e w1 ⟨j1, rfl, m1, d1⟩
      have z1 : Row w1 w1.heap.size (some ⟨j1, 0, none⟩) (ints zs) := m1.row
      have f1' := f1.on d1
      have g1' := g1.on d1
      clear f1 g1 m1
      go_wp2_with fail
      refine (toUpdateS_any A2 c2 us _ g1' hm).mono ?_
      rintro e w2 ⟨j2, rfl, m2, d2⟩
      have z2 := z1.on d2
      have u2 : Row w2 w2.heap.size (some ⟨j2, 0, none⟩) (upsV us) := m2.row
      have f2' := f1'.on d2
      have g2' := g1'.on d2
      have b2 := d1.trans (d2.mono d1.size)
      clear f1' g1' z1 m2 d1 d2
      go_wp2_with fail
      refine (SA.out _ _ _ _ _ z2 u2).mono ?_
      rintro e w3 ⟨A0, c0, rfl, o3, d3⟩
      have q3 := o3.row
      have rz3 := f2'.on d3
      have ru3 := g2'.on d3
      have b3 := b2.trans (d3.mono b2.size)
      clear f2' g2' z2 u2 o3 d3 b2 SA
      go_wp2_with fail
      refine (toIntS_any _ A c zs _ rz3 (Nat.le_refl _) hn).mono ?_
      rintro e w4 ⟨j4, rfl, m4, d4⟩
      have x4 : OwnI w4 w3.heap.size (.slice (some ⟨j4, 0, none⟩) zs.length zs.length) zs := m4
      have hj4 := m4.lt
      clear m4
      go_wp2_with fail
      refine (toUpdateS_any A2 c2 us _ (ru3.on d4) hm).mono ?_
      rintro e w5 ⟨j5, rfl, m5, e5⟩
      have x5 := x4.below e5 (Nat.le_refl _)
      have y5 : OwnUps w5 w4.heap.size (.slice (some ⟨j5, 0, none⟩) us.length us.length) us := m5
      have hj5 := m5.lt
      have d5 := d4.trans (e5.mono d4.size)
      clear x4 m5 d4
      have zz4 := hj4.2
      go_wp2_with fail
      refine (IA.out _ _ _ _ _ (b3.trans (d5.mono b3.size)) x5.row (y5.row)).mono ?_
      rintro e w6 ⟨A6, c6, rfl, o6, e6⟩
      have x6 := x5.below e6 (Nat.le_refl _)
      have y6 := y5.below e6
      have d6 := d5.trans (e6.mono d5.size)
      obtain ⟨R6, hI6, hN6⟩ := inB_of A6 w3.heap.size
      have hR6 : w3.heap.size ≤ R6 := InB.le o6 hI6 hN6 d5.size
      clear x5 y5 d5 e5 hN6
      go_wp2_with fail
      refine (eqIntS_ret _ _ _ _ qs _ _ _ o6.row (q3.on d6) (by unfold maxLen; omega)).mono ?_
      rintro e w7 ⟨rfl, e7⟩
      have x7 := x6.below e7 (Nat.le_refl _)
      have y7 := y6.below e7
      have o7 := o6.below e7 (Nat.le_refl _)
      have d7 := d6.trans (e7.mono d6.size)
      clear x6 y6 o6 d6 e7 e6
      go_wp2_with fail
      refine (toIntS_any _ A c zs _ (rz3.on d7) (Nat.le_refl _) hn).mono ?_
      rintro e w8 ⟨j8, rfl, m8, e8⟩
      have t8 : Row w8 w8.heap.size (some ⟨j8, 0, none⟩) (ints zs) := m8.row
      have x8 := x7.below e8 (Nat.le_refl _)
      have y8 := y7.below e8
      have o8 := o7.below e8 (Nat.le_refl _)
      have d8 := d7.trans (e8.mono d7.size)
      clear x7 y7 o7 d7 e8 m8
      go_wp2_with fail
      refine (eqIntS_ret _ _ _ _ zs _ _ _ x8.row t8 (by unfold maxLen; omega)).mono ?_
      rintro e w9 ⟨rfl, e9⟩
      have x9 := x8.below e9 (Nat.le_refl _)
      have y9 := y8.below e9
      have o9 := o8.below e9 (Nat.le_refl _)
      have d9 := d8.trans (e9.mono d8.size)
      clear x8 y8 o8 d8 e9 t8
      go_wp2_with fail
      refine (toUpdateS_any A2 c2 us _ (ru3.on d9) hm).mono ?_
      rintro e w10 ⟨j10, rfl, m10, e10⟩
      have t10 : Row w10 w10.heap.size (some ⟨j10, 0, none⟩) (upsV us) := m10.row
      have x10 := x9.below e10 (Nat.le_refl _)
      have y10 := y9.below e10
      have o10 := o9.below e10 (Nat.le_refl _)
      have d10 := d9.trans (e10.mono d9.size)
      clear x9 y9 o9 d9 e10 m10
      go_wp2_with fail
      refine (eqUpdateS_same _ _ _ _ us _ y10.row t10 hm).mono ?_
      rintro e w11 ⟨rfl, e11⟩
      have x11 := x10.below e11 (Nat.le_refl _)
      have y11 := y10.below e11
      have o11 := o10.below e11 (Nat.le_refl _)
      have d11 := d10.trans (e11.mono d10.size)
      clear x10 y10 o10 d10 e11 t10
      go_wp2_with fail
      refine (markInts_to (n1 : Int) j4 _ _ _ zs _ x11 (inB_some _ _) hn HN1.out).mono ?_
      rintro e w12 ⟨rfl, -, T12⟩
      have y12 := y11.but T12 hj4.2
      have o12 := o11.but T12 (by omega)
      have d12 := d11.trans (T12.below d11.size hj4.1)
      clear x11 y11 o11 d11 T12
      go_wp2_with fail
      refine (markUps_to K2 n1 j5 _ _ _ us _ y12 (inB_some _ _) hm n1a n1b HK2.out).mono ?_
      rintro e w13 ⟨rfl, -, T13⟩
      have o13 := o12.but T13 hj5.2
      have d13 := d12.trans (T13.below d12.size (by omega))
      clear y12 o12 d12 T13
      go_wp2_with fail
      refine (eqIntS_ret _ _ _ _ qs _ _ _ o13.row (q3.on d13) (by unfold maxLen; omega)).mono ?_
      rintro e w14 ⟨rfl, e14⟩
      have o14 := o13.below e14 (Nat.le_refl _)
      have d14 := d13.trans (e14.mono d13.size)
      clear o13 d13 e14
      go_wp2_with fail
      refine (markInts_to K3 R6 _ _ _ qs _ o14 hI6 hq HK3.out).mono ?_
      rintro e w15 ⟨rfl, o15, T15⟩
      have r15 := o15.row
      have d15 := d14.trans (T15.below d14.size hR6)
      clear o14 d14 T15 o15
      go_wp2_with fail
      refine (heldInts_to K3 _ _ _ _ _ r15 hq HK3.out).mono ?_
      rintro e w16 ⟨rfl, rfl⟩
      go_wp2_with fail
      refine (toIntS_any _ A c zs _ (rz3.on d15) (Nat.le_refl _) hn).mono ?_
      rintro e w17 ⟨j17, rfl, m17, e17⟩
      have z17 : Row w17 w17.heap.size (some ⟨j17, 0, none⟩) (ints zs) := m17.row
      have r17 := r15.on e17
      have d17 := d15.trans (e17.mono d15.size)
      clear r15 d15 e17 m17
      go_wp2_with fail
      refine (toUpdateS_any A2 c2 us _ (ru3.on d17) hm).mono ?_
      rintro e w18 ⟨j18, rfl, m18, e18⟩
      have z18 := z17.on e18
      have u18 : Row w18 w18.heap.size (some ⟨j18, 0, none⟩) (upsV us) := m18.row
      have r18 := r17.on e18
      have d18 := d17.trans (e18.mono d17.size)
      clear z17 r17 d17 e18 m18
      go_wp2_with fail
      refine (IA.out _ _ _ _ _ (b3.trans (d18.mono b3.size)) z18 u18).mono ?_
      rintro e w19 ⟨A9, c9, rfl, o19, e19⟩
      have h19 := o19.row
      have r19 := r18.on e19
      have d19 := d18.trans (e19.mono d18.size)
      clear z18 u18 r18 d18 e19 o19 IA
      go_wp2_with fail
      refine (eqIntS_ret _ _ _ _ qs _ _ _ h19 (q3.on d19) (by unfold maxLen; omega)).mono ?_
      rintro e w20 ⟨rfl, e20⟩
      have r20 := r19.on e20
      have d20 := d19.trans (e20.mono d19.size)
      clear r19 d19 h19 e20
      go_wp2_with fail
      refine (heldInts_to K3 _ _ _ _ _ r20 hq HK3.out).mono ?_
      rintro e w21 ⟨rfl, rfl⟩
      go_wp2
      go_ret
      exact .mk_ (b3.trans (d20.mono b3.size))
    · go_wp2_with fail
      refine (szUpdateS_no A2 us.length c2 1048576 _ g2 (by omega) (by omega) (by omega)).mono ?_
      rintro e w0 ⟨rfl, rfl⟩
      go_wp2
      go_ret
      exact .mk_ (Below.refl _ _)
  · go_wp2
    go_ret
    exact .mk_ (Below.refl _ _)
end Go.Proofs.YtdaodkacgoljbaaDoor
