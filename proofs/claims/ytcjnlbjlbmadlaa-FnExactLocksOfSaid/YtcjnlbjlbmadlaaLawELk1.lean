/-
  Walks of the exact laws on LocksValid, LocksFree and LocksOf.
-/
import Derived.Test.YtcjnlbjlbmadlaaRefW
import Derived.Test.YtcjnlbjlbmadlaaLockM
namespace Go.Proofs.Ytcjnlbjlbmadlaa
open Go.RowKit Wo Pu Rf Lk

theorem Mine.ints_ {w : World} {B g : Nat} {zs : List Int} (h : Mine w B 3 1 g zs.length (ints zs)) : Row w w.heap.size (some ⟨g, 0, none⟩) (ints zs) := h.row
set_option maxHeartbeats 4000000 in
theorem exactLocksValid_any (A : Option Addr) (c : Nat) (zs : List Int) (w : World) (f1 : Row w w.heap.size A (ints zs)) (f2 : zs.length ≤ maxLen) :
    Calls Try.prog 6 #[.slice A zs.length c] w (Ret (.bool true) w) := by
  unfold maxLen at f2
  by_cases hn : zs.length ≤ 1048576
  · obtain ⟨v, hv⟩ := bool_of (LV zs)
    have HV := hid hv
    clear hv
    go_enter Try.func6, Try.ntmps6
    go_wp2_with fail
    refine (toIntS_any _ A c zs _ f1 (Nat.le_refl _) hn).mono ?_
    rintro e w1 ⟨g1, rfl, m1, b1⟩
    have r1 := m1.ints_
    have s1 := f1.on b1
    go_wp2_with fail
    refine (specLocksValid_is v _ _ zs _ _ r1 (by omega) HV.out).mono ?_
    rintro e w2 ⟨rfl, rfl⟩
    go_wp2_with fail
    refine (toIntS_any _ A c zs _ s1 (Nat.le_refl _) hn).mono ?_
    rintro e w3 ⟨g3, rfl, m3, b3⟩
    have r3 := m3.ints_
    have s3 := s1.on b3
    have b4 := b1.trans (b3.mono b1.size)
    clear f1 m1 r1 s1 b1 b3 m3
    go_wp2_with fail
    refine (implLocksValid_is v _ _ zs _ _ r3 (by omega) HV.out).mono ?_
    rintro e w5 ⟨rfl, d5⟩
    have r5 := r3.on d5
    have s5 := s3.on d5
    have b5 := b4.trans (d5.mono b4.size)
    clear r3 s3 b4 d5 HV
    go_wp2_with fail
    refine (toIntS_any _ A c zs _ s5 (Nat.le_refl _) hn).mono ?_
    rintro e w6 ⟨g6, rfl, m6, d6⟩
    have r6 := r5.on d6
    have t6 := m6.ints_
    have b6 := b5.trans (d6.mono b5.size)
    clear r5 s5 b5 d6 m6
    go_wp2_with fail
    refine (eqIntS_ret _ _ _ _ zs _ _ _ r6 t6 (by unfold maxLen; omega)).mono ?_
    rintro e w7 ⟨rfl, d7⟩
    go_wp2
    go_ret
    exact .mk_ (b6.trans (d7.mono b6.size))
  · go_enter Try.func6, Try.ntmps6
    go_wp2
    go_ret
    exact .mk_ (Below.refl _ _)
theorem InB.le {w : World} {B N R n c : Nat} {A : Option Addr} {zs : List Int} (h : OwnI w B (.slice A n c) zs) (hI : InB A R) (hN : A = none → R = N) (hB : N ≤ B) : N ≤ R := by
  cases A with
  | none => rw [hN rfl]; exact Nat.le_refl _
  | some ad =>
    have h1 := (World.ownsRow.lt h ad.block rfl).1
    have h2 := hI ad rfl
    omega
set_option maxRecDepth 100000 in
set_option maxHeartbeats 8000000 in
theorem exactLocksFree_any (A : Option Addr) (c : Nat) (zs : List Int) (t : Int) (w : World) (f1 : Row w w.heap.size A (ints zs)) (f2 : zs.length ≤ maxLen) (_wt : (Lit.int .i64 t).wf = true) :
    Calls Try.prog 7 #[.slice A zs.length c, .int .i64 t] w (Ret (.bool true) w) := by
  unfold maxLen at f2
  go_enter Try.func7, Try.ntmps7
  by_cases hn : zs.length ≤ 1048576
  · obtain ⟨v, hv⟩ := bool_of (LV zs ∧ TV t)
    obtain ⟨b, hb⟩ := bool_of (v = true ∧ t ∈ zs)
    obtain ⟨qs, hqs⟩ : ∃ qs, freed v zs t = qs := ⟨_, rfl⟩
    have hq : qs.length ≤ 1048576 := by
      rw [← hqs]
      unfold freed
      cases v with
      | false => exact Nat.zero_le _
      | true => rw [if_pos rfl, free_length]; exact hn
    have SA : Hid (∀ x A c, Row x x.heap.size A (ints zs) → Calls Try.prog 13 #[.slice A zs.length c, .int .i64 t] x (Took qs b x)) := fun x A c h => specLocksFree_is v b qs A c zs t x h (by omega) hv hb hqs
    have IA : Hid (∀ x A c, Row x x.heap.size A (ints zs) → Calls Try.prog 12 #[.slice A zs.length c, .int .i64 t] x (Took qs b x)) := fun x A c h => implLocksFree_is v b qs A c zs t x h (by omega) hv hb hqs
    obtain ⟨K1, hK1⟩ : ∃ K1 : Int, K1 = 1 + (zs.length : Int) := ⟨_, rfl⟩
    obtain ⟨K3, hK3⟩ : ∃ K3 : Int, K3 = 1 + (qs.length : Int) := ⟨_, rfl⟩
    have HK1 := hid hK1
    have HK3 := hid hK3
    have k1 : decide (K1 < 0) = false := decide_eq_false (by omega)
    have k3 : decide (K3 < 0) = false := decide_eq_false (by omega)
    clear hK1 hK3
    clear hv hb hqs
    go_wp2_with fail
    refine (toIntS_any _ A c zs _ f1 (Nat.le_refl _) hn).mono ?_
    rintro e w1 ⟨j1, rfl, m1, d1⟩
    have z1 : Row w1 w1.heap.size (some ⟨j1, 0, none⟩) (ints zs) := m1.row
    have f1' := f1.on d1
    clear f1 m1
    go_wp2_with fail
    refine (SA.out _ _ _ z1).mono ?_
    rintro e w3 ⟨A0, c0, rfl, o3, d3⟩
    have q3 := o3.row
    have rz3 := f1'.on d3
    have b3 := d1.trans (d3.mono d1.size)
    clear f1' z1 o3 d3 d1 SA
    go_wp2_with fail
    refine (toIntS_any _ A c zs _ rz3 (Nat.le_refl _) hn).mono ?_
    rintro e w5 ⟨j4, rfl, m4, d5⟩
    have x5 : OwnI w5 w3.heap.size (.slice (some ⟨j4, 0, none⟩) zs.length zs.length) zs := m4
    have hj4 := m4.lt
    clear m4
    go_wp2_with fail
    refine (IA.out _ _ _ x5.row).mono ?_
    rintro e w6 ⟨A6, c6, rfl, o6, e6⟩
    have x6 := x5.below e6 (Nat.le_refl _)
    have d6 := d5.trans (e6.mono d5.size)
    obtain ⟨R6, hI6, hN6⟩ := inB_of A6 w3.heap.size
    have hR6 : w3.heap.size ≤ R6 := InB.le o6 hI6 hN6 d5.size
    clear x5 d5 hN6
    go_wp2_with fail
    refine (eqIntS_ret _ _ _ _ qs _ _ _ o6.row (q3.on d6) (by unfold maxLen; omega)).mono ?_
    rintro e w7 ⟨rfl, e7⟩
    have x7 := x6.below e7 (Nat.le_refl _)
    have o7 := o6.below e7 (Nat.le_refl _)
    have d7 := d6.trans (e7.mono d6.size)
    clear x6 o6 d6 e7 e6
    go_wp2_with fail
    refine (toIntS_any _ A c zs _ (rz3.on d7) (Nat.le_refl _) hn).mono ?_
    rintro e w8 ⟨j8, rfl, m8, e8⟩
    have t8 : Row w8 w8.heap.size (some ⟨j8, 0, none⟩) (ints zs) := m8.row
    have x8 := x7.below e8 (Nat.le_refl _)
    have o8 := o7.below e8 (Nat.le_refl _)
    have d8 := d7.trans (e8.mono d7.size)
    clear x7 o7 d7 e8 m8
    go_wp2_with fail
    refine (eqIntS_ret _ _ _ _ zs _ _ _ x8.row t8 (by unfold maxLen; omega)).mono ?_
    rintro e w11 ⟨rfl, e11⟩
    have x11 := x8.below e11 (Nat.le_refl _)
    have o11 := o8.below e11 (Nat.le_refl _)
    have d11 := d8.trans (e11.mono d8.size)
    clear x8 o8 d8 e11 t8
    go_wp2_with fail
    refine (markInts_to K1 j4 _ _ _ zs _ x11 (inB_some _ _) hn HK1.out).mono ?_
    rintro e w13 ⟨rfl, -, T12⟩
    have o13 := o11.but T12 hj4.2
    have d13 := d11.trans (T12.below d11.size hj4.1)
    clear x11 o11 d11 T12
    go_wp2_with fail
    refine (eqIntS_ret _ _ _ _ qs _ _ _ o13.row (q3.on d13) (by unfold maxLen; omega)).mono ?_
    rintro e w14 ⟨rfl, e14⟩
    have o14 := o13.below e14 (Nat.le_refl _)
    have d14 := d13.trans (e14.mono d13.size)
    clear o13 d13 e14
    go_wp2_with fail
    refine (markInts_to K3 R6 _ _ _ qs _ o14 hI6 hq HK3.out).mono ?_
    rintro e w15 ⟨rfl, o15, T15⟩
    have r15 := o15.row
    have d15 := d14.trans (T15.below d14.size hR6)
    clear o14 d14 T15 o15
    go_wp2_with fail
    refine (heldInts_to K3 _ _ _ _ _ r15 hq HK3.out).mono ?_
    rintro e w16 ⟨rfl, rfl⟩
    go_wp2_with fail
    refine (toIntS_any _ A c zs _ (rz3.on d15) (Nat.le_refl _) hn).mono ?_
    rintro e w18 ⟨j17, rfl, m17, e17⟩
    have z18 : Row w18 w18.heap.size (some ⟨j17, 0, none⟩) (ints zs) := m17.row
    have r18 := r15.on e17
    have d18 := d15.trans (e17.mono d15.size)
    clear r15 d15 e17 m17
    go_wp2_with fail
    refine (IA.out _ _ _ z18).mono ?_
    rintro e w19 ⟨A9, c9, rfl, o19, e19⟩
    have h19 := o19.row
    have r19 := r18.on e19
    have d19 := d18.trans (e19.mono d18.size)
    clear z18 r18 d18 e19 o19 IA
    go_wp2_with fail
    refine (eqIntS_ret _ _ _ _ qs _ _ _ h19 (q3.on d19) (by unfold maxLen; omega)).mono ?_
    rintro e w20 ⟨rfl, e20⟩
    have r20 := r19.on e20
    have d20 := d19.trans (e20.mono d19.size)
    clear r19 d19 h19 e20
    go_wp2_with fail
    refine (heldInts_to K3 _ _ _ _ _ r20 hq HK3.out).mono ?_
    rintro e w21 ⟨rfl, rfl⟩
    go_wp2
    go_ret
    exact .mk_ (b3.trans (d20.mono b3.size))
  · go_wp2
    go_ret
    exact .mk_ (Below.refl _ _)
set_option maxRecDepth 100000 in
set_option maxHeartbeats 8000000 in
theorem exactLocksOf_any (A : Option Addr) (c : Nat) (zs : List Int) (t : Int) (w : World) (f1 : Row w w.heap.size A (ints zs)) (f2 : zs.length ≤ maxLen) (_wt : (Lit.int .i64 t).wf = true) :
    Calls Try.prog 8 #[.slice A zs.length c, .int .i64 t] w (Ret (.bool true) w) := by
  unfold maxLen at f2
  go_enter Try.func8, Try.ntmps8
  by_cases hn : zs.length ≤ 1048576
  · obtain ⟨v, hv⟩ := bool_of (LV zs ∧ TV t)
    obtain ⟨qs, hqs⟩ : ∃ qs, owned v zs t = qs := ⟨_, rfl⟩
    have hq : qs.length ≤ 1048576 := by
      rw [← hqs]
      unfold owned
      cases v with
      | false => exact Nat.zero_le _
      | true => rw [if_pos rfl]; exact Nat.le_trans (ofL_le _ _ _) hn
    have SA : Hid (∀ x A c, Row x x.heap.size A (ints zs) → Calls Try.prog 24 #[.slice A zs.length c, .int .i64 t] x (IntsOf qs x)) := fun x A c h => specLocksOf_is v qs A c zs t x h (by omega) hv hqs
    have IA : Hid (∀ x A c, Row x x.heap.size A (ints zs) → Calls Try.prog 16 #[.slice A zs.length c, .int .i64 t] x (IntsOf qs x)) := fun x A c h => implLocksOf_is v qs A c zs t x h (by omega) hv hqs
    obtain ⟨K1, hK1⟩ : ∃ K1 : Int, K1 = 1 + (zs.length : Int) := ⟨_, rfl⟩
    obtain ⟨K3, hK3⟩ : ∃ K3 : Int, K3 = 1 + (qs.length : Int) := ⟨_, rfl⟩
    have HK1 := hid hK1
    have HK3 := hid hK3
    have k1 : decide (K1 < 0) = false := decide_eq_false (by omega)
    have k3 : decide (K3 < 0) = false := decide_eq_false (by omega)
    clear hK1 hK3
    clear hv hqs
    go_wp2_with fail
    refine (toIntS_any _ A c zs _ f1 (Nat.le_refl _) hn).mono ?_
    rintro e w1 ⟨j1, rfl, m1, d1⟩
    have z1 : Row w1 w1.heap.size (some ⟨j1, 0, none⟩) (ints zs) := m1.row
    have f1' := f1.on d1
    clear f1 m1
    go_wp2_with fail
    refine (SA.out _ _ _ z1).mono ?_
    rintro e w3 ⟨A0, c0, rfl, o3, d3⟩
    have q3 := o3.row
    have rz3 := f1'.on d3
    have b3 := d1.trans (d3.mono d1.size)
    clear f1' z1 o3 d3 d1 SA
    go_wp2_with fail
    refine (toIntS_any _ A c zs _ rz3 (Nat.le_refl _) hn).mono ?_
    rintro e w5 ⟨j4, rfl, m4, d5⟩
    have x5 : OwnI w5 w3.heap.size (.slice (some ⟨j4, 0, none⟩) zs.length zs.length) zs := m4
    have hj4 := m4.lt
    clear m4
    go_wp2_with fail
    refine (IA.out _ _ _ x5.row).mono ?_
    rintro e w6 ⟨A6, c6, rfl, o6, e6⟩
    have x6 := x5.below e6 (Nat.le_refl _)
    have d6 := d5.trans (e6.mono d5.size)
    obtain ⟨R6, hI6, hN6⟩ := inB_of A6 w3.heap.size
    have hR6 : w3.heap.size ≤ R6 := InB.le o6 hI6 hN6 d5.size
    clear x5 d5 hN6
    go_wp2_with fail
    refine (eqIntS_ret _ _ _ _ qs _ _ _ o6.row (q3.on d6) (by unfold maxLen; omega)).mono ?_
    rintro e w7 ⟨rfl, e7⟩
    have x7 := x6.below e7 (Nat.le_refl _)
    have o7 := o6.below e7 (Nat.le_refl _)
    have d7 := d6.trans (e7.mono d6.size)
    clear x6 o6 d6 e7 e6
    go_wp2_with fail
    refine (toIntS_any _ A c zs _ (rz3.on d7) (Nat.le_refl _) hn).mono ?_
    rintro e w8 ⟨j8, rfl, m8, e8⟩
    have t8 : Row w8 w8.heap.size (some ⟨j8, 0, none⟩) (ints zs) := m8.row
    have x8 := x7.below e8 (Nat.le_refl _)
    have o8 := o7.below e8 (Nat.le_refl _)
    have d8 := d7.trans (e8.mono d7.size)
    clear x7 o7 d7 e8 m8
    go_wp2_with fail
    refine (eqIntS_ret _ _ _ _ zs _ _ _ x8.row t8 (by unfold maxLen; omega)).mono ?_
    rintro e w11 ⟨rfl, e11⟩
    have x11 := x8.below e11 (Nat.le_refl _)
    have o11 := o8.below e11 (Nat.le_refl _)
    have d11 := d8.trans (e11.mono d8.size)
    clear x8 o8 d8 e11 t8
    go_wp2_with fail
    refine (markInts_to K1 j4 _ _ _ zs _ x11 (inB_some _ _) hn HK1.out).mono ?_
    rintro e w13 ⟨rfl, -, T12⟩
    have o13 := o11.but T12 hj4.2
    have d13 := d11.trans (T12.below d11.size hj4.1)
    clear x11 o11 d11 T12
    go_wp2_with fail
    refine (eqIntS_ret _ _ _ _ qs _ _ _ o13.row (q3.on d13) (by unfold maxLen; omega)).mono ?_
    rintro e w14 ⟨rfl, e14⟩
    have o14 := o13.below e14 (Nat.le_refl _)
    have d14 := d13.trans (e14.mono d13.size)
    clear o13 d13 e14
    go_wp2_with fail
    refine (markInts_to K3 R6 _ _ _ qs _ o14 hI6 hq HK3.out).mono ?_
    rintro e w15 ⟨rfl, o15, T15⟩
    have r15 := o15.row
    have d15 := d14.trans (T15.below d14.size hR6)
    clear o14 d14 T15 o15
    go_wp2_with fail
    refine (heldInts_to K3 _ _ _ _ _ r15 hq HK3.out).mono ?_
    rintro e w16 ⟨rfl, rfl⟩
    go_wp2_with fail
    refine (toIntS_any _ A c zs _ (rz3.on d15) (Nat.le_refl _) hn).mono ?_
    rintro e w18 ⟨j17, rfl, m17, e17⟩
    have z18 : Row w18 w18.heap.size (some ⟨j17, 0, none⟩) (ints zs) := m17.row
    have r18 := r15.on e17
    have d18 := d15.trans (e17.mono d15.size)
    clear r15 d15 e17 m17
    go_wp2_with fail
    refine (IA.out _ _ _ z18).mono ?_
    rintro e w19 ⟨A9, c9, rfl, o19, e19⟩
    have h19 := o19.row
    have r19 := r18.on e19
    have d19 := d18.trans (e19.mono d18.size)
    clear z18 r18 d18 e19 o19 IA
    go_wp2_with fail
    refine (eqIntS_ret _ _ _ _ qs _ _ _ h19 (q3.on d19) (by unfold maxLen; omega)).mono ?_
    rintro e w20 ⟨rfl, e20⟩
    have r20 := r19.on e20
    have d20 := d19.trans (e20.mono d19.size)
    clear r19 d19 h19 e20
    go_wp2_with fail
    refine (heldInts_to K3 _ _ _ _ _ r20 hq HK3.out).mono ?_
    rintro e w21 ⟨rfl, rfl⟩
    go_wp2
    go_ret
    exact .mk_ (b3.trans (d20.mono b3.size))
  · go_wp2
    go_ret
    exact .mk_ (Below.refl _ _)
end Go.Proofs.Ytcjnlbjlbmadlaa
