/-
  Walk of the exact law on DeltaMake.
-/
import Derived.Test.YtkflpgdbookdhabMarkOps
namespace Go.Proofs.Ytkflpgdbookdhab
open Go.RowKit Wo Pu

set_option maxHeartbeats 4000000 in
theorem markOpS_any (B k : Nat) (v : Value) (os : List Op2) (w : World) (ho : OwnOps w B v os) (hn : os.length ≤ 8) (h1 : 1 ≤ k) (h2 : k ≤ 100) :
    Calls Try.prog 29 #[v, .int .i64 k] w (MarkedOps B v k os.length w) := by
  have ho' := ho
  rcases ho.2 with ⟨rfl, hz⟩ | ⟨g, cap, cur, rfl, _⟩
  · have hzs : os = [] := List.eq_nil_of_length_eq_zero hz
    subst hzs
    go_enter Try.func29, Try.ntmps29
    go_wp2_with fail
    go_loopw [1, 5] (fun q i wr => i = .int .i64 0 ∧ q = .int .i64 k ∧ wr = w) (fun _ _ _ => 0)
    case atStart => exact ⟨rfl, rfl, rfl⟩
    case round =>
      obtain ⟨rfl, rfl, rfl⟩ := hrel
      go_wp2
      go_ret
      exact .mk_ (by simp) ho' (World.grownBy.refl _ _)
  · exact markOpS_own B g cap k os w ho hn h1 h2

theorem heldText (k : Nat) (w : World) (x : Int) (hx : x = k) (h0 : 1 ≤ k) (h1 : k ≤ 1000) :
    Calls Try.prog 46 #[.int .i64 x] w (Ret (.string (mtext k)) w) := markText_at x k w hx h0 h1

set_option maxHeartbeats 4000000 in
theorem heldOpS_yes (A : Option Addr) (c k n : Nat) (w : World) (hr : Row w w.heap.size A (opsV (mks k n))) (hn : n ≤ 8) (h1 : 1 ≤ k) (h2 : k ≤ 100) :
    Calls Try.prog 30 #[.slice A n c, .int .i64 k] w (Ret (.int .i64 (k + 3 * n : Nat)) w) := by
  go_enter Try.func30, Try.ntmps30
  go_wp2_with fail
  go_loopw [1, 5] (fun q i wr => ∃ m J : Nat, m ≤ n ∧ i = .int .i64 m ∧ q = .int .i64 J ∧ J ≤ 900 ∧ 1 ≤ J ∧ Hid (J = k + 3 * m) ∧ Below w.heap.size w wr) (fun _ i _ => n - (intOf i).toNat)
  case atStart => exact ⟨0, k, Nat.zero_le _, rfl, rfl, by omega, h1, rfl, Below.refl _ _⟩
  case round =>
    obtain ⟨m, J, hm, rfl, rfl, hJ, hJ1, HJ, hb⟩ := hrel
    by_cases hlt : m < n
    · obtain ⟨o, ad, ho, rfl, ha, g0, g1, g2⟩ := (hr.below hb (Nat.le_refl _)).op_ (k := m) (by rw [mks_length]; exact hlt)
      rw [mks_get] at ho
      have eO : o = ⟨(J : Int), (J : Int) + 1, mtext (J + 2)⟩ := by rw [← ho]; unfold mkO; rw [HJ.out]
      subst eO
      simp only at g0 g1 g2
      have k2 : m ≤ 8 := by omega
      have k3 : J + 3 ≤ 900 := by rw [HJ.out]; omega
      have HJ2 : Hid (J + 3 = k + 3 * (m + 1)) := by show _ = _; rw [HJ.out]; omega
      have hz := hb.size
      have G2 := Later.cell (p := ⟨(ad.add (m * 3)).block, (ad.add (m * 3)).off + 2, none⟩) g2 (Nat.lt_of_lt_of_le ha hz)
      have hxx : Hid ((J : Int) + 1 + 1 = ((J + 2 : Nat) : Int)) := by show _ = _; omega
      have k0 : 0 ≤ (m : Int) := by omega
      have k1 : (m : Int) < (n : Int) := by omega
      clear ho g2 HJ
      go_wp2_with fail
      refine wp_region_later wr.heap.size (by kernel_rfl) (by kernel_rfl) ?_
      repeat (go_big_quiet_step ((go_at_call 46; exact Later.call (Nat.le_refl _) _ (heldText (J + 2) _ _ hxx.out (by omega) (by omega)))))
      refine wpQuiet_nil ?_
      intro _ hw'
      obtain ⟨xx, hxx⟩ := hw'
      have hbx := xx.b
      subst hxx
      go_wp2
      go_roundw
      case rel => exact ⟨m + 1, J + 3, by omega, by go_num, by go_num, by omega, by omega, HJ2, hb.trans (hbx.mono hz)⟩
      case measure => simp [intOf]; omega
    · have hm' : m = n := by omega
      subst hm'
      go_wp2
      go_ret
      exact .int_ (by rw [HJ.out]) hb

set_option maxHeartbeats 4000000 in
theorem exactDeltaMake_any (s t : ByteArray) (w : World) (f1 : s.size ≤ maxLen) (f2 : t.size ≤ maxLen) :
    Calls Try.prog 14 #[.string s, .string t] w (Ret (.bool true) w) := by
  unfold maxLen at f1 f2
  by_cases hs : s.size ≤ 1048576
  · by_cases ht : t.size ≤ 1048576
    · obtain ⟨os, hos⟩ : ∃ os, Hid (os = dMake s t) := ⟨_, rfl⟩
      have hn8 : os.length ≤ 8 := by rw [hos.out]; exact (make_few s t).1
      have hn : os.length ≤ 1048576 := by omega
      have IM : Hid (∀ x, Calls Try.prog 17 #[.string s, .string t] x (NewOps os x)) := fun x => by rw [hos.out]; exact implDeltaMake_any s t x hs ht
      have SM : Hid (∀ x, Calls Try.prog 18 #[.string s, .string t] x (NewOps os x)) := fun x => by rw [hos.out]; exact specDeltaMake_any s t x hs ht
      go_enter Try.func14, Try.ntmps14
      go_wp2_with fail
      refine (SM.out _).mono ?_
      rintro e w2 ⟨v2, rfl, o2, b2⟩
      obtain ⟨A2, c2, rfl, r2, hc2⟩ := o2.form
      have zw := b2.size
      clear o2 SM
      go_wp2_with fail
      refine (IM.out _).mono ?_
      rintro e w3 ⟨v3, rfl, o3, b3⟩
      obtain ⟨A3, c3, rfl, r3, hc3⟩ := o3.form
      have q3 := r2.below b3 (Nat.le_refl _)
      have b3' := b2.trans (b3.mono b2.size)
      have z3 := b3.size
      clear r2 b2 b3
      go_wp2_with fail
      refine (eqOpS_same A3 A2 c3 c2 os w3 r3 (q3.more z3) hn).mono ?_
      rintro e w4 ⟨rfl, b4⟩
      have o4 := o3.below b4
      have q4 := q3.below b4 z3
      have b4' := b3'.trans (b4.mono b3'.size)
      have z4 := Nat.le_trans z3 b4.size
      clear o3 q3 b3' b4 r3 z3
      go_wp2_with fail
      refine (markOpS_any w2.heap.size 1 _ os w4 o4 hn8 (by omega) (by omega)).mono ?_
      rintro e w5 ⟨rfl, o5, g5⟩
      have lt4 := World.ownsRow.lt o4
      have b5 : Below w2.heap.size w4 w5 := (Below.refl _ _).grown g5 z4 (fun j hj => (lt4 j hj).1)
      have q5 := q4.below b5 (Nat.le_refl _)
      have b5' := b4'.trans (b5.mono zw)
      have z5 := Nat.le_trans z4 b5.size
      have r5 : Row w5 w5.heap.size A3 (opsV (mks 1 os.length)) := by
        obtain ⟨A, c, e, r, _⟩ := o5.form
        injection e with e1 e2 e3
        subst e1
        exact r
      clear o4 g5 lt4 q4 b4' b5 z4 o5
      go_wp2_with fail
      refine (heldOpS_yes A3 c3 1 os.length w5 r5 hn8 (by omega) (by omega)).mono ?_
      rintro e w6 ⟨rfl, b6⟩
      have r6 := (r5.below b6 (Nat.le_refl _)).more b6.size
      have q6 := q5.below b6 z5
      have b6' := b5'.trans (b6.mono b5'.size)
      have z6 := Nat.le_trans z5 b6.size
      clear r5 q5 b5' b6 z5
      go_wp2_with fail
      refine (IM.out _).mono ?_
      rintro e w7 ⟨v7, rfl, o7, b7⟩
      obtain ⟨A7, c7, rfl, p7, hc7⟩ := o7.form
      have r7 := (r6.below b7 (Nat.le_refl _)).more b7.size
      have q7 := (q6.below b7 z6).more (Nat.le_trans z6 b7.size)
      have b7' := b6'.trans (b7.mono b6'.size)
      clear r6 q6 b6' b7 o7
      go_wp2_with fail
      refine (eqOpS_same A7 A2 c7 c2 os w7 p7 q7 hn).mono ?_
      rintro e w8 ⟨rfl, b8⟩
      have r8 := (r7.below b8 (Nat.le_refl _)).more b8.size
      have b8' := b7'.trans (b8.mono b7'.size)
      clear r7 q7 b7' b8 p7
      go_wp2_with fail
      refine (heldOpS_yes A3 c3 1 os.length w8 r8 hn8 (by omega) (by omega)).mono ?_
      rintro e w9 ⟨rfl, b9⟩
      go_wp2
      go_ret
      exact .mk_ (b8'.trans (b9.mono b8'.size))
    · go_enter Try.func14, Try.ntmps14
      go_wp2
      go_ret
      exact .mk_ (Below.refl _ _)
  · go_enter Try.func14, Try.ntmps14
    go_wp2
    go_ret
    exact .mk_ (Below.refl _ _)
end Go.Proofs.Ytkflpgdbookdhab
