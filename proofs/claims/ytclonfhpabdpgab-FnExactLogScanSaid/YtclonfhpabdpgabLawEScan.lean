/-
  Walk of the exact law on LogScan.
-/
import Derived.Test.YtclonfhpabdpgabMarkS
namespace Go.Proofs.Ytclonfhpabdpgab
open Go.RowKit Wo Pu Lg

set_option maxHeartbeats 1000000 in
theorem eqStringS_same (B C : Nat) (A A' : Option Addr) (c c' : Nat) (ts : List ByteArray) (w : World) (hr : Row w B A (txts ts)) (hr' : Row w C A' (txts ts)) (hm : ts.length ≤ 1048576) :
    Calls Try.prog 27 #[.slice A ts.length c, .slice A' ts.length c'] w (Quiet (.bool true) w) := by
  go_enter Try.func27, Try.ntmps27
  go_wp2
  go_loopw [5] (fun i wr => ∃ k : Nat, k ≤ ts.length ∧ i = .int .i64 k ∧ Dr w wr) (fun i _ => ts.length - (intOf i).toNat)
  case atStart => exact ⟨0, Nat.zero_le _, rfl, .refl _⟩
  case round =>
    obtain ⟨k, hk, rfl, HW⟩ := hrel
    by_cases hlt : k < ts.length
    · obtain ⟨ad, rfl, hb, hc⟩ := (HW.row hr).str_ hlt
      obtain ⟨ad', rfl, hb', hc'⟩ := (HW.row hr').str_ hlt
      have q0 : (0 : Int) ≤ (k : Int) := by omega
      have q1 : (k : Int) < (ts.length : Int) := by omega
      go_wp2
      go_quiet (fail)
      go_wp2
      go_roundw
      case rel => exact ⟨k + 1, by omega, by go_num, HW.drewN _⟩
      case measure => simp [intOf]; omega
    · have hk' : k = ts.length := by omega
      subst hk'
      go_wp2
      go_ret
      exact HW.quiet _
theorem eqStringS_ret (A A' : Option Addr) (c c' : Nat) (ts : List ByteArray) (w : World) (B C : Nat) (hr : Row w B A (txts ts)) (hr' : Row w C A' (txts ts)) (hm : ts.length ≤ 1048576) :
    Calls Try.prog 27 #[.slice A ts.length c, .slice A' ts.length c'] w (Ret (.bool true) w) :=
  (eqStringS_same _ _ A A' c c' ts w hr hr' hm).mono fun _ _ ⟨he, d, hd⟩ => ⟨he, by subst hd; exact Wo.Below.drewN (Below.refl _ _) d⟩
theorem markStringS_none (c : Nat) (A : Option Addr) (w : World) : Calls Try.prog 28 #[.slice A 0 c, .int .i64 1] w (Same (.int .i64 1) w) := by
  go_enter Try.func28, Try.ntmps28
  go_wp2_with fail
  go_loopw [1, 5] (fun q i wr => i = .int .i64 0 ∧ q = .int .i64 1 ∧ w = wr) (fun _ i _ => 0)
  case atStart => exact ⟨rfl, rfl, rfl⟩
  case round =>
    obtain ⟨rfl, rfl, rfl⟩ := hrel
    go_wp2
    go_ret
    exact ⟨rfl, rfl⟩
/-- The texts of a slice of the call's own, marked. -/
def MarkedT (B : Nat) (A : Option Addr) (n : Nat) (w : World) (e : Ending) (w' : World) : Prop := e = .returned (.int .i64 ((n + 1 : Nat) : Int)) ∧ Row w' w'.heap.size A (txts (mks n)) ∧ Below B w w'
theorem markStringS_any (B : Nat) (A : Option Addr) (c : Nat) (ts : List ByteArray) (w : World) (ho : OwnT w B (.slice A ts.length c) ts) (hn : ts.length ≤ 1048576) (hB : B ≤ w.heap.size) :
    Calls Try.prog 28 #[.slice A ts.length c, .int .i64 1] w (MarkedT B A ts.length w) := by
  rcases Nat.eq_zero_or_pos ts.length with h0 | h0
  · rw [h0]
    refine (markStringS_none c A w).mono ?_
    rintro e w' ⟨rfl, rfl⟩
    exact ⟨rfl, .inl rfl, Below.refl _ _⟩
  · obtain ⟨g, cap, e, -, -⟩ := World.ownsRow.form ho h0
    injection e with e1 _ e3
    subst e1
    refine (markStringS_own B g c ts.length ts w ho hn).mono ?_
    rintro e w' ⟨rfl, hg, ho'⟩
    refine ⟨rfl, Row.of_own ho' (fun _ => h0), (Below.refl _ _).grown hg hB (fun j hj => (World.ownsRow.lt ho j hj).1)⟩
set_option maxHeartbeats 4000000 in
theorem FnExactLogScan_any (s : ByteArray) (w : World) (f1 : s.size ≤ maxLen) :
    Calls Try.prog 8 #[.string s] w (Ret (.bool true) w) := by
  unfold maxLen at f1
  by_cases hs : s.size ≤ 1048576
  · obtain ⟨ts, hts⟩ : ∃ ts, texts (bl s) = ts := ⟨_, rfl⟩
    obtain ⟨u, hu⟩ : ∃ u, used (bl s) = u := ⟨_, rfl⟩
    have hn : ts.length ≤ 1048576 := by have := texts_few s; rw [hts] at this; omega
    have IM : Hid (∀ x, Calls Try.prog 16 #[.string s] x (fun e w' => ∃ v, e = .returned (.tuple #[v, .int .i64 (u : Nat)]) ∧ OwnT w' x.heap.size v ts ∧ Below x.heap.size x w')) := fun x => by subst hts; subst hu; exact implLogScan_any s x hs
    have SM : Hid (∀ x, Calls Try.prog 17 #[.string s] x (fun e w' => ∃ v, e = .returned (.tuple #[v, .int .i64 (u : Nat)]) ∧ OwnT w' x.heap.size v ts ∧ Below x.heap.size x w')) := fun x => by subst hts; subst hu; exact specLogScan_any s x hs
    clear hts hu
    go_enter Try.func8, Try.ntmps8
    go_wp2_with fail
    refine (SM.out _).mono ?_
    rintro e w2 ⟨v2, rfl, o2, b2⟩
    obtain ⟨A2, c2, rfl, r2, hc2⟩ := o2.form2
    have zw := b2.size
    clear o2 SM
    go_wp2_with fail
    refine (IM.out _).mono ?_
    rintro e w3 ⟨v3, rfl, o3, b3⟩
    obtain ⟨A3, c3, rfl, r3, hc3⟩ := o3.form2
    have q3 := r2.below b3 (Nat.le_refl _)
    have b3' := b2.trans (b3.mono b2.size)
    have z3 := b3.size
    clear r2 b2 b3
    go_wp2_with fail
    refine (eqStringS_ret A3 A2 c3 c2 ts w3 _ _ r3 q3 hn).mono ?_
    rintro e w4 ⟨rfl, b4⟩
    have o4 := o3.below b4 (Nat.le_refl _)
    have q4 := q3.below b4 z3
    have b4' := b3'.trans (b4.mono b3'.size)
    have z4 := Nat.le_trans z3 b4.size
    clear o3 q3 b3' b4 r3 z3
    go_wp2_with fail
    refine (markStringS_any w2.heap.size A3 c3 ts w4 o4 hn z4).mono ?_
    rintro e w5 ⟨rfl, r5, b5⟩
    have q5 := q4.below b5 (Nat.le_refl _)
    have b5' := b4'.trans (b5.mono zw)
    have z5 := Nat.le_trans z4 b5.size
    clear o4 q4 b4' b5 z4
    go_wp2_with fail
    refine (heldStringS_yes A3 c3 ts.length w5 r5 hn).mono ?_
    rintro e w6 ⟨rfl, b6⟩
    have r6 := (r5.below b6 (Nat.le_refl _)).more b6.size
    have q6 := q5.below b6 z5
    have b6' := b5'.trans (b6.mono b5'.size)
    have z6 := Nat.le_trans z5 b6.size
    clear r5 q5 b5' b6 z5
    go_wp2_with fail
    refine (IM.out _).mono ?_
    rintro e w7 ⟨v7, rfl, o7, b7⟩
    obtain ⟨A7, c7, rfl, p7, hc7⟩ := o7.form2
    have r7 := (r6.below b7 (Nat.le_refl _)).more b7.size
    have q7 := (q6.below b7 z6).more (Nat.le_trans z6 b7.size)
    have b7' := b6'.trans (b7.mono b6'.size)
    clear r6 q6 b6' b7 o7
    go_wp2_with fail
    refine (eqStringS_ret A7 A2 c7 c2 ts w7 _ _ p7 q7 hn).mono ?_
    rintro e w8 ⟨rfl, b8⟩
    have r8 := (r7.below b8 (Nat.le_refl _)).more b8.size
    have b8' := b7'.trans (b8.mono b7'.size)
    clear r7 q7 b7' b8 p7
    go_wp2_with fail
    refine (heldStringS_yes A3 c3 ts.length w8 r8 hn).mono ?_
    rintro e w9 ⟨rfl, b9⟩
    go_wp2
    go_ret
    exact .mk_ (b8'.trans (b9.mono b8'.size))
  · go_enter Try.func8, Try.ntmps8
    go_wp2
    go_ret
    exact .mk_ (Below.refl _ _)
end Go.Proofs.Ytclonfhpabdpgab
