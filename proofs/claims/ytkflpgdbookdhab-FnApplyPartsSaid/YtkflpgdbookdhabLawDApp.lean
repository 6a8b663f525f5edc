/-
  Walks of the laws on DeltaApply: empty, fitting.
-/
import Derived.Test.YtkflpgdbookdhabApplyS
import Derived.Test.YtkflpgdbookdhabDrawD
import Derived.IntWalk
namespace Go.Proofs.Ytkflpgdbookdhab
open Go.RowKit Wo Pu


theorem FnApplyEmpty_no (A : Option Addr) (c : Nat) (bs : List Int) (w : World) (h : Code_ w A c bs) (hl : ¬ bs.length ≤ 1048576) :
    Calls Try.prog 11 #[.slice A bs.length c] w (Ret (.bool true) w) := by
  have hc := h.2.1
  have hm := h.2.2.1
  unfold maxLen at hm
  go_enter Try.func11, Try.ntmps11
  go_wp2
  go_ret
  exact .mk_ (Below.refl _ _)
set_option maxHeartbeats 4000000 in
theorem FnApplyEmpty_yes (A : Option Addr) (c : Nat) (bs : List Int) (w : World) (h : Code_ w A c bs) (hl : bs.length ≤ 1048576) :
    Calls Try.prog 11 #[.slice A bs.length c] w (Ret (.bool true) w) := by
  go_enter Try.func11, Try.ntmps11
  go_wp2_with fail
  refine (DrawDeltaApply_any A c bs _ h).mono ?_
  rintro e w1 ⟨s, A1, c1, os, rfl, hs9, hr, hc, hl3, hT, b1⟩
  have hn : os.length ≤ 1048576 := by omega
  have hs : s.size ≤ 1048576 := by omega
  go_wp2_with fail
  refine (implDeltaApply_any A1 c1 os s _ hr hn hT.fit hs).mono ?_
  rintro e w2 ⟨rfl, b2⟩
  have r2 := (hr.below b2 (Nat.le_refl _)).more b2.size
  have b2' := b1.trans (b2.mono b1.size)
  clear b1 b2 hr
  go_wp2_with fail
  refine (specDeltaApply_any A1 c1 os s _ r2 hn hT.fit hs).mono ?_
  rintro e w3 ⟨rfl, b3⟩
  have r3 := (r2.below b3 (Nat.le_refl _)).more b3.size
  have b3' := b2'.trans (b3.mono b2'.size)
  clear b2' b3 r2
  cases hok : dOk s os
  · have HR := hid (dRes_no hok)
    generalize dRes s os = g at *
    clear hok
    go_wp2
    go_ret
    exact .mk_ b3'
  · obtain ⟨e1, e2⟩ := app_none (dOk_parts hok).1
    generalize dRes s os = g at *
    clear hok
    have al := (Below.refl w3.heap.size w3).alloc (Nat.le_refl _) (.cells #[] 33)
    have r4 := (r3.below al (Nat.le_refl _)).more al.size
    have b4 := b3'.trans (al.mono b3'.size)
    have E := implDeltaApply_any (some ⟨w3.heap.size, 0, none⟩) 0 [] s (w3.alloc (.cells #[] 33)) (.inl rfl) (by simp) (fun o ho => (by cases ho)) hs
    unfold Applied at E
    rw [e1, e2] at E
    have HE := hid E
    clear E e1 e2 al r3 b3'
    go_wp2_with fail
    refine (HE.out).mono ?_
    rintro e w5 ⟨rfl, b5⟩
    have r5 := (r4.below b5 (Nat.le_refl _)).more b5.size
    have b5' := b4.trans (b5.mono b4.size)
    clear r4 b4 b5
    have al6 := (Below.refl w5.heap.size w5).alloc (Nat.le_refl _) (.cells #[] 33)
    have r6 := (r5.below al6 (Nat.le_refl _)).more al6.size
    have b6 := b5'.trans (al6.mono b5'.size)
    have hsum := hT.sum
    have ht : tsz os os.length ≤ 1048576 := by omega
    have hge := dsz_ge os
    have hd0 : dsz os ≤ 40 := by unfold dsz; omega
    have E6 := implDeltaSize_any (some ⟨w5.heap.size, 0, none⟩) 0 [] (w5.alloc (.cells #[] 33)) (.inl rfl) (by simp) (by simp [tsz])
    have HE6 := hid E6
    clear E6 al6 hT hsum
    go_wp2_with fail
    refine (HE6.out).mono ?_
    rintro e w7 ⟨rfl, b7⟩
    have r7 := (r6.below b7 (Nat.le_refl _)).more b7.size
    have b7' := b6.trans (b7.mono b6.size)
    clear r6 b6 b7
    rw [dsz_nil]
    go_wp2_with fail
    refine (implDeltaSize_any A1 c1 os w7 r7 hn ht).mono ?_
    rintro e w8 ⟨rfl, b8⟩
    go_wp2
    go_ret
    exact .bool_ (by first | (simp; done) | (simp; omega)) (b7'.trans (b8.mono b7'.size))
theorem FnApplyEmpty_any (A : Option Addr) (c : Nat) (bs : List Int) (w : World) (f1 : Row w w.heap.size A (bs.map (Value.int .u8))) (f2 : bs.length ≤ c) (f3 : c ≤ maxLen) (f4 : ∀ n ∈ bs, 0 ≤ n ∧ n < 256) :
    Calls Try.prog 11 #[.slice A bs.length c] w (Ret (.bool true) w) := by
  by_cases hl : bs.length ≤ 1048576
  · exact FnApplyEmpty_yes A c bs w ⟨f1, f2, f3, f4⟩ hl
  · exact FnApplyEmpty_no A c bs w ⟨f1, f2, f3, f4⟩ hl

theorem FnApplyFits_no (A : Option Addr) (c : Nat) (bs : List Int) (w : World) (h : Code_ w A c bs) (hl : ¬ bs.length ≤ 1048576) :
    Calls Try.prog 9 #[.slice A bs.length c] w (Ret (.bool true) w) := by
  have hc := h.2.1
  have hm := h.2.2.1
  unfold maxLen at hm
  go_enter Try.func9, Try.ntmps9
  go_wp2
  go_ret
  exact .mk_ (Below.refl _ _)
set_option maxHeartbeats 4000000 in
theorem FnApplyFits_yes (A : Option Addr) (c : Nat) (bs : List Int) (w : World) (h : Code_ w A c bs) (hl : bs.length ≤ 1048576) :
    Calls Try.prog 9 #[.slice A bs.length c] w (Ret (.bool true) w) := by
  go_enter Try.func9, Try.ntmps9
  go_wp2_with fail
  refine (DrawDeltaApply_any A c bs _ h).mono ?_
  rintro e w1 ⟨s, A1, c1, os, rfl, hs9, hr, hc, hl3, hT, b1⟩
  have hn : os.length ≤ 1048576 := by omega
  have hs : s.size ≤ 1048576 := by omega
  go_wp2_with fail
  refine (implDeltaApply_any A1 c1 os s _ hr hn hT.fit hs).mono ?_
  rintro e w2 ⟨rfl, b2⟩
  have r2 := (hr.below b2 (Nat.le_refl _)).more b2.size
  have b2' := b1.trans (b2.mono b1.size)
  clear b1 b2 hr
  go_wp2_with fail
  refine (specDeltaApply_any A1 c1 os s _ r2 hn hT.fit hs).mono ?_
  rintro e w3 ⟨rfl, b3⟩
  have r3 := (r2.below b3 (Nat.le_refl _)).more b3.size
  have b3' := b2'.trans (b3.mono b2'.size)
  clear b2' b3 r2
  cases hok : dOk s os
  · generalize dRes s os = g at *
    clear hok
    go_wp2
    go_ret
    exact .mk_ b3'
  · obtain ⟨e1, e2⟩ := app_fits hok
    generalize dRes s os = g at *
    have E1 := hid e1
    clear hok e1
    go_wp2_with fail
    go_loopw [9] (fun i wr => ∃ k : Nat, k ≤ os.length ∧ i = .int .i64 k ∧ Dr w3 wr) (fun i _ => os.length - (intOf i).toNat)
    case atStart => exact ⟨0, Nat.zero_le _, rfl, .refl _⟩
    case round =>
      obtain ⟨k, hk, rfl, HW⟩ := hrel
      by_cases hlt : k < os.length
      · obtain ⟨o, ad, ho, rfl, ha, g0, g1, g2⟩ := (HW.row r3).op_ hlt
        obtain ⟨m1, m2, m3⟩ := E1.out k hlt
        rw [ho] at m1 m2 m3
        have k0 : 0 ≤ (k : Int) := by omega
        have k1 : (k : Int) < (os.length : Int) := by omega
        clear ho
        by_cases hp : 0 < o.n
        · have q0 : decide (o.a < 0) = false := by simpa using m1
          have q2 : decide (0 < o.n) = true := by simpa using hp
          have q1 : decide ((s.size : Int) < o.a + o.n) = false := by simpa using m3
          have Q3 : Hid (IntKind.i64.wrap (o.a + o.n) = o.a + o.n) := IntWalk.i64_in _ (by omega)
          go_wp2_with fail
          have q3 := Q3.out
          go_quiet (fail)
          clear q0 q1 q2 q3
          go_wp2
          go_roundw
          case rel => exact ⟨k + 1, by omega, by go_num, HW.drewN _⟩
          case measure => simp [intOf]; omega
        · have q2 : decide (0 < o.n) = false := by simpa using hp
          go_wp2_with fail
          go_quiet (fail)
          clear q2
          go_wp2
          go_roundw
          case rel => exact ⟨k + 1, by omega, by go_num, HW.drewN _⟩
          case measure => simp [intOf]; omega
      · have hk' : k = os.length := by omega
        subst hk'
        go_wp2
        go_ret
        exact .bool_ (by first | (simp; done) | (simp; omega)) (b3'.trans (HW.below _))
theorem FnApplyFits_any (A : Option Addr) (c : Nat) (bs : List Int) (w : World) (f1 : Row w w.heap.size A (bs.map (Value.int .u8))) (f2 : bs.length ≤ c) (f3 : c ≤ maxLen) (f4 : ∀ n ∈ bs, 0 ≤ n ∧ n < 256) :
    Calls Try.prog 9 #[.slice A bs.length c] w (Ret (.bool true) w) := by
  by_cases hl : bs.length ≤ 1048576
  · exact FnApplyFits_yes A c bs w ⟨f1, f2, f3, f4⟩ hl
  · exact FnApplyFits_no A c bs w ⟨f1, f2, f3, f4⟩ hl
end Go.Proofs.Ytkflpgdbookdhab
