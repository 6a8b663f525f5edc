/-
  Walks of the laws on DeltaMake.
-/
import Derived.Test.YtkflpgdbookdhabMakeS
import Derived.Test.YtkflpgdbookdhabDrawD
import Derived.Test.YtkflpgdbookdhabApplyS
namespace Go.Proofs.Ytkflpgdbookdhab
open Go.RowKit Wo Pu

theorem Tiny.of_make {s t : ByteArray} {os : List Op2} (h : os = dMake s t) : Fit2 os := by
  subst h
  exact fun o ho => by have := make_fits s t o ho; omega

theorem FnDelta_no (A : Option Addr) (c : Nat) (bs : List Int) (w : World) (h : Code_ w A c bs) (hl : ¬ bs.length ≤ 1048576) :
    Calls Try.prog 3 #[.slice A bs.length c] w (Ret (.bool true) w) := by
  have hc := h.2.1
  have hm := h.2.2.1
  unfold maxLen at hm
  go_enter Try.func3, Try.ntmps3
  go_wp2
  go_ret
  exact .mk_ (Below.refl _ _)
set_option maxHeartbeats 4000000 in
theorem FnDelta_yes (A : Option Addr) (c : Nat) (bs : List Int) (w : World) (h : Code_ w A c bs) (hl : bs.length ≤ 1048576) :
    Calls Try.prog 3 #[.slice A bs.length c] w (Ret (.bool true) w) := by
  go_enter Try.func3, Try.ntmps3
  go_wp2_with fail
  refine (DrawDeltaMake_any A c bs _ h).mono ?_
  rintro e w1 ⟨s, t, rfl, hs9, ht9, b1⟩
  obtain ⟨os, hos⟩ : ∃ os, Hid (os = dMake s t) := ⟨_, rfl⟩
  have hn8 : os.length ≤ 8 := by rw [hos.out]; exact (make_few s t).1
  have hnt : os.length ≤ t.size := by rw [hos.out]; exact (make_few s t).2
  have hn : os.length ≤ 1048576 := by omega
  have hs : s.size ≤ 1048576 := by omega
  have ht : t.size ≤ 1048576 := by omega
  have IM : Hid (∀ x, Calls Try.prog 17 #[.string s, .string t] x (NewOps os x)) := fun x => by rw [hos.out]; exact implDeltaMake_any s t x hs ht
  have SM : Hid (∀ x, Calls Try.prog 18 #[.string s, .string t] x (NewOps os x)) := fun x => by rw [hos.out]; exact specDeltaMake_any s t x hs ht
  go_wp2_with fail
  refine (IM.out _).mono ?_
  rintro e w2 ⟨v2, rfl, o2, b2⟩
  obtain ⟨A2, c2, rfl, r2, hc2⟩ := o2.form
  have b2' := b1.trans (b2.mono b1.size)
  clear b1 b2 o2 IM
  go_wp2_with fail
  refine (SM.out _).mono ?_
  rintro e w3 ⟨v3, rfl, o3, b3⟩
  obtain ⟨A3, c3, rfl, r3, hc3⟩ := o3.form
  have r2' := (r2.below b3 (Nat.le_refl _)).more b3.size
  have b3' := b2'.trans (b3.mono b2'.size)
  clear r2 b2' b3 o3 SM
  go_wp2_with fail
  refine (sameOps_same A2 A3 c2 c3 os w3 r2' r3 hn).mono ?_
  rintro e w4 ⟨rfl, b4⟩
  have r4 := (r2'.below b4 (Nat.le_refl _)).more b4.size
  have q4 := (r3.below b4 (Nat.le_refl _)).more b4.size
  have b4' := b3'.trans (b4.mono b3'.size)
  clear r2' r3 b3' b4
  by_cases h8 : s.size ≤ 8
  · by_cases t8 : t.size ≤ 8
    · have AP : Hid (∀ (x : World), Row x x.heap.size A2 (opsV os) → Calls Try.prog 20 #[.string s, .slice A2 os.length c2] x (Ret (.tuple #[.string t, .bool true]) x)) := fun x hx => by
        have E := implDeltaApply_any A2 c2 os s x hx hn (Tiny.of_make hos.out) hs
        obtain ⟨e1, e2⟩ := make_apply h8 t8
        rw [← hos.out] at e1 e2
        unfold Applied at E
        rwa [e1, e2] at E
      go_wp2_with fail
      refine (AP.out w4 r4).mono ?_
      rintro e w5 ⟨rfl, b5⟩
      go_wp2
      go_ret
      exact .mk_ (b4'.trans (b5.mono b4'.size))
    · skip
      go_wp2_with fail
      refine (sameOps_same A2 A3 c2 c3 os w4 r4 q4 hn).mono ?_
      rintro e w5 ⟨rfl, b5⟩
      go_wp2
      go_ret
      exact .mk_ (b4'.trans (b5.mono b4'.size))
  · skip
    go_wp2_with fail
    refine (sameOps_same A2 A3 c2 c3 os w4 r4 q4 hn).mono ?_
    rintro e w5 ⟨rfl, b5⟩
    go_wp2
    go_ret
    exact .mk_ (b4'.trans (b5.mono b4'.size))
theorem FnDelta_any (A : Option Addr) (c : Nat) (bs : List Int) (w : World) (f1 : Row w w.heap.size A (bs.map (Value.int .u8))) (f2 : bs.length ≤ c) (f3 : c ≤ maxLen) (f4 : ∀ n ∈ bs, 0 ≤ n ∧ n < 256) :
    Calls Try.prog 3 #[.slice A bs.length c] w (Ret (.bool true) w) := by
  by_cases hl : bs.length ≤ 1048576
  · exact FnDelta_yes A c bs w ⟨f1, f2, f3, f4⟩ hl
  · exact FnDelta_no A c bs w ⟨f1, f2, f3, f4⟩ hl

theorem FnDeltaSize_no (A : Option Addr) (c : Nat) (bs : List Int) (w : World) (h : Code_ w A c bs) (hl : ¬ bs.length ≤ 1048576) :
    Calls Try.prog 4 #[.slice A bs.length c] w (Ret (.bool true) w) := by
  have hc := h.2.1
  have hm := h.2.2.1
  unfold maxLen at hm
  go_enter Try.func4, Try.ntmps4
  go_wp2
  go_ret
  exact .mk_ (Below.refl _ _)
set_option maxHeartbeats 4000000 in
theorem FnDeltaSize_yes (A : Option Addr) (c : Nat) (bs : List Int) (w : World) (h : Code_ w A c bs) (hl : bs.length ≤ 1048576) :
    Calls Try.prog 4 #[.slice A bs.length c] w (Ret (.bool true) w) := by
  go_enter Try.func4, Try.ntmps4
  go_wp2_with fail
  refine (DrawDeltaMake_any A c bs _ h).mono ?_
  rintro e w1 ⟨s, t, rfl, hs9, ht9, b1⟩
  obtain ⟨os, hos⟩ : ∃ os, Hid (os = dMake s t) := ⟨_, rfl⟩
  have hn8 : os.length ≤ 8 := by rw [hos.out]; exact (make_few s t).1
  have hnt : os.length ≤ t.size := by rw [hos.out]; exact (make_few s t).2
  have hn : os.length ≤ 1048576 := by omega
  have hs : s.size ≤ 1048576 := by omega
  have ht : t.size ≤ 1048576 := by omega
  have IM : Hid (∀ x, Calls Try.prog 17 #[.string s, .string t] x (NewOps os x)) := fun x => by rw [hos.out]; exact implDeltaMake_any s t x hs ht
  have SM : Hid (∀ x, Calls Try.prog 18 #[.string s, .string t] x (NewOps os x)) := fun x => by rw [hos.out]; exact specDeltaMake_any s t x hs ht
  go_wp2_with fail
  refine (IM.out _).mono ?_
  rintro e w2 ⟨v2, rfl, o2, b2⟩
  obtain ⟨A2, c2, rfl, r2, hc2⟩ := o2.form
  have b2' := b1.trans (b2.mono b1.size)
  clear b1 b2 o2 IM
  go_wp2_with fail
  refine (SM.out _).mono ?_
  rintro e w3 ⟨v3, rfl, o3, b3⟩
  obtain ⟨A3, c3, rfl, r3, hc3⟩ := o3.form
  have r2' := (r2.below b3 (Nat.le_refl _)).more b3.size
  have b3' := b2'.trans (b3.mono b2'.size)
  clear r2 b2' b3 o3 SM
  go_wp2_with fail
  refine (sameOps_same A2 A3 c2 c3 os w3 r2' r3 hn).mono ?_
  rintro e w4 ⟨rfl, b4⟩
  have r4 := (r2'.below b4 (Nat.le_refl _)).more b4.size
  have q4 := (r3.below b4 (Nat.le_refl _)).more b4.size
  have b4' := b3'.trans (b4.mono b3'.size)
  clear r2' r3 b3' b4
  by_cases h8 : s.size ≤ 8
  · by_cases t8 : t.size ≤ 8
    · obtain ⟨m1, m2⟩ := make_size h8 t8
      rw [← hos.out] at m1 m2
      have hts : tsz os os.length ≤ 1048576 := by unfold dsz at m1; omega
      have D := hid (implDeltaSize_any A2 c2 os w4 r4 hn hts)
      obtain ⟨d, hd⟩ : ∃ d, Hid (d = dsz os) := ⟨_, rfl⟩
      rw [← hd.out] at m1 m2 D
      by_cases h0 : t.size = 0
      · have hd0 := m2.2 h0
        obtain rfl := size_zero h0
        subst hd0
        clear m1 m2 h0
        go_wp2_with fail
        refine (D.out).mono ?_
        rintro e w5 ⟨rfl, b5⟩
        go_wp2
        go_ret
        exact .mk_ (b4'.trans (b5.mono b4'.size))
      · have e1 : t.toList.isEmpty = false := by rw [emp_, decide_eq_false h0]
        have hd0 : ¬ d = 0 := fun e => h0 (m2.1 e)
        have e2 : (((d : Nat) : Int) == 0) = false := by rw [beq_eq_false_iff_ne]; omega
        clear m2 h0 hd0
        go_wp2_with fail
        refine (D.out).mono ?_
        rintro e w5 ⟨rfl, b5⟩
        go_wp2
        go_ret
        exact .mk_ (b4'.trans (b5.mono b4'.size))
    · skip
      go_wp2_with fail
      refine (sameOps_same A2 A3 c2 c3 os w4 r4 q4 hn).mono ?_
      rintro e w5 ⟨rfl, b5⟩
      go_wp2
      go_ret
      exact .mk_ (b4'.trans (b5.mono b4'.size))
  · skip
    go_wp2_with fail
    refine (sameOps_same A2 A3 c2 c3 os w4 r4 q4 hn).mono ?_
    rintro e w5 ⟨rfl, b5⟩
    go_wp2
    go_ret
    exact .mk_ (b4'.trans (b5.mono b4'.size))
theorem FnDeltaSize_any (A : Option Addr) (c : Nat) (bs : List Int) (w : World) (f1 : Row w w.heap.size A (bs.map (Value.int .u8))) (f2 : bs.length ≤ c) (f3 : c ≤ maxLen) (f4 : ∀ n ∈ bs, 0 ≤ n ∧ n < 256) :
    Calls Try.prog 4 #[.slice A bs.length c] w (Ret (.bool true) w) := by
  by_cases hl : bs.length ≤ 1048576
  · exact FnDeltaSize_yes A c bs w ⟨f1, f2, f3, f4⟩ hl
  · exact FnDeltaSize_no A c bs w ⟨f1, f2, f3, f4⟩ hl

theorem FnDeltaOps_no (A : Option Addr) (c : Nat) (bs : List Int) (w : World) (h : Code_ w A c bs) (hl : ¬ bs.length ≤ 1048576) :
    Calls Try.prog 10 #[.slice A bs.length c] w (Ret (.bool true) w) := by
  have hc := h.2.1
  have hm := h.2.2.1
  unfold maxLen at hm
  go_enter Try.func10, Try.ntmps10
  go_wp2
  go_ret
  exact .mk_ (Below.refl _ _)
set_option maxHeartbeats 4000000 in
theorem FnDeltaOps_yes (A : Option Addr) (c : Nat) (bs : List Int) (w : World) (h : Code_ w A c bs) (hl : bs.length ≤ 1048576) :
    Calls Try.prog 10 #[.slice A bs.length c] w (Ret (.bool true) w) := by
  go_enter Try.func10, Try.ntmps10
  go_wp2_with fail
  refine (DrawDeltaMake_any A c bs _ h).mono ?_
  rintro e w1 ⟨s, t, rfl, hs9, ht9, b1⟩
  obtain ⟨os, hos⟩ : ∃ os, Hid (os = dMake s t) := ⟨_, rfl⟩
  have hn8 : os.length ≤ 8 := by rw [hos.out]; exact (make_few s t).1
  have hnt : os.length ≤ t.size := by rw [hos.out]; exact (make_few s t).2
  have hn : os.length ≤ 1048576 := by omega
  have hs : s.size ≤ 1048576 := by omega
  have ht : t.size ≤ 1048576 := by omega
  have IM : Hid (∀ x, Calls Try.prog 17 #[.string s, .string t] x (NewOps os x)) := fun x => by rw [hos.out]; exact implDeltaMake_any s t x hs ht
  have SM : Hid (∀ x, Calls Try.prog 18 #[.string s, .string t] x (NewOps os x)) := fun x => by rw [hos.out]; exact specDeltaMake_any s t x hs ht
  go_wp2_with fail
  refine (IM.out _).mono ?_
  rintro e w2 ⟨v2, rfl, o2, b2⟩
  obtain ⟨A2, c2, rfl, r2, hc2⟩ := o2.form
  have b2' := b1.trans (b2.mono b1.size)
  clear b1 b2 o2 IM
  go_wp2_with fail
  refine (SM.out _).mono ?_
  rintro e w3 ⟨v3, rfl, o3, b3⟩
  obtain ⟨A3, c3, rfl, r3, hc3⟩ := o3.form
  have r2' := (r2.below b3 (Nat.le_refl _)).more b3.size
  have b3' := b2'.trans (b3.mono b2'.size)
  clear r2 b2' b3 o3 SM
  go_wp2_with fail
  refine (sameOps_same A2 A3 c2 c3 os w3 r2' r3 hn).mono ?_
  rintro e w4 ⟨rfl, b4⟩
  have r4 := (r2'.below b4 (Nat.le_refl _)).more b4.size
  have q4 := (r3.below b4 (Nat.le_refl _)).more b4.size
  have b4' := b3'.trans (b4.mono b3'.size)
  clear r2' r3 b3' b4
  have n8 : (os.length : Int) ≤ 8 := by omega
  have nt : (os.length : Int) ≤ (t.size : Int) := by omega
  go_wp2
  go_ret
  exact .bool_ (by first | rfl | (simp; done) | (simp; omega)) b4'
theorem FnDeltaOps_any (A : Option Addr) (c : Nat) (bs : List Int) (w : World) (f1 : Row w w.heap.size A (bs.map (Value.int .u8))) (f2 : bs.length ≤ c) (f3 : c ≤ maxLen) (f4 : ∀ n ∈ bs, 0 ≤ n ∧ n < 256) :
    Calls Try.prog 10 #[.slice A bs.length c] w (Ret (.bool true) w) := by
  by_cases hl : bs.length ≤ 1048576
  · exact FnDeltaOps_yes A c bs w ⟨f1, f2, f3, f4⟩ hl
  · exact FnDeltaOps_no A c bs w ⟨f1, f2, f3, f4⟩ hl

theorem FnDeltaSelf_no (A : Option Addr) (c : Nat) (bs : List Int) (w : World) (h : Code_ w A c bs) (hl : ¬ bs.length ≤ 1048576) :
    Calls Try.prog 5 #[.slice A bs.length c] w (Ret (.bool true) w) := by
  have hc := h.2.1
  have hm := h.2.2.1
  unfold maxLen at hm
  go_enter Try.func5, Try.ntmps5
  go_wp2
  go_ret
  exact .mk_ (Below.refl _ _)
set_option maxHeartbeats 4000000 in
theorem FnDeltaSelf_yes (A : Option Addr) (c : Nat) (bs : List Int) (w : World) (h : Code_ w A c bs) (hl : bs.length ≤ 1048576) :
    Calls Try.prog 5 #[.slice A bs.length c] w (Ret (.bool true) w) := by
  go_enter Try.func5, Try.ntmps5
  go_wp2_with fail
  refine (DrawDeltaMake_any A c bs _ h).mono ?_
  rintro e w1 ⟨s, t, rfl, hs9, ht9, b1⟩
  obtain ⟨os, hos⟩ : ∃ os, Hid (os = dMake s t) := ⟨_, rfl⟩
  have hn8 : os.length ≤ 8 := by rw [hos.out]; exact (make_few s t).1
  have hnt : os.length ≤ t.size := by rw [hos.out]; exact (make_few s t).2
  have hn : os.length ≤ 1048576 := by omega
  have hs : s.size ≤ 1048576 := by omega
  have ht : t.size ≤ 1048576 := by omega
  have IM : Hid (∀ x, Calls Try.prog 17 #[.string s, .string t] x (NewOps os x)) := fun x => by rw [hos.out]; exact implDeltaMake_any s t x hs ht
  have SM : Hid (∀ x, Calls Try.prog 18 #[.string s, .string t] x (NewOps os x)) := fun x => by rw [hos.out]; exact specDeltaMake_any s t x hs ht
  go_wp2_with fail
  refine (IM.out _).mono ?_
  rintro e w2 ⟨v2, rfl, o2, b2⟩
  obtain ⟨A2, c2, rfl, r2, hc2⟩ := o2.form
  have b2' := b1.trans (b2.mono b1.size)
  clear b1 b2 o2 IM
  go_wp2_with fail
  refine (SM.out _).mono ?_
  rintro e w3 ⟨v3, rfl, o3, b3⟩
  obtain ⟨A3, c3, rfl, r3, hc3⟩ := o3.form
  have r2' := (r2.below b3 (Nat.le_refl _)).more b3.size
  have b3' := b2'.trans (b3.mono b2'.size)
  clear r2 b2' b3 o3 SM
  go_wp2_with fail
  refine (sameOps_same A2 A3 c2 c3 os w3 r2' r3 hn).mono ?_
  rintro e w4 ⟨rfl, b4⟩
  have r4 := (r2'.below b4 (Nat.le_refl _)).more b4.size
  have q4 := (r3.below b4 (Nat.le_refl _)).more b4.size
  have b4' := b3'.trans (b4.mono b3'.size)
  clear r2' r3 b3' b4
  by_cases h2 : s.size < 2
  · skip
    go_wp2_with fail
    refine (sameOps_same A2 A3 c2 c3 os w4 r4 q4 hn).mono ?_
    rintro e w5 ⟨rfl, b5⟩
    go_wp2
    go_ret
    exact .mk_ (b4'.trans (b5.mono b4'.size))
  · by_cases h8 : s.size ≤ 8
    · obtain ⟨ps, hps⟩ : ∃ ps, Hid (ps = [(⟨0, s.size, ⟨#[]⟩⟩ : Op2)]) := ⟨_, rfl⟩
      have IM : Hid (∀ x, Calls Try.prog 17 #[.string s, .string s] x (NewOps ps x)) := fun x => by
        rw [hps.out, ← make_self (by omega) h8]
        exact implDeltaMake_any s s x hs hs
      have hpl : ps.length = 1 := by rw [hps.out]; rfl
      have HPL := hid hpl
      clear hpl
      go_wp2_with fail
      refine (IM.out _).mono ?_
      rintro e w5 ⟨v5, rfl, o5, b5⟩
      obtain ⟨A5, c5, rfl, r5, hc5⟩ := o5.form
      have b5' := b4'.trans (b5.mono b4'.size)
      have al := (Below.refl w5.heap.size w5).alloc (Nat.le_refl _) (.cells #[.int .i64 0, .int .i64 (s.size : Int), .string ⟨#[]⟩] 33)
      have r6 := (r5.below al (Nat.le_refl _)).more al.size
      have q6 : Row (w5.alloc (.cells #[.int .i64 0, .int .i64 (s.size : Int), .string ⟨#[]⟩] 33)) (w5.alloc (.cells #[.int .i64 0, .int .i64 (s.size : Int), .string ⟨#[]⟩] 33)).heap.size (some ⟨w5.heap.size, 0, none⟩) (opsV ps) := by
        rw [hps.out, opsV_one]
        exact (Blk.new_ w5 _ _ _ _).row3
      have b6 := b5'.trans (al.mono b5'.size)
      have E := sameOps_same A5 (some ⟨w5.heap.size, 0, none⟩) c5 1 ps _ r6 q6 (by rw [HPL.out]; omega)
      rw [HPL.out] at E ⊢
      have HE := hid E
      clear E al r5 r6 q6
      go_wp2_with fail
      refine (HE.out).mono ?_
      rintro e w7 ⟨rfl, b7⟩
      go_wp2
      go_ret
      exact .mk_ (b6.trans (b7.mono b6.size))
    · skip
      go_wp2_with fail
      refine (sameOps_same A2 A3 c2 c3 os w4 r4 q4 hn).mono ?_
      rintro e w5 ⟨rfl, b5⟩
      go_wp2
      go_ret
      exact .mk_ (b4'.trans (b5.mono b4'.size))
theorem FnDeltaSelf_any (A : Option Addr) (c : Nat) (bs : List Int) (w : World) (f1 : Row w w.heap.size A (bs.map (Value.int .u8))) (f2 : bs.length ≤ c) (f3 : c ≤ maxLen) (f4 : ∀ n ∈ bs, 0 ≤ n ∧ n < 256) :
    Calls Try.prog 5 #[.slice A bs.length c] w (Ret (.bool true) w) := by
  by_cases hl : bs.length ≤ 1048576
  · exact FnDeltaSelf_yes A c bs w ⟨f1, f2, f3, f4⟩ hl
  · exact FnDeltaSelf_no A c bs w ⟨f1, f2, f3, f4⟩ hl
end Go.Proofs.Ytkflpgdbookdhab
