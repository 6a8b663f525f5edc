/-
  Walks of the laws on DeltaMake: without a base; only parts of two bytes or more.
-/
import Derived.Test.YtkflpgdbookdhabLawDMake
namespace Go.Proofs.Ytkflpgdbookdhab
open Go.RowKit Wo Pu


theorem shape_of {s t : ByteArray} {os : List Op2} (h : os = dMake s t) : (∀ i (h : i < os.length), os[i].n ≠ 1 ∧ 0 ≤ os[i].n ∧ (0 < os[i].n → os[i].t.size = 0)) ∧ (∀ i (h : i + 1 < os.length), ¬ (os[i].n = 0 ∧ os[i + 1].n = 0)) := by
  subst h; exact make_shape s t

theorem FnDeltaNone_no (A : Option Addr) (c : Nat) (bs : List Int) (w : World) (h : Code_ w A c bs) (hl : ¬ bs.length ≤ 1048576) :
    Calls Try.prog 6 #[.slice A bs.length c] w (Ret (.bool true) w) := by
  have hc := h.2.1
  have hm := h.2.2.1
  unfold maxLen at hm
  go_enter Try.func6, Try.ntmps6
  go_wp2
  go_ret
  exact .mk_ (Below.refl _ _)
set_option maxHeartbeats 4000000 in
theorem FnDeltaNone_yes (A : Option Addr) (c : Nat) (bs : List Int) (w : World) (h : Code_ w A c bs) (hl : bs.length ≤ 1048576) :
    Calls Try.prog 6 #[.slice A bs.length c] w (Ret (.bool true) w) := by
  go_enter Try.func6, Try.ntmps6
  go_wp2_with fail
  refine (DrawDeltaMake_any A c bs _ h).mono ?_
  rintro e w1 ⟨s, t, rfl, hs9, ht9, b1⟩
  obtain ⟨os, hos⟩ : ∃ os, Hid (os = dMake s t) := ⟨_, rfl⟩
  have hn8 : os.length ≤ 8 := by rw [hos.out]; exact (make_few s t).1
  have hnt : os.length ≤ t.size := by rw [hos.out]; exact (make_few s t).2
  have hn : os.length ≤ 1048576 := by omega
  have hs : s.size ≤ 1048576 := by omega
  have ht : t.size ≤ 1048576 := by omega
  have IM : Hid (∀ x, Calls Try.prog 17 #[.string s, .string t] x (NewOps os x)) := fun x => by rw [hos.out]; exact implDeltaMake_any s t x hs ht
  have SM : Hid (∀ x, Calls Try.prog 18 #[.string s, .string t] x (NewOps os x)) := fun x => by rw [hos.out]; exact specDeltaMake_any s t x hs ht
  go_wp2_with fail
  refine (IM.out _).mono ?_
  rintro e w2 ⟨v2, rfl, o2, b2⟩
  obtain ⟨A2, c2, rfl, r2, hc2⟩ := o2.form
  have b2' := b1.trans (b2.mono b1.size)
  clear b1 b2 o2 IM
  go_wp2_with fail
  refine (SM.out _).mono ?_
  rintro e w3 ⟨v3, rfl, o3, b3⟩
  obtain ⟨A3, c3, rfl, r3, hc3⟩ := o3.form
  have r2' := (r2.below b3 (Nat.le_refl _)).more b3.size
  have b3' := b2'.trans (b3.mono b2'.size)
  clear r2 b2' b3 o3 SM
  go_wp2_with fail
  refine (sameOps_same A2 A3 c2 c3 os w3 r2' r3 hn).mono ?_
  rintro e w4 ⟨rfl, b4⟩
  have r4 := (r2'.below b4 (Nat.le_refl _)).more b4.size
  have q4 := (r3.below b4 (Nat.le_refl _)).more b4.size
  have b4' := b3'.trans (b4.mono b3'.size)
  clear r2' r3 b3' b4
  by_cases h0 : t.size = 0
  · obtain rfl := size_zero h0
    go_wp2_with fail
    refine (sameOps_same A2 A3 c2 c3 os w4 r4 q4 hn).mono ?_
    rintro e w5 ⟨rfl, b5⟩
    go_wp2
    go_ret
    exact .mk_ (b4'.trans (b5.mono b4'.size))
  · have e1 : t.toList.isEmpty = false := by rw [emp_, decide_eq_false h0]
    by_cases h8 : t.size ≤ 8
    · obtain ⟨ps, hps⟩ : ∃ ps, Hid (ps = [(⟨0, 0, t⟩ : Op2)]) := ⟨_, rfl⟩
      have IM : Hid (∀ x, Calls Try.prog 17 #[.string ⟨#[]⟩, .string t] x (NewOps ps x)) := fun x => by
        rw [hps.out, ← make_none h0 h8]
        exact implDeltaMake_any ⟨#[]⟩ t x (by show 0 ≤ 1048576; omega) ht
      have hpl : ps.length = 1 := by rw [hps.out]; rfl
      have HPL := hid hpl
      clear hpl h0
      go_wp2_with fail
      refine (IM.out _).mono ?_
      rintro e w5 ⟨v5, rfl, o5, b5⟩
      obtain ⟨A5, c5, rfl, r5, hc5⟩ := o5.form
      have b5' := b4'.trans (b5.mono b4'.size)
      have al := (Below.refl w5.heap.size w5).alloc (Nat.le_refl _) (.cells #[.int .i64 0, .int .i64 0, .string t] 33)
      have r6 := (r5.below al (Nat.le_refl _)).more al.size
      have q6 : Row (w5.alloc (.cells #[.int .i64 0, .int .i64 0, .string t] 33)) (w5.alloc (.cells #[.int .i64 0, .int .i64 0, .string t] 33)).heap.size (some ⟨w5.heap.size, 0, none⟩) (opsV ps) := by
        rw [hps.out, opsV_one]
        exact (Blk.new_ w5 _ _ _ _).row3
      have b6 := b5'.trans (al.mono b5'.size)
      have E := sameOps_same A5 (some ⟨w5.heap.size, 0, none⟩) c5 1 ps _ r6 q6 (by rw [HPL.out]; omega)
      rw [HPL.out] at E ⊢
      have HE := hid E
      clear E al r5 r6 q6
      go_wp2_with fail
      refine (HE.out).mono ?_
      rintro e w7 ⟨rfl, b7⟩
      go_wp2
      go_ret
      exact .mk_ (b6.trans (b7.mono b6.size))
    · clear h0
      go_wp2_with fail
      refine (sameOps_same A2 A3 c2 c3 os w4 r4 q4 hn).mono ?_
      rintro e w5 ⟨rfl, b5⟩
      go_wp2
      go_ret
      exact .mk_ (b4'.trans (b5.mono b4'.size))
theorem FnDeltaNone_any (A : Option Addr) (c : Nat) (bs : List Int) (w : World) (f1 : Row w w.heap.size A (bs.map (Value.int .u8))) (f2 : bs.length ≤ c) (f3 : c ≤ maxLen) (f4 : ∀ n ∈ bs, 0 ≤ n ∧ n < 256) :
    Calls Try.prog 6 #[.slice A bs.length c] w (Ret (.bool true) w) := by
  by_cases hl : bs.length ≤ 1048576
  · exact FnDeltaNone_yes A c bs w ⟨f1, f2, f3, f4⟩ hl
  · exact FnDeltaNone_no A c bs w ⟨f1, f2, f3, f4⟩ hl

theorem FnDeltaCopies_no (A : Option Addr) (c : Nat) (bs : List Int) (w : World) (h : Code_ w A c bs) (hl : ¬ bs.length ≤ 1048576) :
    Calls Try.prog 7 #[.slice A bs.length c] w (Ret (.bool true) w) := by
  have hc := h.2.1
  have hm := h.2.2.1
  unfold maxLen at hm
  go_enter Try.func7, Try.ntmps7
  go_wp2
  go_ret
  exact .mk_ (Below.refl _ _)
set_option maxHeartbeats 4000000 in
theorem FnDeltaCopies_yes (A : Option Addr) (c : Nat) (bs : List Int) (w : World) (h : Code_ w A c bs) (hl : bs.length ≤ 1048576) :
    Calls Try.prog 7 #[.slice A bs.length c] w (Ret (.bool true) w) := by
  go_enter Try.func7, Try.ntmps7
  go_wp2_with fail
  refine (DrawDeltaMake_any A c bs _ h).mono ?_
  rintro e w1 ⟨s, t, rfl, hs9, ht9, b1⟩
  obtain ⟨os, hos⟩ : ∃ os, Hid (os = dMake s t) := ⟨_, rfl⟩
  have hn8 : os.length ≤ 8 := by rw [hos.out]; exact (make_few s t).1
  have hnt : os.length ≤ t.size := by rw [hos.out]; exact (make_few s t).2
  have hn : os.length ≤ 1048576 := by omega
  have hs : s.size ≤ 1048576 := by omega
  have ht : t.size ≤ 1048576 := by omega
  have IM : Hid (∀ x, Calls Try.prog 17 #[.string s, .string t] x (NewOps os x)) := fun x => by rw [hos.out]; exact implDeltaMake_any s t x hs ht
  have SM : Hid (∀ x, Calls Try.prog 18 #[.string s, .string t] x (NewOps os x)) := fun x => by rw [hos.out]; exact specDeltaMake_any s t x hs ht
  go_wp2_with fail
  refine (IM.out _).mono ?_
  rintro e w2 ⟨v2, rfl, o2, b2⟩
  obtain ⟨A2, c2, rfl, r2, hc2⟩ := o2.form
  have b2' := b1.trans (b2.mono b1.size)
  clear b1 b2 o2 IM
  go_wp2_with fail
  refine (SM.out _).mono ?_
  rintro e w3 ⟨v3, rfl, o3, b3⟩
  obtain ⟨A3, c3, rfl, r3, hc3⟩ := o3.form
  have r2' := (r2.below b3 (Nat.le_refl _)).more b3.size
  have b3' := b2'.trans (b3.mono b2'.size)
  clear r2 b2' b3 o3 SM
  go_wp2_with fail
  refine (sameOps_same A2 A3 c2 c3 os w3 r2' r3 hn).mono ?_
  rintro e w4 ⟨rfl, b4⟩
  have r4 := (r2'.below b4 (Nat.le_refl _)).more b4.size
  have q4 := (r3.below b4 (Nat.le_refl _)).more b4.size
  have b4' := b3'.trans (b4.mono b3'.size)
  clear r2' r3 b3' b4
  have SH : Hid ((∀ i (h : i < os.length), os[i].n ≠ 1 ∧ 0 ≤ os[i].n ∧ (0 < os[i].n → os[i].t.size = 0)) ∧ (∀ i (h : i + 1 < os.length), ¬ (os[i].n = 0 ∧ os[i + 1].n = 0))) := by
    exact shape_of hos.out
  go_wp2_with fail
  go_loop [7] (fun i => ∃ k : Nat, k ≤ os.length ∧ i = .int .i64 k) (fun i => os.length - (intOf i).toNat)
  case atStart => exact ⟨0, Nat.zero_le _, rfl⟩
  case round =>
    obtain ⟨k, hk, rfl⟩ := hrel
    by_cases hlt : k < os.length
    · obtain ⟨o, ad, ho, rfl, ha, g0, g1, g2⟩ := r4.op_ hlt
      obtain ⟨m1, m2, m3⟩ := SH.out.1 k hlt
      have mN : ∀ h : 0 < k, ¬ (os[k - 1].n = 0 ∧ o.n = 0) := fun h e => SH.out.2 (k - 1) (by omega) (by rw [← ho] at e; simpa only [show k - 1 + 1 = k from by omega] using e)
      rw [ho] at m1 m2 m3
      have e1 : (o.n == 1) = false := by rw [beq_eq_false_iff_ne]; exact m1
      have HO := hid ho
      clear ho m1
      by_cases hp : 0 < o.n
      · obtain ⟨oa, on, ot⟩ := o
        obtain rfl := size_zero (m3 hp)
        simp only at *
        have e0 : (on == 0) = false := by rw [beq_eq_false_iff_ne]; omega
        clear m3 mN
        rcases Nat.eq_zero_or_pos k with h0 | h0
        · subst h0
          rw [show 0 * 3 = 0 from rfl, add_zero] at g0 g1 g2
          go_wp2
          go_round
          case rel => exact ⟨0 + 1, by omega, by go_num⟩
          case measure => simp [intOf]; omega
        · go_wp2
          go_round
          case rel => exact ⟨k + 1, by omega, by go_num⟩
          case measure => simp [intOf]; omega
      · have hz : o.n = 0 := by omega
        have e0 : (o.n == 0) = true := by rw [hz]; rfl
        rcases Nat.eq_zero_or_pos k with h0 | h0
        · subst h0
          rw [show 0 * 3 = 0 from rfl, add_zero] at g0 g1 g2
          clear m3 mN hz
          go_wp2
          go_round
          case rel => exact ⟨0 + 1, by omega, by go_num⟩
          case measure => simp [intOf]; omega
        · obtain ⟨p, ad', hp', ea, _, p0, p1, p2⟩ := r4.op_ (k := k - 1) (by omega)
          obtain rfl : ad = ad' := by injection ea
          have hpn : ¬ p.n = 0 := fun e => mN h0 ⟨by rw [hp']; exact e, hz⟩
          have e2 : (p.n == 0) = false := by rw [beq_eq_false_iff_ne]; exact hpn
          clear m3 mN hz ea hp' hpn
          go_wp2
          go_round
          case rel => exact ⟨k + 1, by omega, by go_num⟩
          case measure => simp [intOf]; omega
    · have hk' : k = os.length := by omega
      subst hk'
      go_wp2
      go_ret
      exact .mk_ b4'
theorem FnDeltaCopies_any (A : Option Addr) (c : Nat) (bs : List Int) (w : World) (f1 : Row w w.heap.size A (bs.map (Value.int .u8))) (f2 : bs.length ≤ c) (f3 : c ≤ maxLen) (f4 : ∀ n ∈ bs, 0 ≤ n ∧ n < 256) :
    Calls Try.prog 7 #[.slice A bs.length c] w (Ret (.bool true) w) := by
  by_cases hl : bs.length ≤ 1048576
  · exact FnDeltaCopies_yes A c bs w ⟨f1, f2, f3, f4⟩ hl
  · exact FnDeltaCopies_no A c bs w ⟨f1, f2, f3, f4⟩ hl
end Go.Proofs.Ytkflpgdbookdhab
