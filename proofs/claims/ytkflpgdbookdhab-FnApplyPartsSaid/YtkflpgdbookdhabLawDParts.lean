/-
  Walk of the law on parts of operations.
-/
import Derived.Test.YtkflpgdbookdhabLawDApp
import Derived.Test.YtkflpgdbookdhabLawDSum
namespace Go.Proofs.Ytkflpgdbookdhab
open Go.RowKit Wo Pu

theorem eq_text {a b : ByteArray} (h : a = b) : (a.toList == b.toList) = true := by subst h; simp

theorem FnApplyParts_no (A : Option Addr) (c : Nat) (bs : List Int) (A' : Option Addr) (c' : Nat) (bs' : List Int) (w : World) (h : Code_ w A c bs) (h' : Code_ w A' c' bs') (hl : ¬ (bs.length ≤ 1048576 ∧ bs'.length ≤ 1048576)) :
    Calls Try.prog 8 #[.slice A bs.length c, .slice A' bs'.length c'] w (Ret (.bool true) w) := by
  have hc := h.2.1
  have hm := h.2.2.1
  have hc' := h'.2.1
  have hm' := h'.2.2.1
  unfold maxLen at hm hm'
  by_cases h1 : bs.length ≤ 1048576
  · have h2 : ¬ bs'.length ≤ 1048576 := fun e => hl ⟨h1, e⟩
    clear hl
    go_enter Try.func8, Try.ntmps8
    go_wp2
    go_ret
    exact .mk_ (Below.refl _ _)
  · clear hl
    go_enter Try.func8, Try.ntmps8
    go_wp2
    go_ret
    exact .mk_ (Below.refl _ _)
set_option maxHeartbeats 4000000 in
theorem FnApplyParts_yes (A : Option Addr) (c : Nat) (bs : List Int) (A' : Option Addr) (c' : Nat) (bs' : List Int) (w : World) (h : Code_ w A c bs) (_h' : Code_ w A' c' bs') (hl : bs.length ≤ 1048576) (hl' : bs'.length ≤ 1048576) :
    Calls Try.prog 8 #[.slice A bs.length c, .slice A' bs'.length c'] w (Ret (.bool true) w) := by
  go_enter Try.func8, Try.ntmps8
  go_wp2_with fail
  refine (DrawDeltaApply_any A c bs _ h).mono ?_
  rintro e w1 ⟨s, A1, c1, os, rfl, hs9, hr, hc, hl3, hT, b1⟩
  have hn : os.length ≤ 1048576 := by omega
  have hs : s.size ≤ 1048576 := by omega
  go_wp2_with fail
  refine (implDeltaApply_any A1 c1 os s _ hr hn hT.fit hs).mono ?_
  rintro e w2 ⟨rfl, b2⟩
  have r2 := (hr.below b2 (Nat.le_refl _)).more b2.size
  have b2' := b1.trans (b2.mono b1.size)
  clear b1 b2 hr
  go_wp2_with fail
  refine (specDeltaApply_any A1 c1 os s _ r2 hn hT.fit hs).mono ?_
  rintro e w3 ⟨rfl, b3⟩
  have r3 := (r2.below b3 (Nat.le_refl _)).more b3.size
  have b3' := b2'.trans (b3.mono b2'.size)
  clear b2' b3 r2
  cases hok : dOk s os
  · generalize dRes s os = g at *
    clear hok
    go_wp2
    go_ret
    exact .mk_ b3'
  · obtain ⟨k, hk⟩ : ∃ k : Nat, Hid (k = bs'.length % (os.length + 1)) := ⟨_, rfl⟩
    have hk3 : k ≤ os.length := by rw [hk.out]; have := Nat.mod_lt bs'.length (show 0 < os.length + 1 by omega); omega
    have EK : Hid (((bs'.length : Nat) : Int) % ((os.length : Int) + 1) = (k : Int)) := by show _ = _; rw [hk.out, Int.natCast_emod, Int.natCast_add]; rfl
    obtain ⟨e1, e2, e3⟩ := app_cut hok k
    obtain ⟨p, hp⟩ : ∃ p, Hid (p = dRes s (os.take k)) := ⟨_, rfl⟩
    obtain ⟨q, hq⟩ : ∃ q, Hid (q = dRes s (os.drop k)) := ⟨_, rfl⟩
    obtain ⟨g, hg⟩ : ∃ g, dRes s os = g := ⟨_, rfl⟩
    have HG : Hid (p ++ q = g) := by show p ++ q = g; rw [hp.out, hq.out, ← hg, e3]
    have hp8 : p.size ≤ 8 := by rw [hp.out]; exact (app_fits e1).2
    have hq8 : q.size ≤ 8 := by rw [hq.out]; exact (app_fits e2).2
    have C1 : ∀ (x : World), Row x x.heap.size A1 (opsV (os.take k)) → Calls Try.prog 20 #[.string s, .slice A1 k c1] x (Ret (.tuple #[.string p, .bool true]) x) := fun x hx => by
      have := implDeltaApply_any A1 c1 (os.take k) s x hx (by rw [cut_len hk3]; omega) (hT.take k).fit hs
      unfold Applied at this
      rwa [cut_len hk3, ← hp.out, e1] at this
    have C2 : ∀ (x : World) (B : Option Addr) (cc : Nat), Row x x.heap.size B (opsV (os.drop k)) → Calls Try.prog 20 #[.string s, .slice B (os.length - k) cc] x (Ret (.tuple #[.string q, .bool true]) x) := fun x B cc hx => by
      have := implDeltaApply_any B cc (os.drop k) s x hx (by rw [cut_len2]; omega) (hT.drop k).fit hs
      unfold Applied at this
      rwa [cut_len2, ← hq.out, e2] at this
    have D1 := hid C1
    have D2 := hid C2
    rw [hg]
    clear hok e1 e2 e3 hg C1 C2 hT
    have k0 : 0 ≤ (k : Int) := by omega
    have k1 : (k : Int) ≤ (os.length : Int) := by omega
    have k2 : (os.length : Int) ≤ (c1 : Int) := by omega
    have k3 : (k : Int) ≤ (c1 : Int) := by omega
    have rk : Row w3 w3.heap.size A1 (opsV (os.take k)) := by rw [opsV_take]; exact r3.take_ _
    have ek := EK.out
    clear EK
    by_cases hck : c1 = k
    · have rd : ∀ B, Row w3 w3.heap.size B (opsV (os.drop k)) := fun B => by
        rw [List.drop_of_length_le (by omega)]; exact .inl rfl
      obtain rfl : k = os.length := by omega
      obtain rfl := hck
      have C3 : Hid (∀ x, Row x x.heap.size A1 (opsV (os.drop os.length)) → Calls Try.prog 20 #[.string s, .slice A1 0 0] x (Ret (.tuple #[.string q, .bool true]) x)) := fun x hx => by have := D2.out x A1 0 hx; rwa [Nat.sub_self] at this
      have rd1 := rd A1
      clear D2 rd
      go_wp2_with fail
      refine (D1.out _ rk).mono ?_
      rintro e w4 ⟨rfl, b4⟩
      have rd4 := (rd1.below b4 (Nat.le_refl _)).more b4.size
      have b4' := b3'.trans (b4.mono b3'.size)
      go_wp2_with fail
      refine (C3.out _ rd4).mono ?_
      rintro e w5 ⟨rfl, b5⟩
      obtain rfl := HG.out
      clear HG
      go_wp2
      go_ret
      exact .mk_ (b4'.trans (b5.mono b4'.size))
    · have rd : Row w3 w3.heap.size (A1.map (·.add (k * 3))) (opsV (os.drop k)) := by rw [opsV_drop]; exact r3.cutA _
      go_wp2_with fail
      refine (D1.out _ rk).mono ?_
      rintro e w4 ⟨rfl, b4⟩
      have rd4 := (rd.below b4 (Nat.le_refl _)).more b4.size
      have b4' := b3'.trans (b4.mono b3'.size)
      go_wp2_with fail
      refine (D2.out _ _ _ rd4).mono ?_
      rintro e w5 ⟨rfl, b5⟩
      obtain rfl := HG.out
      clear HG
      go_wp2
      go_ret
      exact .mk_ (b4'.trans (b5.mono b4'.size))
theorem FnApplyParts_any (A : Option Addr) (c : Nat) (bs : List Int) (A' : Option Addr) (c' : Nat) (bs' : List Int) (w : World) (f1 : Row w w.heap.size A (bs.map (Value.int .u8))) (f2 : bs.length ≤ c) (f3 : c ≤ maxLen) (f4 : ∀ n ∈ bs, 0 ≤ n ∧ n < 256) (g1 : Row w w.heap.size A' (bs'.map (Value.int .u8))) (g2 : bs'.length ≤ c') (g3 : c' ≤ maxLen) (g4 : ∀ n ∈ bs', 0 ≤ n ∧ n < 256) :
    Calls Try.prog 8 #[.slice A bs.length c, .slice A' bs'.length c'] w (Ret (.bool true) w) := by
  by_cases hl : bs.length ≤ 1048576 ∧ bs'.length ≤ 1048576
  · exact FnApplyParts_yes A c bs A' c' bs' w ⟨f1, f2, f3, f4⟩ ⟨g1, g2, g3, g4⟩ hl.1 hl.2
  · exact FnApplyParts_no A c bs A' c' bs' w ⟨f1, f2, f3, f4⟩ ⟨g1, g2, g3, g4⟩ hl
end Go.Proofs.Ytkflpgdbookdhab
