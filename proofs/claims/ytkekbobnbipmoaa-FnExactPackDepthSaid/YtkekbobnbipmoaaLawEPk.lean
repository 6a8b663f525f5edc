/-
  Walks of the exact laws on PackDepth and PackSum.
-/
import Derived.Test.YtkekbobnbipmoaaToEnt
import Derived.Test.YtkekbobnbipmoaaPackD
import Derived.Test.YtkekbobnbipmoaaPackS
import Derived.Test.YtkekbobnbipmoaaPackR
namespace Go.Proofs.Ytkekbobnbipmoaa
open Go.RowKit Wo Pu

set_option maxHeartbeats 2000000 in
theorem specPackDepth_any (A : Option Addr) (c : Nat) (es : List Ent) (i : Int) (w : World) (h : Ents w w.heap.size A es) (hn : es.length ≤ 1048576) :
    Calls Try.prog 33 #[.slice A es.length c, .int .i64 i] w (Same (.int .i64 (pDep es i)) w) := by
  go_enter Try.func33, Try.ntmps33
  go_wp2
  go_loop [5] (fun j => ∃ k : Nat, k ≤ es.length ∧ j = .int .i64 k ∧ Hid (Bas (es.take k))) (fun j => es.length - (intOf j).toNat)
  case atStart => exact ⟨0, Nat.zero_le _, rfl, fun i hi => absurd hi (by simp)⟩
  case round =>
    obtain ⟨k, hk, rfl, HK⟩ := hrel
    by_cases hlt : k < es.length
    · obtain ⟨e, ad, A1, c1, A3, c3, he, rfl, ha, g0, g1, g2, g3, g4, g5⟩ := h.ent hlt
      have i0 : 0 ≤ (k : Int) := by omega
      have i1 : (k : Int) < (es.length : Int) := by omega
      by_cases hb : -1 ≤ e.b ∧ e.b < (k : Int)
      · have HN := hid (HK.out.grow hlt (by rw [he]; exact hb.1) (by rw [he]; exact hb.2))
        have HIN : Hid ((decide ((-1 : Int) ≤ e.b) && decide (e.b ≤ (k : Int) - 1)) = true) := by show _ = _; rw [Bool.and_eq_true, decide_eq_true_eq, decide_eq_true_eq]; omega
        clear hb he HK
        go_wp2_with (go_at_call 64; refine (l6In_is true _ _ _ _ HIN.out).mono ?_; rintro e w' ⟨rfl, rfl⟩)
        go_round
        case rel => exact ⟨k + 1, by omega, by go_num, HN.out⟩
        case measure => simp [intOf]; omega
      · have HP := hid (pDep_no (es := es) (i := i) (fun e' => by have := basB_no hlt (by rw [he]; exact hb); rw [this] at e'; exact Bool.noConfusion e'.1))
        have HIN : Hid ((decide ((-1 : Int) ≤ e.b) && decide (e.b ≤ (k : Int) - 1)) = false) := by show _ = _; rw [Bool.and_eq_false_iff, decide_eq_false_iff_not, decide_eq_false_iff_not]; omega
        clear hb he HK
        go_wp2_with (go_at_call 64; refine (l6In_is false _ _ _ _ HIN.out).mono ?_; rintro e w' ⟨rfl, rfl⟩)
        go_ret
        rw [HP.out]
        exact ⟨rfl, rfl⟩
    · have hk' : k = es.length := by omega
      subst hk'
      have hbas : Bas es := by have := HK.out; rwa [List.take_length] at this
      by_cases hin : 0 ≤ i ∧ i < (es.length : Int)
      · obtain ⟨j, rfl⟩ := Int.eq_ofNat_of_zero_le hin.1
        have hj : j < es.length := by omega
        have HP := hid (pDep_yes (basB_iff.2 hbas) hj)
        have HB := hid hbas
        have HIN : Hid ((decide ((0 : Int) ≤ (j : Int)) && decide ((j : Int) ≤ (es.length : Int) - 1)) = true) := by show _ = _; rw [Bool.and_eq_true, decide_eq_true_eq, decide_eq_true_eq]; omega
        clear hin HK hbas
        go_wp2_with (first
          | (go_at_call 64; refine (l6In_is true _ _ _ _ HIN.out).mono ?_; rintro e w' ⟨rfl, rfl⟩)
          | (go_at_call 65; refine (l3Depth_any _ A es.length c es j _ h HB.out hj (Nat.le_refl _) hn).mono ?_; rintro e w' ⟨rfl, rfl⟩))
        go_ret
        rw [HP.out]
        exact ⟨rfl, rfl⟩
      · have HP := hid (pDep_no (es := es) (i := i) (fun e' => hin e'.2))
        have HIN : Hid ((decide ((0 : Int) ≤ i) && decide (i ≤ (es.length : Int) - 1)) = false) := by show _ = _; rw [Bool.and_eq_false_iff, decide_eq_false_iff_not, decide_eq_false_iff_not]; omega
        clear hin HK hbas
        go_wp2_with (go_at_call 64; refine (l6In_is false _ _ _ _ HIN.out).mono ?_; rintro e w' ⟨rfl, rfl⟩)
        go_ret
        rw [HP.out]
        exact ⟨rfl, rfl⟩
set_option maxHeartbeats 4000000 in
theorem exactPackDepth_any (A : Option Addr) (c : Nat) (es : List Ent) (i : Int) (w : World) (h : Ents w w.heap.size A es) (hw : WideE es) (hn : es.length ≤ maxLen) (_hi : (Lit.int .i64 i).wf = true) :
    Calls Try.prog 8 #[.slice A es.length c, .int .i64 i] w (Ret (.bool true) w) := by
  go_enter Try.func8, Try.ntmps8
  go_wp2_with fail
  refine (szPackEntryS_any A c es 1048576 w h hw hn (by omega) (by omega)).mono ?_
  rintro e w1 ⟨q, rfl, hr, b1⟩
  rcases hr with rfl | ⟨hr0, hre⟩
  · go_wp2
    go_ret
    exact .mk_ b1
  · obtain ⟨hl, hfe⟩ := eAll_fits (es := es) (by omega) hw
    have hs1 : ∀ e ∈ es, e.zs.length ≤ 1048576 ∧ e.ops.length ≤ 1048576 := fun e he => ⟨(hfe e he).1, (hfe e he).2.1⟩
    have SP : Hid (∀ A' c' x, Ents x x.heap.size A' es → Calls Try.prog 33 #[.slice A' es.length c', .int .i64 i] x (Ret (.int .i64 (pDep es i)) x)) := fun A' c' x hx => (specPackDepth_any A' c' es i x hx hl).mono (fun _ _ ⟨e1, e2⟩ => ⟨e1, by subst e2; exact Below.refl _ _⟩)
    have IM : Hid (∀ A' c' x, Ents x x.heap.size A' es → Calls Try.prog 14 #[.slice A' es.length c', .int .i64 i] x (Ret (.int .i64 (pDep es i)) x)) := fun A' c' x hx => implPackDepth_any A' c' es i x hx hl hfe
    generalize pDep es i = v at *
    clear hre
    go_wp2_with fail
    refine (toPackEntryS_any A c es w1 ((h.below b1 (Nat.le_refl _)).more b1.size) hl hs1).mono ?_
    rintro e w2 ⟨g2, rfl, f2, hb⟩
    have b2 := b1.trans (hb.mono b1.size)
    clear b1 hb
    go_wp2_with fail
    refine (SP.out _ _ w2 f2.ents).mono ?_
    rintro e w3 ⟨rfl, hb⟩
    have b3 := b2.trans (hb.mono b2.size)
    clear b2 hb f2
    go_wp2_with fail
    refine (toPackEntryS_any A c es w3 ((h.below b3 (Nat.le_refl _)).more b3.size) hl hs1).mono ?_
    rintro e w4 ⟨g4, rfl, f4, hb⟩
    have b4 := b3.trans (hb.mono b3.size)
    clear b3 hb
    go_wp2_with fail
    refine (IM.out _ _ w4 f4.ents).mono ?_
    rintro e w5 ⟨rfl, hb⟩
    have b5 := b4.trans (hb.mono b4.size)
    have f5 := f4.below hb
    clear b4 hb f4
    go_wp2_with fail
    refine (toPackEntryS_any A c es w5 ((h.below b5 (Nat.le_refl _)).more b5.size) hl hs1).mono ?_
    rintro e w6 ⟨g6, rfl, f6, hb⟩
    have b6 := b5.trans (hb.mono b5.size)
    have e6 := f5.below hb
    clear b5 hb f5
    go_wp2_with fail
    refine (eqPackEntryS_same (some ⟨g4, 0, none⟩) (some ⟨g6, 0, none⟩) es.length es.length es w6 e6.ents f6.ents hl hs1).mono ?_
    rintro e w7 ⟨rfl, hb⟩
    go_wp2
    go_ret
    exact .mk_ (b6.trans (hb.mono b6.size))
set_option maxHeartbeats 4000000 in
theorem exactPackSum_any (A : Option Addr) (c : Nat) (es : List Ent) (w : World) (h : Ents w w.heap.size A es) (hw : WideE es) (hn : es.length ≤ maxLen) :
    Calls Try.prog 9 #[.slice A es.length c] w (Ret (.bool true) w) := by
  go_enter Try.func9, Try.ntmps9
  go_wp2_with fail
  refine (szPackEntryS_any A c es 1048576 w h hw hn (by omega) (by omega)).mono ?_
  rintro e w1 ⟨q, rfl, hr, b1⟩
  rcases hr with rfl | ⟨hr0, hre⟩
  · go_wp2
    go_ret
    exact .mk_ b1
  · obtain ⟨hl, hfe⟩ := eAll_fits (es := es) (by omega) hw
    have hs1 : ∀ e ∈ es, e.zs.length ≤ 1048576 ∧ e.ops.length ≤ 1048576 := fun e he => ⟨(hfe e he).1, (hfe e he).2.1⟩
    have SP : Hid (∀ A' c' x, Ents x x.heap.size A' es → Calls Try.prog 17 #[.slice A' es.length c'] x (Ret (.int .i64 (pSum es)) x)) := fun A' c' x hx => specPackSum_any A' c' es x hx hl hfe
    have IM : Hid (∀ A' c' x, Ents x x.heap.size A' es → Calls Try.prog 16 #[.slice A' es.length c'] x (Ret (.int .i64 (pSum es)) x)) := fun A' c' x hx => implPackSum_any A' c' es x hx hl hfe
    generalize pSum es = v at *
    clear hre
    go_wp2_with fail
    refine (toPackEntryS_any A c es w1 ((h.below b1 (Nat.le_refl _)).more b1.size) hl hs1).mono ?_
    rintro e w2 ⟨g2, rfl, f2, hb⟩
    have b2 := b1.trans (hb.mono b1.size)
    clear b1 hb
    go_wp2_with fail
    refine (SP.out _ _ w2 f2.ents).mono ?_
    rintro e w3 ⟨rfl, hb⟩
    have b3 := b2.trans (hb.mono b2.size)
    clear b2 hb f2
    go_wp2_with fail
    refine (toPackEntryS_any A c es w3 ((h.below b3 (Nat.le_refl _)).more b3.size) hl hs1).mono ?_
    rintro e w4 ⟨g4, rfl, f4, hb⟩
    have b4 := b3.trans (hb.mono b3.size)
    clear b3 hb
    go_wp2_with fail
    refine (IM.out _ _ w4 f4.ents).mono ?_
    rintro e w5 ⟨rfl, hb⟩
    have b5 := b4.trans (hb.mono b4.size)
    have f5 := f4.below hb
    clear b4 hb f4
    go_wp2_with fail
    refine (toPackEntryS_any A c es w5 ((h.below b5 (Nat.le_refl _)).more b5.size) hl hs1).mono ?_
    rintro e w6 ⟨g6, rfl, f6, hb⟩
    have b6 := b5.trans (hb.mono b5.size)
    have e6 := f5.below hb
    clear b5 hb f5
    go_wp2_with fail
    refine (eqPackEntryS_same (some ⟨g4, 0, none⟩) (some ⟨g6, 0, none⟩) es.length es.length es w6 e6.ents f6.ents hl hs1).mono ?_
    rintro e w7 ⟨rfl, hb⟩
    go_wp2
    go_ret
    exact .mk_ (b6.trans (hb.mono b6.size))
end Go.Proofs.Ytkekbobnbipmoaa
