/-
  Walk of the law on texts that have no frame.
-/
import Derived.Test.YtbdaplhcigchlabLogK
namespace Go.Proofs.Ytbdaplhcigchlab
open Go.RowKit Wo Pu Lg

theorem frame_none (s : ByteArray) : (frameB s).toList.isEmpty = decide (¬ (1 ≤ s.size ∧ s.size ≤ 12)) := by
  rw [emp_]
  by_cases h : 1 ≤ s.size ∧ s.size ≤ 12
  · rw [frameB_size h]; simp [h]
  · rw [frameB_no h, decide_eq_true h]; rfl
theorem FnFrameEmpty_no (A : Option Addr) (c : Nat) (bs : List Int) (w : World) (h : Code_ w A c bs) (hl : ¬ bs.length ≤ 1048576) :
    Calls Try.prog 4 #[.slice A bs.length c] w (Ret (.bool true) w) := by
  have hc := h.2.1
  have hm := h.2.2.1
  unfold maxLen at hm
  go_enter Try.func4, Try.ntmps4
  go_wp2
  go_ret
  exact .mk_ (Below.refl _ _)
set_option maxHeartbeats 4000000 in
theorem FnFrameEmpty_yes (A : Option Addr) (c : Nat) (bs : List Int) (w : World) (h : Code_ w A c bs) (hl : bs.length ≤ 1048576) :
    Calls Try.prog 4 #[.slice A bs.length c] w (Ret (.bool true) w) := by
  go_enter Try.func4, Try.ntmps4
  go_wp2_with fail
  refine (DrawLogFrame_any A c bs _ h).mono ?_
  rintro e w1 ⟨s, rfl, hs, b1⟩
  have hsm : s.size ≤ maxLen := by unfold maxLen; omega
  go_wp2_with fail
  refine (implLogFrame_any s _ hsm).mono ?_
  rintro e w2 ⟨rfl, hb2⟩
  have b2 := b1.trans (hb2.mono b1.size)
  go_wp2_with fail
  refine (specLogFrame_any s _ hsm).mono ?_
  rintro e w3 ⟨rfl, hb3⟩
  have b3 := b2.trans (hb3.mono b2.size)
  have HE := hid (frame_none s)
  clear hb2 hb3 b1 b2
  obtain ⟨L, hL⟩ : ∃ L, frameB s = L := ⟨_, rfl⟩
  rw [hL] at HE ⊢
  clear hL
  go_wp2_with fail
  refine (implLogFrame_no ⟨#[]⟩ _ (by decide) (by decide)).mono ?_
  rintro e w4 ⟨rfl, hb4⟩
  have b4 := b3.trans (hb4.mono b3.size)
  go_wp2_with fail
  refine (implLogFrame_no ⟨#[48, 49, 50, 51, 52, 53, 54, 55, 56, 57, 97, 98, 99]⟩ _ (by decide) (by decide)).mono ?_
  rintro e w5 ⟨rfl, hb5⟩
  have b5 := b4.trans (hb5.mono b4.size)
  clear b3 hb4 b4 hb5
  by_cases hz : s.size = 0
  · have e1 : s.toList.isEmpty = true := (emp_ s).trans (decide_eq_true hz)
    have e0 : L.toList.isEmpty = true := HE.out.trans (decide_eq_true (by omega))
    clear hz
    go_wp2
    go_ret
    exact .mk_ b5
  · have e1 : s.toList.isEmpty = false := (emp_ s).trans (decide_eq_false hz)
    by_cases h12 : s.size ≤ 12
    · have e0 : L.toList.isEmpty = false := HE.out.trans (decide_eq_false (by omega))
      have e2 : decide (12 < (s.size : Int)) = false := by simp; omega
      have e3 : decide (12 < s.size) = false := by simp; omega
      clear hz
      go_wp2
      go_ret
      exact .mk_ b5
    · have e0 : L.toList.isEmpty = true := HE.out.trans (decide_eq_true (by omega))
      have e2 : decide (12 < (s.size : Int)) = true := by simp; omega
      have e3 : decide (12 < s.size) = true := by simp; omega
      clear hz
      go_wp2
      go_ret
      exact .mk_ b5
theorem FnFrameEmpty_any (A : Option Addr) (c : Nat) (bs : List Int) (w : World) (f1 : Row w w.heap.size A (bs.map (Value.int .u8))) (f2 : bs.length ≤ c) (f3 : c ≤ maxLen) (f4 : ∀ n ∈ bs, 0 ≤ n ∧ n < 256) :
    Calls Try.prog 4 #[.slice A bs.length c] w (Ret (.bool true) w) := by
  by_cases hl : bs.length ≤ 1048576
  · exact FnFrameEmpty_yes A c bs w ⟨f1, f2, f3, f4⟩ hl
  · exact FnFrameEmpty_no A c bs w ⟨f1, f2, f3, f4⟩ hl
end Go.Proofs.Ytbdaplhcigchlab
