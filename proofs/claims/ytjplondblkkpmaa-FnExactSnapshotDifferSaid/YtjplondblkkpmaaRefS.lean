/-
  Walks: which refs and updates are valid, by the model; what it makes of them.
-/
import Derived.Test.YtjplondblkkpmaaUpK
namespace Go.Proofs.Ytjplondblkkpmaa
open Go.RowKit Wo Pu Rf

/-! ### Ids. -/
instance (n : Int) : Decidable (Val n) := by unfold Val; exact inferInstance
theorem l11Value_is (b : Bool) (n : Int) (w : World) (hb : b = true ↔ Val n) : Calls Try.prog 86 #[.int .i64 n] w (Same (.bool b) w) := by
  have HB := hid hb
  clear hb
  by_cases h : Val n
  · have F := hid (HB.out.2 h)
    obtain ⟨h1, h2⟩ := h
    go_enter Try.func86, Try.ntmps86
    go_wp2_with (go_at_call 40; refine (l6In_yes n (-1) 990 _ h1 h2).mono ?_; rintro e w' ⟨rfl, rfl⟩)
    go_ret
    rw [F.out]
    exact ⟨rfl, rfl⟩
  · have F : Hid (b = false) := by
      show b = false
      rw [← Bool.not_eq_true]
      exact fun e => h (HB.out.1 e)
    have h' : n < -1 ∨ 990 < n := by unfold Val at h; omega
    clear h
    go_enter Try.func86, Try.ntmps86
    go_wp2_with (go_at_call 40; refine (l6In_no n (-1) 990 _ h').mono ?_; rintro e w' ⟨rfl, rfl⟩)
    go_ret
    rw [F.out]
    exact ⟨rfl, rfl⟩
/-- The first k are ids. -/
def ValTo (zs : List Int) (k : Nat) : Prop := ∀ z ∈ zs.take k, Val z
theorem ValTo.zero (zs : List Int) : ValTo zs 0 := fun z h => by simp at h
theorem ValTo.next {zs : List Int} {k : Nat} (h : ValTo zs k) (hk : k < zs.length) (hv : Val zs[k]) : ValTo zs (k + 1) := fun z hz => by
  rw [List.take_succ_eq_append_getElem hk] at hz
  rcases List.mem_append.1 hz with hz | hz
  · exact h z hz
  · rw [List.mem_singleton.1 hz]; exact hv
theorem ValTo.all {zs : List Int} (h : ValTo zs zs.length) : ∀ z ∈ zs, Val z := by unfold ValTo at h; rwa [List.take_length] at h
set_option maxHeartbeats 4000000 in
theorem specRefsValid_is (b : Bool) (A : Option Addr) (c : Nat) (zs : List Int) (w : World) (B : Nat) (hr : Row w B A (ints zs)) (hm : zs.length ≤ 1048600) (hb : b = true ↔ RV zs) :
    Calls Try.prog 71 #[.slice A zs.length c] w (Same (.bool b) w) := by
  have HB := hid hb
  clear hb
  go_enter Try.func71, Try.ntmps71
  go_wp2_with fail
  go_loop [3] (fun i => ∃ k : Nat, k ≤ zs.length ∧ i = .int .i64 k ∧ Hid (ValTo zs k)) (fun i => zs.length - (intOf i).toNat)
  case atStart => exact ⟨0, Nat.zero_le _, rfl, .zero zs⟩
  case round =>
    obtain ⟨k, hk, rfl, H⟩ := hrel
    by_cases hlt : k < zs.length
    · obtain ⟨ad, rfl, hbl, hc⟩ := hr.int_ hlt
      have q0 : (0 : Int) ≤ (k : Int) := by omega
      have q1 : (k : Int) < (zs.length : Int) := by omega
      by_cases hv : Val zs[k]
      · have CV : Hid (∀ x, Calls Try.prog 86 #[.int .i64 zs[k]] x (Same (.bool true) x)) := fun x => l11Value_is true _ x (by simp [hv])
        have HN := hid (H.out.next hlt hv)
        clear H hv
        go_wp2_with (go_at_call 86; refine (CV.out _).mono ?_; rintro e w' ⟨rfl, rfl⟩)
        go_round
        case rel => exact ⟨k + 1, by omega, by go_num, HN⟩
        case measure => simp [intOf]; omega
      · have CV : Hid (∀ x, Calls Try.prog 86 #[.int .i64 zs[k]] x (Same (.bool false) x)) := fun x => l11Value_is false _ x (by simp [hv])
        have F : Hid (b = false) := by
          show b = false
          rw [← Bool.not_eq_true]
          exact fun e => hv ((HB.out.1 e).2 _ (List.getElem_mem hlt))
        clear H hv
        go_wp2_with (go_at_call 86; refine (CV.out _).mono ?_; rintro e w' ⟨rfl, rfl⟩)
        go_ret
        rw [F.out]
        exact ⟨rfl, rfl⟩
    · have hk' : k = zs.length := by omega
      subst hk'
      have HA := hid H.out.all
      clear H
      by_cases h4 : zs.length = 4
      · have F := hid (HB.out.2 ⟨h4, HA.out⟩)
        have e0 : ((zs.length : Int) == 4) = true := by rw [beq_iff_eq]; omega
        clear h4
        go_wp2
        go_ret
        rw [F.out]
        exact ⟨rfl, rfl⟩
      · have F : Hid (b = false) := by
          show b = false
          rw [← Bool.not_eq_true]
          exact fun e => h4 (HB.out.1 e).1
        have e0 : ((zs.length : Int) == 4) = false := by rw [beq_eq_false_iff_ne]; omega
        clear h4
        go_wp2
        go_ret
        rw [F.out]
        exact ⟨rfl, rfl⟩
end Go.Proofs.Ytjplondblkkpmaa
