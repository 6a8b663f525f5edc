/-
  Walks: which locks are valid, taken, freed and whose they are, by the model.
-/
import Derived.Test.YtdaodkacgoljbaaDoorRefA
import Derived.Test.YtdaodkacgoljbaaDoorLockP
namespace Go.Proofs.YtdaodkacgoljbaaDoor
open Go.RowKit Wo Pu Rf Lk

theorem l12Txn_is (b : Bool) (t : Int) (w : World) (hb : b = true ↔ TV t) : Calls Tryd.prog 33 #[.int .i64 t] w (Same (.bool b) w) := by
  have CB : Hid (∀ x, Calls Tryd.prog 46 #[.int .i64 t, .int .i64 0, .int .i64 11] x (Same (.bool b) x)) := fun x => l6In_is b t 0 11 x hb
  clear hb
  go_enter Tryd.func33, Tryd.ntmps33
  go_wp2_with fail
  refine (CB.out _).mono ?_
  rintro e w1 ⟨rfl, rfl⟩
  go_wp2
  go_ret
  exact ⟨rfl, rfl⟩
/-- The first k are transactions or none. -/
def OwnTo (zs : List Int) (k : Nat) : Prop := ∀ z ∈ zs.take k, Lk.Own z
theorem OwnTo.zero (zs : List Int) : OwnTo zs 0 := fun z h => by simp at h
theorem OwnTo.next {zs : List Int} {k : Nat} (h : OwnTo zs k) (hk : k < zs.length) (hv : Lk.Own zs[k]) : OwnTo zs (k + 1) := fun z hz => by
  rw [List.take_succ_eq_append_getElem hk] at hz
  rcases List.mem_append.1 hz with hz | hz
  · exact h z hz
  · rw [List.mem_singleton.1 hz]; exact hv
theorem OwnTo.all {zs : List Int} (h : OwnTo zs zs.length) : ∀ z ∈ zs, Lk.Own z := by unfold OwnTo at h; rwa [List.take_length] at h
set_option maxHeartbeats 4000000 in
theorem specLocksValid_is (b : Bool) (A : Option Addr) (c : Nat) (zs : List Int) (w : World) (B : Nat) (hr : Row w B A (ints zs)) (hm : zs.length ≤ 1048600) (hb : b = true ↔ LV zs) :
    Calls Tryd.prog 32 #[.slice A zs.length c] w (Same (.bool b) w) := by
  have HB := hid hb
  clear hb
  go_enter Tryd.func32, Tryd.ntmps32
  go_wp2_with fail
  go_loop [3] (fun i => ∃ k : Nat, k ≤ zs.length ∧ i = .int .i64 k ∧ Hid (OwnTo zs k)) (fun i => zs.length - (intOf i).toNat)
  case atStart => exact ⟨0, Nat.zero_le _, rfl, .zero zs⟩
  case round =>
    obtain ⟨k, hk, rfl, H⟩ := hrel
    by_cases hlt : k < zs.length
    · obtain ⟨ad, rfl, hbl, hc⟩ := hr.int_ hlt
      have q0 : (0 : Int) ≤ (k : Int) := by omega
      have q1 : (k : Int) < (zs.length : Int) := by omega
      obtain ⟨v, hv⟩ := bool_of (Lk.Own zs[k])
      have CV : Hid (∀ x, Calls Tryd.prog 46 #[.int .i64 zs[k], .int .i64 (-1), .int .i64 11] x (Same (.bool v) x)) := fun x => l6In_is v _ _ _ x hv
      cases v with
      | true =>
        have HN := hid (H.out.next hlt (hv.1 rfl))
        clear H hv
        go_wp2_with (go_at_call 46; refine (CV.out _).mono ?_; rintro e w' ⟨rfl, rfl⟩)
        go_round
        case rel => exact ⟨k + 1, by omega, by go_num, HN⟩
        case measure => simp [intOf]; omega
      | false =>
        have F : Hid (b = false) := by
          show b = false
          rw [← Bool.not_eq_true]
          exact fun e => by have := hv.2 ((HB.out.1 e).2 _ (List.getElem_mem hlt)); cases this
        clear H hv
        go_wp2_with (go_at_call 46; refine (CV.out _).mono ?_; rintro e w' ⟨rfl, rfl⟩)
        go_ret
        rw [F.out]
        exact ⟨rfl, rfl⟩
    · have hk' : k = zs.length := by omega
      subst hk'
      have HA := hid H.out.all
      clear H
      by_cases h4 : zs.length = 4
      · have F := hid (HB.out.2 ⟨h4, HA.out⟩)
        have e0 : ((zs.length : Int) == 4) = true := by rw [beq_iff_eq]; omega
        clear h4
        go_wp2
        go_ret
        rw [F.out]
        exact ⟨rfl, rfl⟩
      · have F : Hid (b = false) := by
          show b = false
          rw [← Bool.not_eq_true]
          exact fun e => h4 (HB.out.1 e).1
        have e0 : ((zs.length : Int) == 4) = false := by rw [beq_eq_false_iff_ne]; omega
        clear h4
        go_wp2
        go_ret
        rw [F.out]
        exact ⟨rfl, rfl⟩
end Go.Proofs.YtdaodkacgoljbaaDoor
