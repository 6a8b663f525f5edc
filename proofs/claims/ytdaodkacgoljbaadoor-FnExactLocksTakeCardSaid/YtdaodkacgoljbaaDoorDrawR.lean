/-
  Walks: drawn refs and updates.
-/
import Derived.Test.YtdaodkacgoljbaaDoorRefC
namespace Go.Proofs.YtdaodkacgoljbaaDoor
open Go.RowKit Wo Pu Rf

/-- A drawn id, seldom a wrong one. -/
def ValDrawn (R : Nat) (q : Int) (w : World) (e : Ending) (w' : World) : Prop := ∃ x : Int, e = .returned (.int .i64 x) ∧ -2 ≤ x ∧ x ≤ 991 ∧ Rd w' R (q + 2) ∧ But R w w'
set_option maxHeartbeats 4000000 in
theorem l92Value_any (R : Nat) (q : Int) (w : World) (hR : Rd w R q) (hq : q ≤ 900000000) :
    Calls Tryd.prog 43 #[.pointer (some ⟨R, 0, none⟩)] w (ValDrawn R q w) := by
  go_enter Tryd.func43, Tryd.ntmps43
  go_wp2_with fail
  refine (pick_any R q 30 w hR (by omega) (by omega) (by omega)).mono ?_
  rintro e w1 ⟨n1, rfl, a0, a1, hR1, hT1⟩
  by_cases h0 : n1 = 0
  · have e0 : (n1 == 0) = true := by rw [h0]; rfl
    clear h0
    go_wp2_with fail
    have hbA := (Below.refl w1.heap.size w1).alloc (Nat.le_refl _) (.cells #[.int .i64 (-2), .int .i64 990, .int .i64 991] 3)
    have hz := hR1.lt
    refine (pick_any R (q + 1) 3 _ (hR1.below hbA hz) (by omega) (by omega) (by omega)).mono ?_
    rintro e w2 ⟨n2, rfl, b0, b1, hR2, hT2⟩
    have bx : Box3 w2 w1.heap.size (.int .i64 (-2)) (.int .i64 990) (.int .i64 991) := hT2.box (Box3.new_ w1 _ _ _ _) (by omega)
    have hTT := (hT1.trans (.of_below hbA)).trans hT2
    obtain ⟨_, p0, p1, p2⟩ := bx
    have key : n2 = 0 ∨ n2 = 1 ∨ n2 = 2 := by omega
    rcases key with rfl | rfl | rfl
    · go_wp2
      go_ret
      exact ⟨_, rfl, by omega, by omega, hR2.more (by omega), hTT⟩
    · go_wp2
      go_ret
      exact ⟨_, rfl, by omega, by omega, hR2.more (by omega), hTT⟩
    · go_wp2
      go_ret
      exact ⟨_, rfl, by omega, by omega, hR2.more (by omega), hTT⟩
  · have e0 : (n1 == 0) = false := by rw [beq_eq_false_iff_ne]; omega
    go_wp2_with fail
    refine (pick_any R (q + 1) 6 _ hR1 (by omega) (by omega) (by omega)).mono ?_
    rintro e w2 ⟨n2, rfl, b0, b1, hR2, hT2⟩
    go_wp2
    go_ret
    exact ⟨_, rfl, by omega, by omega, hR2.more (by omega), hT1.trans hT2⟩

/-- The first k of a row of the call's own. -/
theorem own_cut {w : World} {B n c sz k : Nat} {e : TypeId} {A : Option Addr} {xs : List Value} (h : w.ownsRow B e sz (.slice A n c) n xs) (hk : k ≤ n) : w.ownsRow B e sz (.slice A k c) k (xs.take (k * sz)) := by
  obtain ⟨h1, h2⟩ := h
  refine ⟨by rw [List.length_take, h1]; exact Nat.min_eq_left (Nat.mul_le_mul_right sz hk), ?_⟩
  rcases h2 with ⟨hv, h0⟩ | ⟨g, cap, cur, hv, hB, hh, hn, hm, hcs, htk⟩
  · injection hv with e1 e2 e3
    subst e1
    subst e3
    have : k = 0 := by omega
    subst this
    exact .inl ⟨rfl, rfl⟩
  · injection hv with e1 e2 e3
    subst e1
    subst e3
    exact .inr ⟨g, c, cur, rfl, hB, hh, by omega, hm, hcs, by rw [← htk, List.take_take, Nat.min_eq_left (Nat.mul_le_mul_right sz hk)]⟩
theorem OwnI.cut {w : World} {B c k : Nat} {A : Option Addr} {zs : List Int} (h : OwnI w B (.slice A zs.length c) zs) (hk : k ≤ zs.length) : OwnI w B (.slice A k c) (zs.take k) := by
  have h1 := own_cut h hk
  have e : (zs.take k).length = k := by rw [List.length_take]; omega
  unfold OwnI
  rw [e]
  have e2 : ints (zs.take k) = (ints zs).take (k * 1) := by unfold ints; rw [List.map_take, Nat.mul_one]
  rw [e2]
  exact h1
/-- Drawn refs. -/
def RefsDrawn (R : Nat) (q : Int) (w : World) (e : Ending) (w' : World) : Prop := ∃ v zs, e = .returned v ∧ OwnI w' w.heap.size v zs ∧ zs.length ≤ 4 ∧ Rd w' R (q + 12) ∧ But R w w'
end Go.Proofs.YtdaodkacgoljbaaDoor
