/-
  Walks: drawn refs and updates.
-/
import Derived.Test.YtcjnlbjlbmadlaaRefC
namespace Go.Proofs.Ytcjnlbjlbmadlaa
open Go.RowKit Wo Pu Rf

/-- A drawn id, seldom a wrong one. -/
def ValDrawn (R : Nat) (q : Int) (w : World) (e : Ending) (w' : World) : Prop := ∃ x : Int, e = .returned (.int .i64 x) ∧ -2 ≤ x ∧ x ≤ 991 ∧ Rd w' R (q + 2) ∧ But R w w'
set_option maxHeartbeats 4000000 in
theorem l92Value_any (R : Nat) (q : Int) (w : World) (hR : Rd w R q) (hq : q ≤ 900000000) :
    Calls Try.prog 48 #[.pointer (some ⟨R, 0, none⟩)] w (ValDrawn R q w) := by
  go_enter Try.func48, Try.ntmps48
  go_wp2_with fail
  refine (pick_any R q 30 w hR (by omega) (by omega) (by omega)).mono ?_
  rintro e w1 ⟨n1, rfl, a0, a1, hR1, hT1⟩
  by_cases h0 : n1 = 0
  · have e0 : (n1 == 0) = true := by rw [h0]; rfl
    clear h0
    go_wp2_with fail
    have hbA := (Below.refl w1.heap.size w1).alloc (Nat.le_refl _) (.cells #[.int .i64 (-2), .int .i64 990, .int .i64 991] 3)
    have hz := hR1.lt
    refine (pick_any R (q + 1) 3 _ (hR1.below hbA hz) (by omega) (by omega) (by omega)).mono ?_
    rintro e w2 ⟨n2, rfl, b0, b1, hR2, hT2⟩
    have bx : Box3 w2 w1.heap.size (.int .i64 (-2)) (.int .i64 990) (.int .i64 991) := hT2.box (Box3.new_ w1 _ _ _ _) (by omega)
    have hTT := (hT1.trans (.of_below hbA)).trans hT2
    obtain ⟨_, p0, p1, p2⟩ := bx
    have key : n2 = 0 ∨ n2 = 1 ∨ n2 = 2 := by omega
    rcases key with rfl | rfl | rfl
    · go_wp2
      go_ret
      exact ⟨_, rfl, by omega, by omega, hR2.more (by omega), hTT⟩
    · go_wp2
      go_ret
      exact ⟨_, rfl, by omega, by omega, hR2.more (by omega), hTT⟩
    · go_wp2
      go_ret
      exact ⟨_, rfl, by omega, by omega, hR2.more (by omega), hTT⟩
  · have e0 : (n1 == 0) = false := by rw [beq_eq_false_iff_ne]; omega
    go_wp2_with fail
    refine (pick_any R (q + 1) 6 _ hR1 (by omega) (by omega) (by omega)).mono ?_
    rintro e w2 ⟨n2, rfl, b0, b1, hR2, hT2⟩
    go_wp2
    go_ret
    exact ⟨_, rfl, by omega, by omega, hR2.more (by omega), hT1.trans hT2⟩

/-- The first k of a row of the call's own. -/
theorem own_cut {w : World} {B n c sz k : Nat} {e : TypeId} {A : Option Addr} {xs : List Value} (h : w.ownsRow B e sz (.slice A n c) n xs) (hk : k ≤ n) : w.ownsRow B e sz (.slice A k c) k (xs.take (k * sz)) := by
  obtain ⟨h1, h2⟩ := h
  refine ⟨by rw [List.length_take, h1]; exact Nat.min_eq_left (Nat.mul_le_mul_right sz hk), ?_⟩
  rcases h2 with ⟨hv, h0⟩ | ⟨g, cap, cur, hv, hB, hh, hn, hm, hcs, htk⟩
  · injection hv with e1 e2 e3
    subst e1
    subst e3
    have : k = 0 := by omega
    subst this
    exact .inl ⟨rfl, rfl⟩
  · injection hv with e1 e2 e3
    subst e1
    subst e3
    exact .inr ⟨g, c, cur, rfl, hB, hh, by omega, hm, hcs, by rw [← htk, List.take_take, Nat.min_eq_left (Nat.mul_le_mul_right sz hk)]⟩
theorem OwnI.cut {w : World} {B c k : Nat} {A : Option Addr} {zs : List Int} (h : OwnI w B (.slice A zs.length c) zs) (hk : k ≤ zs.length) : OwnI w B (.slice A k c) (zs.take k) := by
  have h1 := own_cut h hk
  have e : (zs.take k).length = k := by rw [List.length_take]; omega
  unfold OwnI
  rw [e]
  have e2 : ints (zs.take k) = (ints zs).take (k * 1) := by unfold ints; rw [List.map_take, Nat.mul_one]
  rw [e2]
  exact h1
/-- Drawn refs. -/
def RefsDrawn (R : Nat) (q : Int) (w : World) (e : Ending) (w' : World) : Prop := ∃ v zs, e = .returned v ∧ OwnI w' w.heap.size v zs ∧ zs.length ≤ 4 ∧ Rd w' R (q + 12) ∧ But R w w'
set_option maxRecDepth 100000 in
set_option maxHeartbeats 4000000 in
theorem l92Refs_any (R : Nat) (q : Int) (w : World) (hR : Rd w R q) (hq : q ≤ 800000000) :
    Calls Try.prog 42 #[.pointer (some ⟨R, 0, none⟩)] w (RefsDrawn R q w) := by
  obtain ⟨i0, hi, hz0, hz1, hz2⟩ := info_of info_int
  have hRl := hR.lt
  have al := (Below.refl w.heap.size w).alloc (Nat.le_refl _) (.cells #[] 3)
  have R0 := hR.below al hRl
  have T0 : But R w (w.alloc (.cells #[] 3)) := .of_below al
  have o0 := OwnI.nil_new (w := w) (Nat.le_refl _)
  go_enter Try.func42, Try.ntmps42
  go_wp2_with fail
  go_loopw [3, 4] (fun v i wr => ∃ (k : Nat) (zs : List Int), k ≤ 4 ∧ i = .int .i64 k ∧ Hid (zs.length = k) ∧ OwnI wr w.heap.size v zs ∧ Rd wr R (q + 2 * k) ∧ But R w wr) (fun _ i _ => 4 - (intOf i).toNat)
  case atStart => exact ⟨0, [], Nat.zero_le _, rfl, rfl, o0, by simpa using R0, T0⟩
  case round =>
    clear o0 R0 T0 al
    obtain ⟨k, zs, hk, rfl, HL, ho, Rk, Tk⟩ := hrel
    by_cases hlt : k < 4
    · go_wp2_with fail
      refine (l92Value_any R _ wr Rk (by omega)).mono ?_
      rintro e w1 ⟨x, rfl, x0, x1, R1, T1⟩
      have o1 := ho.but T1 hRl
      have T2 := Tk.trans T1
      have hz1' := T2.size
      have a2 := World.ownsRow.alloc o1 (.cells #[.int .i64 x] 3)
      have al1 := (Below.refl w1.heap.size w1).alloc (Nat.le_refl _) (.cells #[.int .i64 x] 3)
      have lt1 := World.ownsRow.lt a2
      have HL1 := hid (show zs.length ≤ 4 by have := HL.out; omega)
      clear ho o1 Rk Tk T1
      go_wp2_with (at_builtin; go_must (refine wpList_append_own _ rfl _ _ 23 rfl w.heap.size 3 i0 (.int .i64 0) 1 8 Try.underlying23 hi hz0 hz1 hz2 rfl (by decide) _ zs.length (ints zs) rfl a2 ⟨w1.heap.size, 0, none⟩ 1 1 [.int .i64 x] rfl rfl (cell_one_new _ _ _) (one_int _) (by have := HL1.out; unfold maxLen; omega) (by have := HL1.out; omega) (by simp; omega) ?_); intro u4 w4 hown hg _)
      have o4 := OwnI.app hown
      have b4 : Below w.heap.size w1 w4 := ((Below.refl w.heap.size w1).alloc hz1' _).grown hg (by simp; omega) (fun j hj => (lt1 j hj).1)
      have R4 := R1.below b4 hRl
      have T4 : But R w w4 := World.grownBy.andThen (T2.trans (.of_below al1)) hg (fun j hj => .inl (lt1 j hj).1)
      clear hown hg a2 lt1 R1 T2 b4
      go_wp2
      go_roundw
      case rel => exact ⟨k + 1, zs ++ [x], by omega, by go_num, by show _ = _; rw [List.length_append, HL.out]; rfl, o4, R4.more (by omega), T4⟩
      case measure => simp [intOf]; omega
    · have hk4 : k = 4 := by omega
      have HL4 := hid (HL.out.trans hk4)
      clear HL
      subst hk4
      go_wp2_with fail
      refine (pick_any R _ 24 wr Rk (by omega) (by omega) (by omega)).mono ?_
      rintro e w1 ⟨x, rfl, x0, x1, R1, T1⟩
      have o1 := ho.but T1 hRl
      have T2 := Tk.trans T1
      obtain ⟨A, c, rfl, -, hc⟩ := o1.form
      clear ho Tk T1
      by_cases hx : x = 0
      · have e0 : (x == 0) = true := by rw [hx]; rfl
        clear hx
        go_wp2_with fail
        refine (pick_any R _ 5 w1 R1 (by omega) (by omega) (by omega)).mono ?_
        rintro e w3 ⟨y, rfl, y0, y1, R3, T3⟩
        obtain ⟨m, rfl⟩ := Int.eq_ofNat_of_zero_le y0
        have hm4 : m ≤ zs.length := by rw [HL4.out]; omega
        have o3 := o1.but T3 hRl
        have o4 := o3.cut hm4
        have q1 : (m : Int) ≤ (c : Int) := by omega
        have q2 : (m : Int) ≤ (zs.length : Int) := by omega
        have hl4 : Hid ((zs.take m).length ≤ 4) := by show _ ≤ _; rw [List.length_take]; omega
        go_wp2_with fail
        go_ret
        exact ⟨_, _, rfl, o4, hl4.out, R3.more (by omega), T2.trans T3⟩
      · have e0 : (x == 0) = false := by rw [beq_eq_false_iff_ne]; exact hx
        go_wp2_with fail
        go_ret
        exact ⟨_, _, rfl, o1, by rw [HL4.out]; exact Nat.le_refl _, R1.more (by omega), T2⟩
end Go.Proofs.Ytcjnlbjlbmadlaa
