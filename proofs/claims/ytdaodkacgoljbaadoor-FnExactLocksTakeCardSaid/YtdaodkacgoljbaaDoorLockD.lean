/-
  Walks: drawn locks and transactions.
-/
import Derived.Test.YtdaodkacgoljbaaDoorDrawU
namespace Go.Proofs.YtdaodkacgoljbaaDoor
open Go.RowKit Wo Pu Rf

/-- A drawn transaction. -/
def TxnDrawn (R : Nat) (q : Int) (w : World) (e : Ending) (w' : World) : Prop := ∃ x : Int, e = .returned (.int .i64 x) ∧ -1 ≤ x ∧ x ≤ 12 ∧ Rd w' R (q + 2) ∧ But R w w'
set_option maxHeartbeats 4000000 in
theorem l92Txn_any (R : Nat) (q : Int) (w : World) (hR : Rd w R q) (hq : q ≤ 900000000) :
    Calls Tryd.prog 27 #[.pointer (some ⟨R, 0, none⟩)] w (TxnDrawn R q w) := by
  go_enter Tryd.func27, Tryd.ntmps27
  go_wp2_with fail
  refine (pick_any R q 24 w hR (by omega) (by omega) (by omega)).mono ?_
  rintro e w1 ⟨n1, rfl, a0, a1, hR1, hT1⟩
  by_cases h0 : n1 = 0
  · have e0 : (n1 == 0) = true := by rw [h0]; rfl
    clear h0
    go_wp2_with fail
    have hbA := (Below.refl w1.heap.size w1).alloc (Nat.le_refl _) (.cells #[.int .i64 (-1), .int .i64 11, .int .i64 12] 3)
    have hz := hR1.lt
    refine (pick_any R (q + 1) 3 _ (hR1.below hbA hz) (by omega) (by omega) (by omega)).mono ?_
    rintro e w2 ⟨n2, rfl, b0, b1, hR2, hT2⟩
    have bx : Box3 w2 w1.heap.size (.int .i64 (-1)) (.int .i64 11) (.int .i64 12) := hT2.box (Box3.new_ w1 _ _ _ _) (by omega)
    have hTT := (hT1.trans (.of_below hbA)).trans hT2
    obtain ⟨_, p0, p1, p2⟩ := bx
    have key : n2 = 0 ∨ n2 = 1 ∨ n2 = 2 := by omega
    rcases key with rfl | rfl | rfl
    · go_wp2
      go_ret
      exact ⟨_, rfl, by omega, by omega, hR2.more (by omega), hTT⟩
    · go_wp2
      go_ret
      exact ⟨_, rfl, by omega, by omega, hR2.more (by omega), hTT⟩
    · go_wp2
      go_ret
      exact ⟨_, rfl, by omega, by omega, hR2.more (by omega), hTT⟩
  · have e0 : (n1 == 0) = false := by rw [beq_eq_false_iff_ne]; omega
    go_wp2_with fail
    refine (pick_any R (q + 1) 5 _ hR1 (by omega) (by omega) (by omega)).mono ?_
    rintro e w2 ⟨n2, rfl, b0, b1, hR2, hT2⟩
    go_wp2
    go_ret
    exact ⟨_, rfl, by omega, by omega, hR2.more (by omega), hT1.trans hT2⟩
/-- Drawn locks. -/
def LocksDrawn (R : Nat) (q : Int) (w : World) (e : Ending) (w' : World) : Prop := ∃ v zs, e = .returned v ∧ OwnI w' w.heap.size v zs ∧ zs.length ≤ 4 ∧ Rd w' R (q + 12) ∧ But R w w'
set_option maxRecDepth 100000 in
set_option maxHeartbeats 8000000 in
theorem l92Locks_any (R : Nat) (q : Int) (w : World) (hR : Rd w R q) (hq : q ≤ 800000000) :
    Calls Tryd.prog 26 #[.pointer (some ⟨R, 0, none⟩)] w (LocksDrawn R q w) := by
  obtain ⟨i0, hi, hz0, hz1, hz2⟩ := info_of info_int
  have hRl := hR.lt
  have al := (Below.refl w.heap.size w).alloc (Nat.le_refl _) (.cells #[] 3)
  have R0 := hR.below al hRl
  have T0 : But R w (w.alloc (.cells #[] 3)) := .of_below al
  have o0 := OwnI.nil_new (w := w) (Nat.le_refl _)
  go_enter Tryd.func26, Tryd.ntmps26
  go_wp2_with fail
  go_loopw [3, 4] (fun v i wr => ∃ (k : Nat) (zs : List Int), k ≤ 4 ∧ i = .int .i64 k ∧ Hid (zs.length = k) ∧ OwnI wr w.heap.size v zs ∧ Rd wr R (q + 2 * k) ∧ But R w wr) (fun _ i _ => 4 - (intOf i).toNat)
  case atStart => exact ⟨0, [], Nat.zero_le _, rfl, rfl, o0, by simpa using R0, T0⟩
  case round =>
    clear o0 R0 T0 al
    obtain ⟨k, zs, hk, rfl, HL, ho, Rk, Tk⟩ := hrel
    by_cases hlt : k < 4
    · have HL1 := hid (show zs.length ≤ 4 by have := HL.out; omega)
      go_wp2_with fail
      refine (pick_any R _ 3 wr Rk (by omega) (by omega) (by omega)).mono ?_
      rintro e w1 ⟨x, rfl, x0, x1, R1, T1⟩
      have o1 := ho.but T1 hRl
      have T2 := Tk.trans T1
      clear ho Rk Tk T1
      by_cases hx : x = 0
      · have e0 : (x == 0) = true := by rw [hx]; rfl
        clear hx
        go_wp2_with fail
        refine (pick_any R _ 5 w1 R1 (by omega) (by omega) (by omega)).mono ?_
        rintro e w2 ⟨n, rfl, n0, n1, R2, T3⟩
        have o2 := o1.but T3 hRl
        have T5 := T2.trans T3
        clear o1 R1 T2 T3
        have hz1' := (T5).size
        have a2 := World.ownsRow.alloc o2 (.cells #[.int .i64 n] 3)
        have al1 := (Below.refl (w2).heap.size w2).alloc (Nat.le_refl _) (.cells #[.int .i64 n] 3)
        have lt1 := World.ownsRow.lt a2
        go_wp2_with (at_builtin; go_must (refine wpList_append_own _ rfl _ _ 23 rfl w.heap.size 3 i0 (.int .i64 0) 1 8 Tryd.underlying23 hi hz0 hz1 hz2 rfl (by decide) _ zs.length (ints zs) rfl a2 ⟨(w2).heap.size, 0, none⟩ 1 1 [.int .i64 n] rfl rfl (cell_one_new _ _ _) (one_int _) (by have := HL1.out; unfold maxLen; omega) (by have := HL1.out; omega) (by simp; omega) ?_); intro u4 w4 hown hg _)
        have o4 := OwnI.app hown
        have b4 : Below w.heap.size w2 w4 := ((Below.refl w.heap.size w2).alloc hz1' _).grown hg (by simp; omega) (fun j hj => (lt1 j hj).1)
        have R4 := (R2).below b4 hRl
        have T4 : But R w w4 := World.grownBy.andThen ((T5).trans (.of_below al1)) hg (fun j hj => .inl (lt1 j hj).1)
        clear hown hg a2 lt1 b4
        go_wp2
        go_roundw
        case rel => exact ⟨k + 1, zs ++ [n], by omega, by go_num, by show _ = _; rw [List.length_append, HL.out]; rfl, o4, R4.more (by omega), T4⟩
        case measure => simp [intOf]; omega
      · have e0 : (x == 0) = false := by rw [beq_eq_false_iff_ne]; exact hx
        clear hx
        have hz1' := (T2).size
        have a2 := World.ownsRow.alloc o1 (.cells #[.int .i64 (-1)] 3)
        have al1 := (Below.refl (w1).heap.size w1).alloc (Nat.le_refl _) (.cells #[.int .i64 (-1)] 3)
        have lt1 := World.ownsRow.lt a2
        go_wp2_with (at_builtin; go_must (refine wpList_append_own _ rfl _ _ 23 rfl w.heap.size 3 i0 (.int .i64 0) 1 8 Tryd.underlying23 hi hz0 hz1 hz2 rfl (by decide) _ zs.length (ints zs) rfl a2 ⟨(w1).heap.size, 0, none⟩ 1 1 [.int .i64 (-1)] rfl rfl (cell_one_new _ _ _) (one_int _) (by have := HL1.out; unfold maxLen; omega) (by have := HL1.out; omega) (by simp; omega) ?_); intro u4 w4 hown hg _)
        have o4 := OwnI.app hown
        have b4 : Below w.heap.size w1 w4 := ((Below.refl w.heap.size w1).alloc hz1' _).grown hg (by simp; omega) (fun j hj => (lt1 j hj).1)
        have R4 := (R1).below b4 hRl
        have T4 : But R w w4 := World.grownBy.andThen ((T2).trans (.of_below al1)) hg (fun j hj => .inl (lt1 j hj).1)
        clear hown hg a2 lt1 b4
        go_wp2
        go_roundw
        case rel => exact ⟨k + 1, zs ++ [(-1)], by omega, by go_num, by show _ = _; rw [List.length_append, HL.out]; rfl, o4, R4.more (by omega), T4⟩
        case measure => simp [intOf]; omega
    · have hk4 : k = 4 := by omega
      have HL4 := hid (HL.out.trans hk4)
      clear HL
      subst hk4
      go_wp2_with fail
      refine (pick_any R _ 24 wr Rk (by omega) (by omega) (by omega)).mono ?_
      rintro e w1 ⟨x, rfl, x0, x1, R1, T1⟩
      have o1 := ho.but T1 hRl
      have T2 := Tk.trans T1
      obtain ⟨g, c, rfl, hg1, hg2⟩ := o1.at (by rw [HL4.out]; omega)
      clear ho Tk T1
      have key : x = 0 ∨ x = 1 ∨ (x ≠ 0 ∧ x ≠ 1) := by omega
      rcases key with rfl | rfl | ⟨hx0, hx1⟩
      · go_wp2_with fail
        refine (pick_any R _ 4 w1 R1 (by omega) (by omega) (by omega)).mono ?_
        rintro e w2 ⟨y, rfl, y0, y1, R2, T3⟩
        obtain ⟨m, rfl⟩ := Int.eq_ofNat_of_zero_le y0
        have hm : m < zs.length := by rw [HL4.out]; omega
        have o2 := o1.but T3 hRl
        have T4 := T2.trans T3
        clear o1 R1 T2 T3
        go_wp2_with fail
        have hbA := (Below.refl w2.heap.size w2).alloc (Nat.le_refl _) (.cells #[.int .i64 (-2), .int .i64 11, .int .i64 12] 3)
        have hz := R2.lt
        refine (pick_any R _ 3 _ (R2.below hbA hz) (by omega) (by omega) (by omega)).mono ?_
        rintro e w3 ⟨n2, rfl, b0, b1, R3, T5⟩
        have bx : Box3 w3 w2.heap.size (.int .i64 (-2)) (.int .i64 11) (.int .i64 12) := T5.box (Box3.new_ w2 _ _ _ _) (by omega)
        have o3 := (o2.below hbA (Nat.le_refl _)).but T5 hRl
        have T6 := (T4.trans (.of_below hbA)).trans T5
        obtain ⟨_, p0, p1, p2⟩ := bx
        have f0 := World.ownsRow.frozenAt o3 m
        have c0 := o3.cell hm
        have ls : ∀ u : Int, (zs.set m u).length = zs.length := fun u => List.length_set ..
        have q2 : (m : Int) < (zs.length : Int) := by omega
        have hl4 : zs.length ≤ 4 := by rw [HL4.out]; exact Nat.le_refl _
        have key : n2 = 0 ∨ n2 = 1 ∨ n2 = 2 := by omega
        rcases key with rfl | rfl | rfl
        · go_wp2_with fail
          go_ret
          exact ⟨_, _, rfl, by have := o3.set m (-2); rw [ls] at this; exact this, by rw [ls]; exact hl4, (R3.far (g := g) (by omega) m _).more (by omega), T6.set_new hg1 m _⟩
        · go_wp2_with fail
          go_ret
          exact ⟨_, _, rfl, by have := o3.set m 11; rw [ls] at this; exact this, by rw [ls]; exact hl4, (R3.far (g := g) (by omega) m _).more (by omega), T6.set_new hg1 m _⟩
        · go_wp2_with fail
          go_ret
          exact ⟨_, _, rfl, by have := o3.set m 12; rw [ls] at this; exact this, by rw [ls]; exact hl4, (R3.far (g := g) (by omega) m _).more (by omega), T6.set_new hg1 m _⟩
      · have h34 : 3 ≤ zs.length := by rw [HL4.out]; omega
        have o4 := o1.cut h34
        have hc : zs.length ≤ c := by
          obtain ⟨A', c', e', -, hc'⟩ := o1.form
          injection e' with e1 e2 e3
          omega
        have q1 : (3 : Int) ≤ (c : Int) := by have := HL4.out; omega
        have q2 : (3 : Int) ≤ (zs.length : Int) := by omega
        have hl4 : Hid ((zs.take 3).length ≤ 4) := by show _ ≤ _; rw [List.length_take]; omega
        go_wp2_with fail
        go_ret
        exact ⟨_, _, rfl, o4, hl4.out, R1.more (by omega), T2⟩
      · have e0 : (x == 0) = false := by rw [beq_eq_false_iff_ne]; exact hx0
        have e1 : (x == 1) = false := by rw [beq_eq_false_iff_ne]; exact hx1
        clear hx0 hx1
        go_wp2_with fail
        go_ret
        exact ⟨_, _, rfl, o1, by rw [HL4.out]; exact Nat.le_refl _, R1.more (by omega), T2⟩
end Go.Proofs.YtdaodkacgoljbaaDoor
