/-
  Walks: drawn ids of a store; the drawn arguments of StorePut.
-/
import Derived.Test.YtblknnifccmpkaaG8X
namespace Go.Proofs.Ytblknnifccmpkaa
open Go.RowKit Wo Pu

/-- Ids have been drawn. -/
def IdsDrawn (R : Nat) (q : Int) (w : World) (e : Ending) (w' : World) : Prop :=
  ∃ A c L, e = .returned (.slice A (List.length L) c) ∧ Own w' w.heap.size (.slice A L.length c) L ∧ L.length ≤ 992 ∧ Rd w' R (q + 30) ∧ But R w w'


set_option maxRecDepth 100000 in
set_option maxHeartbeats 8000000 in
theorem l91Ids_any (R : Nat) (q : Int) (A : Option Addr) (c : Nat) (os : List Ob) (w : World) (hR : Rd w R q) (hq : q ≤ 500000000) (hs : OwnObs w (R + 1) (.slice A os.length c) os) (hl : os.length ≤ 22) (hv : ∀ p ∈ os, vOb p = true) :
    Calls Try.prog 79 #[.pointer (some ⟨R, 0, none⟩), .slice A os.length c] w (IdsDrawn R q w) := by
  obtain ⟨i0, hi, hz0, hz1, hz2⟩ := info_of info_int
  have hRl := hR.lt
  have HV := hid hv
  clear hv
  go_enter Try.func79, Try.ntmps79
  go_wp2_with fail
  have a0 := (Below.refl w.heap.size w).alloc (Nat.le_refl _) (.cells #[] 3)
  have o0 : Own (w.alloc (.cells #[] 3)) w.heap.size (.slice (some ⟨w.heap.size, 0, none⟩) 0 0) [] := .nil_new (Nat.le_refl _)
  refine (pick_any R q 4 _ (hR.below a0 hRl) (by omega) (by omega) (by omega)).mono ?_
  rintro e w1 ⟨N, rfl, N0, N1, hR1, hT1⟩
  have B1 := (But.of_below (R := R) a0).trans hT1
  have o1 := o0.but hT1 hRl
  clear a0 o0 hT1
  by_cases h0 : os.length = 0
  · go_wp2_with fail
    go_loopw [5, 7] (fun v i wr => v = .slice (some ⟨w.heap.size, 0, none⟩) 0 0 ∧ i = .int .i64 0 ∧ wr = w1) (fun _ _ _ => 0)
    case atStart => exact ⟨rfl, rfl, rfl⟩
    case round =>
      obtain ⟨rfl, rfl, rfl⟩ := hrel
      have key : N = 0 ∨ 0 < N := by omega
      rcases key with rfl | hN
      all_goals
        go_wp2_with fail
        refine (pick_any R _ 10 _ hR1 (by omega) (by omega) (by omega)).mono ?_
        rintro e w2 ⟨x, rfl, x0, x1, hR2, hT2⟩
        have B2 := B1.trans hT2
        have o2 := o1.but hT2 hRl
        clear hT2
        by_cases hx : x = 0
        · have e0 : (x == 0) = true := by rw [hx]; rfl
          clear hx
          go_wp2_with fail
          refine (pick_any R _ 99 _ hR2 (by omega) (by omega) (by omega)).mono ?_
          rintro e w3 ⟨y, rfl, y0, y1, hR3, hT3⟩
          have B3 := B2.trans hT3
          have o3 := o2.but hT3 hRl
          have z3 := B3.size
          go_wp2_with (at_builtin; go_must (refine wpList_append_own _ rfl _ _ 36 rfl w.heap.size 3 i0 (.int .i64 0) 1 8 Try.underlying36 hi hz0 hz1 hz2 rfl (by decide) _ 0 [] rfl (World.ownsRow.alloc o3 _) ⟨w3.heap.size, 0, none⟩ 1 1 [.int .i64 (10 * y)] rfl rfl (cell_one_new _ _ _) (one_int _) (by unfold maxLen; omega) (by omega) (by simp; omega) ?_); intro v' wa hown hg _)
          obtain ⟨L, hoL, hlL, hRL, hBL⟩ := LSt.app (m := 0) o3 (by simp) hR3 B3 rfl hRl hown hg
          clear hown hg
          obtain ⟨AE, cE, rfl, _⟩ := hoL.form
          have hzE := (hBL).size
          have hrE := Own.row (hoL)
          go_wp2_with fail
          refine (l1Sorted_any _ AE cE L _ hrE (Nat.le_refl _) (by unfold maxLen; omega)).mono ?_
          rintro e ws ⟨vs, rfl, hos, hbs⟩
          have hBs := (hBL).trans (.of_below hbs)
          have hRs := (hRL).below hbs (hRL).lt
          have hos2 := hos.base hzE
          have hls := sortedTo_length L 991
          generalize sortedTo L 991 = S at *
          clear hbs hos hrE
          go_wp2_with fail
          refine (pick_any R _ 30 _ hRs (by omega) (by omega) (by omega)).mono ?_
          rintro e wt ⟨z, rfl, z0, z1, hRt, hTt⟩
          have hBt := hBs.trans hTt
          have hot := hos2.but hTt hRl
          clear hBs hRs hos2 hTt
          by_cases hz : z = 0
          · have e0 : (z == 0) = true := by rw [hz]; rfl
            clear hz
            go_wp2_with fail
            refine (l91Id_any R _ wt hRt (by omega)).mono ?_
            rintro e wu ⟨y, rfl, y0, y1, hRu, hTu⟩
            have hBu := hBt.trans hTu
            have hou := hot.but hTu hRl
            have zu := hBu.size
            go_wp2_with (at_builtin; go_must (refine wpList_append_own _ rfl _ _ 36 rfl w.heap.size 3 i0 (.int .i64 0) 1 8 Try.underlying36 hi hz0 hz1 hz2 rfl (by decide) _ _ _ rfl (World.ownsRow.alloc hou _) ⟨wu.heap.size, 0, none⟩ 1 1 [.int .i64 y] rfl rfl (cell_one_new _ _ _) (one_int _) (by unfold maxLen; omega) (by omega) (by simp; omega) ?_); intro v' wa hown hg _)
            obtain ⟨L2, hoL, hlL, hRL, hBL⟩ := LSt.app (m := 991) hou (by omega) hRu hBu rfl hRl hown hg
            clear hown hg
            obtain ⟨AF, cF, rfl, _⟩ := hoL.form
            go_wp2
            go_ret
            exact ⟨AF, cF, L2, rfl, hoL, by omega, hRL.more (by omega), hBL⟩
          · have e0 : (z == 0) = false := by rw [beq_eq_false_iff_ne]; exact hz
            clear hz
            obtain ⟨AF, cF, rfl, _⟩ := hot.form
            go_wp2
            go_ret
            exact ⟨AF, cF, S, rfl, hot, by omega, hRt.more (by omega), hBt⟩
        · have e0 : (x == 0) = false := by rw [beq_eq_false_iff_ne]; exact hx
          clear hx
          have hln : (([] : List Int).length : Int) ≤ 0 := by simp
          have hzE := (B2).size
          have hrE := Own.row (o2)
          go_wp2_with fail
          refine (l1Sorted_any _ (some ⟨w.heap.size, 0, none⟩) 0 ([] : List Int) _ hrE (Nat.le_refl _) (by unfold maxLen; omega)).mono ?_
          rintro e ws ⟨vs, rfl, hos, hbs⟩
          have hBs := (B2).trans (.of_below hbs)
          have hRs := (hR2).below hbs (hR2).lt
          have hos2 := hos.base hzE
          have hls := sortedTo_length ([] : List Int) 991
          generalize sortedTo ([] : List Int) 991 = S at *
          clear hbs hos hrE
          go_wp2_with fail
          refine (pick_any R _ 30 _ hRs (by omega) (by omega) (by omega)).mono ?_
          rintro e wt ⟨z, rfl, z0, z1, hRt, hTt⟩
          have hBt := hBs.trans hTt
          have hot := hos2.but hTt hRl
          clear hBs hRs hos2 hTt
          by_cases hz : z = 0
          · have e0 : (z == 0) = true := by rw [hz]; rfl
            clear hz
            go_wp2_with fail
            refine (l91Id_any R _ wt hRt (by omega)).mono ?_
            rintro e wu ⟨y, rfl, y0, y1, hRu, hTu⟩
            have hBu := hBt.trans hTu
            have hou := hot.but hTu hRl
            have zu := hBu.size
            go_wp2_with (at_builtin; go_must (refine wpList_append_own _ rfl _ _ 36 rfl w.heap.size 3 i0 (.int .i64 0) 1 8 Try.underlying36 hi hz0 hz1 hz2 rfl (by decide) _ _ _ rfl (World.ownsRow.alloc hou _) ⟨wu.heap.size, 0, none⟩ 1 1 [.int .i64 y] rfl rfl (cell_one_new _ _ _) (one_int _) (by unfold maxLen; omega) (by omega) (by simp; omega) ?_); intro v' wa hown hg _)
            obtain ⟨L2, hoL, hlL, hRL, hBL⟩ := LSt.app (m := 991) hou (by omega) hRu hBu rfl hRl hown hg
            clear hown hg
            obtain ⟨AF, cF, rfl, _⟩ := hoL.form
            go_wp2
            go_ret
            exact ⟨AF, cF, L2, rfl, hoL, by omega, hRL.more (by omega), hBL⟩
          · have e0 : (z == 0) = false := by rw [beq_eq_false_iff_ne]; exact hz
            clear hz
            obtain ⟨AF, cF, rfl, _⟩ := hot.form
            go_wp2
            go_ret
            exact ⟨AF, cF, S, rfl, hot, by omega, hRt.more (by omega), hBt⟩
  · have hpos : 0 < (os.length : Int) := by omega
    go_wp2_with fail
    go_loopw [5, 7] (fun v i wr => ∃ k : Nat, (k : Int) ≤ N ∧ i = .int .i64 k ∧ LSt R w.heap.size k (q + 1 + k) w v wr) (fun _ i _ => N.toNat - (intOf i).toNat)
    case atStart => exact ⟨0, by omega, rfl, [], o1, Nat.le_refl _, by simpa using hR1, B1⟩
    case round =>
      clear o1 B1 hR1
      obtain ⟨k, hk, rfl, L, ho, hL, hRk, hB⟩ := hrel
      obtain ⟨AL, cL, rfl, _⟩ := ho.form
      by_cases hlt : (k : Int) < N
      · go_wp2_with fail
        refine (pick_any R _ os.length _ hRk (by omega) (by omega) (by omega)).mono ?_
        rintro e w9 ⟨x, rfl, x0, x1, hR9, hT9⟩
        have hB9 := hB.trans hT9
        have ho9 := ho.but hT9 hRl
        obtain ⟨j, rfl⟩ : ∃ j : Nat, x = (j : Int) := ⟨x.toNat, by omega⟩
        have hj : j < os.length := by omega
        obtain ⟨o, ad, A', c', hoo, rfl, ha, g0, g1, g2, g3⟩ := ((hs.but hB9 (by omega)).objs).obj hj
        have hvo : vOb o = true := by rw [← hoo]; exact HV.out _ (List.getElem_mem hj)
        clear hoo ho hT9 hRk hB
        go_wp2_with fail
        refine (l1Of_val _ w9.heap.size A' c' o w9 g3 (Nat.le_refl _) hvo rfl).mono ?_
        rintro e w5 ⟨rfl, hb5⟩
        have hB5 := hB9.trans (.of_below hb5)
        have ho5 := ho9.below hb5 (Nat.le_refl _)
        have hR5 := hR9.below hb5 hR9.lt
        have z5 := hB5.size
        generalize iOb o = y at *
        clear g0 g1 g2 g3 hb5 ho9 hR9 hB9 hvo
        go_wp2_with (at_builtin; go_must (refine wpList_append_own _ rfl _ _ 36 rfl w.heap.size 3 i0 (.int .i64 0) 1 8 Try.underlying36 hi hz0 hz1 hz2 rfl (by decide) _ _ _ rfl (World.ownsRow.alloc ho5 _) ⟨w5.heap.size, 0, none⟩ 1 1 [.int .i64 y] rfl rfl (cell_one_new _ _ _) (one_int _) (by unfold maxLen; omega) (by omega) (by simp; omega) ?_); intro v' wa hown hg _)
        have l1 := LSt.app ho5 hL hR5 hB5 rfl hRl hown hg
        clear hown hg
        go_wp2
        go_roundw
        case rel => exact ⟨k + 1, by omega, by go_num, l1.more (by omega) (by omega)⟩
        case measure => simp [intOf]; omega
      · go_wp2_with fail
        refine (pick_any R _ 10 _ hRk (by omega) (by omega) (by omega)).mono ?_
        rintro e w2 ⟨x, rfl, x0, x1, hR2, hT2⟩
        have B2 := hB.trans hT2
        have o2 := ho.but hT2 hRl
        clear hT2 ho hB hRk
        by_cases hx : x = 0
        · have e0 : (x == 0) = true := by rw [hx]; rfl
          clear hx
          go_wp2_with fail
          refine (pick_any R _ 99 _ hR2 (by omega) (by omega) (by omega)).mono ?_
          rintro e w3 ⟨y, rfl, y0, y1, hR3, hT3⟩
          have B3 := B2.trans hT3
          have o3 := o2.but hT3 hRl
          have z3 := B3.size
          go_wp2_with (at_builtin; go_must (refine wpList_append_own _ rfl _ _ 36 rfl w.heap.size 3 i0 (.int .i64 0) 1 8 Try.underlying36 hi hz0 hz1 hz2 rfl (by decide) _ _ _ rfl (World.ownsRow.alloc o3 _) ⟨w3.heap.size, 0, none⟩ 1 1 [.int .i64 (10 * y)] rfl rfl (cell_one_new _ _ _) (one_int _) (by unfold maxLen; omega) (by omega) (by simp; omega) ?_); intro v' wa hown hg _)
          obtain ⟨L2, hoL, hlL, hRL, hBL⟩ := LSt.app (m := k) o3 hL hR3 B3 rfl hRl hown hg
          clear hown hg
          obtain ⟨AE, cE, rfl, _⟩ := hoL.form
          have hzE := (hBL).size
          have hrE := Own.row (hoL)
          go_wp2_with fail
          refine (l1Sorted_any _ AE cE L2 _ hrE (Nat.le_refl _) (by unfold maxLen; omega)).mono ?_
          rintro e ws ⟨vs, rfl, hos, hbs⟩
          have hBs := (hBL).trans (.of_below hbs)
          have hRs := (hRL).below hbs (hRL).lt
          have hos2 := hos.base hzE
          have hls := sortedTo_length L2 991
          generalize sortedTo L2 991 = S at *
          clear hbs hos hrE
          go_wp2_with fail
          refine (pick_any R _ 30 _ hRs (by omega) (by omega) (by omega)).mono ?_
          rintro e wt ⟨z, rfl, z0, z1, hRt, hTt⟩
          have hBt := hBs.trans hTt
          have hot := hos2.but hTt hRl
          clear hBs hRs hos2 hTt
          by_cases hz : z = 0
          · have e0 : (z == 0) = true := by rw [hz]; rfl
            clear hz
            go_wp2_with fail
            refine (l91Id_any R _ wt hRt (by omega)).mono ?_
            rintro e wu ⟨y, rfl, y0, y1, hRu, hTu⟩
            have hBu := hBt.trans hTu
            have hou := hot.but hTu hRl
            have zu := hBu.size
            go_wp2_with (at_builtin; go_must (refine wpList_append_own _ rfl _ _ 36 rfl w.heap.size 3 i0 (.int .i64 0) 1 8 Try.underlying36 hi hz0 hz1 hz2 rfl (by decide) _ _ _ rfl (World.ownsRow.alloc hou _) ⟨wu.heap.size, 0, none⟩ 1 1 [.int .i64 y] rfl rfl (cell_one_new _ _ _) (one_int _) (by unfold maxLen; omega) (by omega) (by simp; omega) ?_); intro v' wa hown hg _)
            obtain ⟨L2, hoL, hlL, hRL, hBL⟩ := LSt.app (m := 991) hou (by omega) hRu hBu rfl hRl hown hg
            clear hown hg
            obtain ⟨AF, cF, rfl, _⟩ := hoL.form
            go_wp2
            go_ret
            exact ⟨AF, cF, L2, rfl, hoL, by omega, hRL.more (by omega), hBL⟩
          · have e0 : (z == 0) = false := by rw [beq_eq_false_iff_ne]; exact hz
            clear hz
            obtain ⟨AF, cF, rfl, _⟩ := hot.form
            go_wp2
            go_ret
            exact ⟨AF, cF, S, rfl, hot, by omega, hRt.more (by omega), hBt⟩
        · have e0 : (x == 0) = false := by rw [beq_eq_false_iff_ne]; exact hx
          clear hx
          have hzE := (B2).size
          have hrE := Own.row (o2)
          go_wp2_with fail
          refine (l1Sorted_any _ AL cL L _ hrE (Nat.le_refl _) (by unfold maxLen; omega)).mono ?_
          rintro e ws ⟨vs, rfl, hos, hbs⟩
          have hBs := (B2).trans (.of_below hbs)
          have hRs := (hR2).below hbs (hR2).lt
          have hos2 := hos.base hzE
          have hls := sortedTo_length L 991
          generalize sortedTo L 991 = S at *
          clear hbs hos hrE
          go_wp2_with fail
          refine (pick_any R _ 30 _ hRs (by omega) (by omega) (by omega)).mono ?_
          rintro e wt ⟨z, rfl, z0, z1, hRt, hTt⟩
          have hBt := hBs.trans hTt
          have hot := hos2.but hTt hRl
          clear hBs hRs hos2 hTt
          by_cases hz : z = 0
          · have e0 : (z == 0) = true := by rw [hz]; rfl
            clear hz
            go_wp2_with fail
            refine (l91Id_any R _ wt hRt (by omega)).mono ?_
            rintro e wu ⟨y, rfl, y0, y1, hRu, hTu⟩
            have hBu := hBt.trans hTu
            have hou := hot.but hTu hRl
            have zu := hBu.size
            go_wp2_with (at_builtin; go_must (refine wpList_append_own _ rfl _ _ 36 rfl w.heap.size 3 i0 (.int .i64 0) 1 8 Try.underlying36 hi hz0 hz1 hz2 rfl (by decide) _ _ _ rfl (World.ownsRow.alloc hou _) ⟨wu.heap.size, 0, none⟩ 1 1 [.int .i64 y] rfl rfl (cell_one_new _ _ _) (one_int _) (by unfold maxLen; omega) (by omega) (by simp; omega) ?_); intro v' wa hown hg _)
            obtain ⟨L2, hoL, hlL, hRL, hBL⟩ := LSt.app (m := 991) hou (by omega) hRu hBu rfl hRl hown hg
            clear hown hg
            obtain ⟨AF, cF, rfl, _⟩ := hoL.form
            go_wp2
            go_ret
            exact ⟨AF, cF, L2, rfl, hoL, by omega, hRL.more (by omega), hBL⟩
          · have e0 : (z == 0) = false := by rw [beq_eq_false_iff_ne]; exact hz
            clear hz
            obtain ⟨AF, cF, rfl, _⟩ := hot.form
            go_wp2
            go_ret
            exact ⟨AF, cF, S, rfl, hot, by omega, hRt.more (by omega), hBt⟩
end Go.Proofs.Ytblknnifccmpkaa
