/-
  Walks: a list of objects in any order, as the draws make it.
-/
import Derived.Test.YtkekbobnbipmoaaDrawOb
import Derived.Test.YtkekbobnbipmoaaOwnObs
import Derived.Test.YtkekbobnbipmoaaKitD
namespace Go.Proofs.Ytkekbobnbipmoaa
open Go.RowKit Wo Pu

theorem own_three (w : World) (B : Nat) (hB : B ≤ w.heap.size) (a b c : Int) : Own (w.alloc (.cells #[.int .i64 a, .int .i64 b, .int .i64 c] 3)) B (.slice (some ⟨w.heap.size, 0, none⟩) [a, b, c].length 3) [a, b, c] :=
  ⟨rfl, .inr ⟨w.heap.size, 3, #[.int .i64 a, .int .i64 b, .int .i64 c], rfl, hB, heap_alloc_new w _, Nat.le_refl _, by decide, rfl, rfl⟩⟩
theorem OwnObs.form3 {w : World} {B : Nat} {v : Value} {os : List Ob} (h : OwnObs w B v os) : ∃ (A : Option Addr) (c : Nat), v = .slice A os.length c ∧ Objs w w.heap.size A os ∧ os.length ≤ c := by
  obtain ⟨A, c, rfl, ho⟩ := h.form
  obtain ⟨xs, ⟨_, h1⟩, _⟩ := h
  refine ⟨A, c, rfl, ho, ?_⟩
  rcases h1 with ⟨hv, h0⟩ | ⟨g, cap, cur, hv, _, _, hn, _⟩
  · omega
  · injection hv with _ _ hc
    omega
theorem OwnObs.objs3 {w : World} {B n c : Nat} {A : Option Addr} {os : List Ob} (h : OwnObs w B (.slice A n c) os) : Objs w w.heap.size A os := by
  obtain ⟨A2, c2, hv, ho⟩ := h.form
  injection hv with h1 h2 h3
  subst h1
  exact ho
theorem OwnObs.far_ {w : World} {B g : Nat} {v v0 v1 v2 : Value} {os : List Ob} (h : OwnObs w B v os) (hg : Blk w g 42 v0 v1 v2) (hne : v.ownBlock ≠ some g) (o : Nat) (u : Value) : OwnObs (w.setCell ⟨g, o, none⟩ u) B v os := by
  obtain ⟨xs, hr, hx⟩ := h
  refine ⟨xs, World.ownsRow.kept hr (but_set w g o u) (.inr hne), fun j hj => ?_⟩
  obtain ⟨A, c, q0, q1, q2, q3⟩ := hx j hj
  exact ⟨A, c, q0, q1, q2, q3.far hg o u⟩
/-- Objects that a draw may make. -/
def Mild (os : List Ob) : Prop := ∀ o ∈ os, o.zs.length ≤ 992 ∧ o.s.size ≤ 9
theorem Mild.snoc {os : List Ob} {o : Ob} (h : Mild os) (h1 : o.zs.length ≤ 992) (h2 : o.s.size ≤ 9) : Mild (os ++ [o]) := fun p hp => by
  rcases List.mem_append.1 hp with e | e
  · exact h p e
  · rw [List.mem_singleton.1 e]; exact ⟨h1, h2⟩
def ListDrawn (R : Nat) (q : Int) (w : World) (e : Ending) (w' : World) : Prop :=
  ∃ v os, e = .returned v ∧ OwnObs w' w.heap.size v os ∧ os.length ≤ 17 ∧ Mild os ∧ Rd w' R (q + 40000) ∧ But R w w'

theorem three_at (w : World) (g : Nat) (v0 v1 v2 : Value) (t : TypeId) (hg : g = w.heap.size) : ∀ j u, [v0, v1, v2][j]? = some u → (w.alloc (.cells #[v0, v1, v2] t)).cell? ((⟨g, 0, none⟩ : Addr).add j) = some u := by
  subst hg
  exact new_three w v0 v1 v2 t



set_option maxRecDepth 100000 in
set_option maxHeartbeats 4000000 in
theorem l91List_any (R : Nat) (q : Int) (w : World) (hR : Rd w R q) (hq : q ≤ 100000000) :
    Calls Try.prog 34 #[.pointer (some ⟨R, 0, none⟩)] w (ListDrawn R q w) := by
  obtain ⟨i0, hi, hz0, hz1, hz2⟩ := info_of info_ob
  have hRw := hR.lt
  go_enter Try.func34, Try.ntmps34
  have n0 := OwnObs.nil_new (w := w) (B := w.heap.size) (Nat.le_refl _)
  have a0 := (Below.refl w.heap.size w).alloc (Nat.le_refl _) (.cells #[] 42)
  obtain ⟨w0, hw0⟩ : ∃ w0, w.alloc (.cells #[] 42) = w0 := ⟨_, rfl⟩
  rw [hw0] at n0 a0
  have R0 := hR.below a0 hRw
  have T0 := But.of_below (R := R) a0
  have HW0 := hid hw0
  clear hw0 a0
  go_wp2_with fail
  rw [HW0.out]
  refine (pick_any R q 6 w0 R0 (by omega) (by omega) (by omega)).mono ?_
  rintro e w1 ⟨x1, rfl, x1a, x1b, R1, T1⟩
  have n1 := n0.but T1 hRw
  have T1' := T0.trans T1
  clear HW0 n0 T0 T1 R0
  go_wp2_with fail
  refine (pick_any R (q + 1) 20 w1 R1 (by omega) (by omega) (by omega)).mono ?_
  rintro e w2 ⟨x2, rfl, x2a, x2b, R2, T2⟩
  have n2 := n1.but T2 hRw
  have T2' := T1'.trans T2
  clear n1 T1' T2 R1
  by_cases hx2 : x2 = 0
  · subst hx2
    go_wp2_with fail
    refine (pick_any R (q + 2) 2 w2 (R2.more (by omega)) (by omega) (by omega) (by omega)).mono ?_
    rintro e w3 ⟨x3, rfl, x3a, x3b, R3, T3⟩
    have n3 := n2.but T3 hRw
    have T3' := T2'.trans T3
    clear n2 T2' T3 R2
    go_wp2_with fail
    go_loopw [3, 5] (fun v i wr => ∃ (k : Nat) (os : List Ob), (k : Int) ≤ (16 + x3) ∧ i = .int .i64 k ∧ OwnObs wr w.heap.size v os ∧ os.length ≤ k ∧ k ≤ os.length ∧ Hid (Mild os) ∧ Rd wr R (q + 3 + 2001 * k) ∧ But R w wr) (fun _ i _ => ((16 + x3)).toNat - (intOf i).toNat)
    case atStart => exact ⟨0, [], by omega, rfl, n3, Nat.le_refl _, Nat.le_refl _, fun o ho => (by cases ho), R3.more (by omega), T3'⟩
    case round =>
      obtain ⟨k, os, hk, rfl, hv, hl1, hl2, HMild, hRr, hT⟩ := hrel
      clear n3 R3 T3'
      obtain ⟨A3, c3, rfl, hob, hc3⟩ := hv.form3
      by_cases hlt : (k : Int) < (16 + x3)
      · have zr := hT.size
        have i3 := own_three wr (R + 1) (by omega) 5 60 700
        have a3 := (Below.refl wr.heap.size wr).alloc (Nat.le_refl _) (.cells #[.int .i64 5, .int .i64 60, .int .i64 700] 3)
        have R3 := hRr.below a3 hRr.lt
        have v3 := hv.below a3
        have T3 := hT.trans (But.of_below a3)
        clear hv hRr hT hob
        go_wp2_with fail
        refine (l91Object_any R (q + 3 + 2001 * k) (some ⟨wr.heap.size, 0, none⟩) 3 [5, 60, 700] _ R3 (by omega) i3 (by simp)).mono ?_
        rintro e w4 ⟨kd, A4, c4, zs, s, rfl, o4, z4, s4, R4, T4⟩
        have v4 := v3.but T4 hRw
        have T4' := T3.trans T4
        replace o4 := o4.base (B' := w.heap.size) T3.size
        clear v3 T3 T4 R3 i3 a3
        unfold ob
        have z4' := T4'.size
        obtain ⟨o, hoo⟩ : ∃ o : Ob, Hid (o = ⟨kd, zs, s⟩) := ⟨_, rfl⟩
        have q1 : kd = o.kd := by rw [hoo.out]
        have q2 : zs = o.zs := by rw [hoo.out]
        have q3 : s = o.s := by rw [hoo.out]
        subst q1 q2 q3
        clear hoo
        have a5 := (Below.refl w4.heap.size w4).alloc (Nat.le_refl _) (.cells #[.int .i64 o.kd, .slice A4 o.zs.length c4, .string o.s] 42)
        have u5 := Blk.new_ w4 42 (.int .i64 o.kd) (.slice A4 o.zs.length c4) (.string o.s)
        have hvne : (Value.slice A3 os.length c3).ownBlock ≠ some w4.heap.size := fun e => by
          obtain ⟨xs, hr, _⟩ := v4
          have := (World.ownsRow.lt hr _ e).2
          omega
        have v5 := v4.below a5
        have o5 := o4.below a5 (Nat.le_refl _)
        have R5 := R4.below a5 R4.lt
        have T5 := T4'.trans (But.of_below a5)
        clear v4 o4 R4 T4' a5
        have zb : R ≠ w4.heap.size := by omega
        by_cases hk0 : k = 0
        · have hle : ¬ (0 : Int) < (k : Int) := by omega
          clear hk0
          have hvW := v5
          have uW := u5
          have oW := o5
          have RW := R5
          have TW := T5
          clear v5 u5 o5 R5 T5
          obtain ⟨ys, hyrow, hyos⟩ := hvW
          have zW := TW.size
          obtain ⟨y0, y1, y2, -⟩ := id uW.reads
          go_wp2_with (at_builtin; go_must (refine wpList_append_own _ rfl _ _ 23 rfl w.heap.size 42 i0 (.agg #[.int .i64 0, .slice none 0 0, .string ⟨#[]⟩]) 3 48 Try.underlying23 hi hz0 hz1 hz2 rfl (by decide) _ os.length ys rfl (World.ownsRow.alloc hyrow _) ⟨(w4.heap.size + 1), 0, none⟩ 1 1 [.int .i64 (o).kd, .slice A4 (o).zs.length c4, .string (o).s] rfl rfl (three_at _ _ _ _ _ _ (by simp)) (obj_cells (o) A4 c4) (by unfold maxLen; omega) (by omega) (by simp; omega) ?_); intro v' w9 hown hg _)
          have hlt' := World.ownsRow.lt hyrow
          have hv9 : OwnObs w9 w.heap.size v' (os ++ [o]) := OwnObs.app hyos hyrow.1 oW hyrow hown hg
          have al9 := (Below.refl (w4.alloc (.cells #[.int .i64 o.kd, .slice A4 o.zs.length c4, .string o.s] 42)).heap.size (w4.alloc (.cells #[.int .i64 o.kd, .slice A4 o.zs.length c4, .string o.s] 42))).alloc (Nat.le_refl _) (.cells #[.int .i64 (o).kd, .slice A4 (o).zs.length c4, .string (o).s] 42)
          have T9 : But R w w9 := World.grownBy.andThen (TW.trans (.of_below al9)) hg (fun j hj => .inl (hlt' j hj).1)
          have R9 : Rd w9 R (q + 3 + 2001 * k + 2000) := RW.below (((Below.refl w.heap.size _).alloc zW (.cells #[.int .i64 (o).kd, .slice A4 (o).zs.length c4, .string (o).s] 42)).grown hg (by simp; omega) (fun j hj => (hlt' j hj).1)) hRw
          clear hown hg hyrow hyos hlt' al9 y0 y1 y2
          go_roundw
          case rel => exact ⟨k + 1, os ++ [o], by omega, by go_num, hv9, by rw [List.length_append, List.length_singleton]; omega, by rw [List.length_append, List.length_singleton]; omega, HMild.out.snoc (by first | assumption | omega | (show (0 : Nat) ≤ 992; omega)) (by first | assumption | omega), R9.more (by omega), T9⟩
          case measure => simp [intOf]; omega
        · have hgt : (0 : Int) < (k : Int) := by omega
          obtain ⟨y0, y1, y2, -⟩ := id u5.reads
          go_wp2_with fail
          refine (pick_any R (q + 3 + 2001 * k + 2000) 2 _ R5 (by omega) (by omega) (by omega)).mono ?_
          rintro e w6 ⟨x6, rfl, x6a, x6b, R6, T6⟩
          have hvW := v5.but T6 hRw
          have uW := u5.but T6 (Ne.symm zb)
          have oW := o5.but T6 hRw
          have RW := R6
          have TW := T5.trans T6
          clear v5 u5 o5 R5 T5 R6 T6 y0 y1 y2
          by_cases hx6 : x6 = 0
          · subst hx6
            obtain ⟨j, hj⟩ : ∃ j : Nat, k = j + 1 := ⟨k - 1, by omega⟩
            have hjl : j < os.length := by omega
            have al6 := (Below.refl w6.heap.size w6).alloc (Nat.le_refl _) (.cells #[] 3)
            obtain ⟨o2, ad, A2, c2, hoo, hA3, ha, g0, g1, g2, g3⟩ := ((hvW.objs3.below al6 (Nat.le_refl _)).more al6.size).obj hjl
            have hs2 : o2.s.size ≤ 9 := by rw [← hoo]; exact (HMild.out _ (List.getElem_mem hjl)).2
            subst hA3
            have kj : (k : Int) - 1 = (j : Int) := by omega
            have j0 : (0 : Int) ≤ (j : Int) := by omega
            have j1 : (j : Int) < (os.length : Int) := by omega
            have oN : Own (w6.alloc (.cells #[] 3)) w.heap.size (.slice (some ⟨w6.heap.size, 0, none⟩) 0 0) [] := .nil_new TW.size
            replace hvW := hvW.below al6
            replace uW := uW.below al6 uW.lt
            replace RW := RW.below al6 RW.lt
            replace TW := TW.trans (But.of_below al6)
            obtain ⟨y0, y1, y2, yf⟩ := id uW.reads
            have yf0 := yf 0
            have yf1 := yf 1
            have yf2 := yf 2
            clear yf hoo hj hgt oW
            by_cases h8 : o2.s.size < 8
            · go_upto_region 13 with (fail)
              clear y0 y1 y2 yf0 yf1 yf2 g0 g1 g2 g3 kj al6
              replace hvW := ((hvW.far_ uW hvne 0 (.int .i64 1)).far_ (uW.set0 _) hvne 1 (.slice (some ⟨w6.heap.size, 0, none⟩) 0 0)).far_ ((uW.set0 _).set1 _) hvne 2 (.string o2.s)
              have oW := ((oN.far uW 0 (.int .i64 1)).far (uW.set0 _) 1 (.slice (some ⟨w6.heap.size, 0, none⟩) 0 0)).far ((uW.set0 _).set1 _) 2 (.string o2.s)
              have hRb : R < w4.heap.size := by omega
              replace RW := ((RW.far hRb 0 (.int .i64 1)).far hRb 1 (.slice (some ⟨w6.heap.size, 0, none⟩) 0 0)).far hRb 2 (.string o2.s)
              replace TW := ((TW.set_new z4' 0 (.int .i64 1)).set_new z4' 1 (.slice (some ⟨w6.heap.size, 0, none⟩) 0 0)).set_new z4' 2 (.string o2.s)
              replace uW := ((uW.set0 (.int .i64 1)).set1 (.slice (some ⟨w6.heap.size, 0, none⟩) 0 0)).set2 (.string o2.s)
              replace hvW := hvW.far_ uW hvne 2 (.string (o2.s ++ ⟨#[99]⟩))
              replace oW := oW.far uW 2 (.string (o2.s ++ ⟨#[99]⟩))
              replace RW := RW.far hRb 2 (.string (o2.s ++ ⟨#[99]⟩))
              replace TW := TW.set_new z4' 2 (.string (o2.s ++ ⟨#[99]⟩))
              replace uW := uW.set2 (.string (o2.s ++ ⟨#[99]⟩))
              clear oN
              have hsz : (o2.s ++ (⟨#[99]⟩ : ByteArray)).size ≤ 9 := by rw [ByteArray.size_append]; show o2.s.size + 1 ≤ 9; omega
              generalize ((((w6.alloc (.cells #[] 3)).setCell ⟨w4.heap.size, 0, none⟩ (.int .i64 1)).setCell ⟨w4.heap.size, 1, none⟩ (.slice (some ⟨w6.heap.size, 0, none⟩) 0 0)).setCell ⟨w4.heap.size, 2, none⟩ (.string o2.s)).setCell ⟨w4.heap.size, 2, none⟩ (.string (o2.s ++ ⟨#[99]⟩)) = W at *
              obtain ⟨ys, hyrow, hyos⟩ := hvW
              have zW := TW.size
              obtain ⟨y0, y1, y2, -⟩ := id uW.reads
              go_wp2_with (at_builtin; go_must (refine wpList_append_own _ rfl _ _ 23 rfl w.heap.size 42 i0 (.agg #[.int .i64 0, .slice none 0 0, .string ⟨#[]⟩]) 3 48 Try.underlying23 hi hz0 hz1 hz2 rfl (by decide) _ os.length ys rfl (World.ownsRow.alloc hyrow _) ⟨W.heap.size, 0, none⟩ 1 1 [.int .i64 ((⟨1, [], o2.s ++ ⟨#[99]⟩⟩ : Ob)).kd, .slice (some ⟨w6.heap.size, 0, none⟩) ((⟨1, [], o2.s ++ ⟨#[99]⟩⟩ : Ob)).zs.length 0, .string ((⟨1, [], o2.s ++ ⟨#[99]⟩⟩ : Ob)).s] rfl rfl (three_at _ _ _ _ _ _ (by simp)) (obj_cells ((⟨1, [], o2.s ++ ⟨#[99]⟩⟩ : Ob)) (some ⟨w6.heap.size, 0, none⟩) 0) (by unfold maxLen; omega) (by omega) (by simp; omega) ?_); intro v' w9 hown hg _)
              have hlt' := World.ownsRow.lt hyrow
              have hv9 : OwnObs w9 w.heap.size v' (os ++ [(⟨1, [], o2.s ++ ⟨#[99]⟩⟩ : Ob)]) := OwnObs.app hyos hyrow.1 oW hyrow hown hg
              have al9 := (Below.refl (W).heap.size (W)).alloc (Nat.le_refl _) (.cells #[.int .i64 ((⟨1, [], o2.s ++ ⟨#[99]⟩⟩ : Ob)).kd, .slice (some ⟨w6.heap.size, 0, none⟩) ((⟨1, [], o2.s ++ ⟨#[99]⟩⟩ : Ob)).zs.length 0, .string ((⟨1, [], o2.s ++ ⟨#[99]⟩⟩ : Ob)).s] 42)
              have T9 : But R w w9 := World.grownBy.andThen (TW.trans (.of_below al9)) hg (fun j hj => .inl (hlt' j hj).1)
              have R9 : Rd w9 R (q + 3 + 2001 * k + 2000 + 1) := RW.below (((Below.refl w.heap.size _).alloc zW (.cells #[.int .i64 ((⟨1, [], o2.s ++ ⟨#[99]⟩⟩ : Ob)).kd, .slice (some ⟨w6.heap.size, 0, none⟩) ((⟨1, [], o2.s ++ ⟨#[99]⟩⟩ : Ob)).zs.length 0, .string ((⟨1, [], o2.s ++ ⟨#[99]⟩⟩ : Ob)).s] 42)).grown hg (by simp; omega) (fun j hj => (hlt' j hj).1)) hRw
              clear hown hg hyrow hyos hlt' al9 y0 y1 y2
              go_roundw
              case rel => exact ⟨k + 1, os ++ [(⟨1, [], o2.s ++ ⟨#[99]⟩⟩ : Ob)], by omega, by go_num, hv9, by rw [List.length_append, List.length_singleton]; omega, by rw [List.length_append, List.length_singleton]; omega, HMild.out.snoc (by first | assumption | omega | (show (0 : Nat) ≤ 992; omega)) (by first | assumption | omega), R9.more (by omega), T9⟩
              case measure => simp [intOf]; omega
            · go_upto_region 13 with (fail)
              clear y0 y1 y2 yf0 yf1 yf2 g0 g1 g2 g3 kj al6
              replace hvW := ((hvW.far_ uW hvne 0 (.int .i64 1)).far_ (uW.set0 _) hvne 1 (.slice (some ⟨w6.heap.size, 0, none⟩) 0 0)).far_ ((uW.set0 _).set1 _) hvne 2 (.string o2.s)
              have oW := ((oN.far uW 0 (.int .i64 1)).far (uW.set0 _) 1 (.slice (some ⟨w6.heap.size, 0, none⟩) 0 0)).far ((uW.set0 _).set1 _) 2 (.string o2.s)
              have hRb : R < w4.heap.size := by omega
              replace RW := ((RW.far hRb 0 (.int .i64 1)).far hRb 1 (.slice (some ⟨w6.heap.size, 0, none⟩) 0 0)).far hRb 2 (.string o2.s)
              replace TW := ((TW.set_new z4' 0 (.int .i64 1)).set_new z4' 1 (.slice (some ⟨w6.heap.size, 0, none⟩) 0 0)).set_new z4' 2 (.string o2.s)
              replace uW := ((uW.set0 (.int .i64 1)).set1 (.slice (some ⟨w6.heap.size, 0, none⟩) 0 0)).set2 (.string o2.s)
              clear oN
              generalize (((w6.alloc (.cells #[] 3)).setCell ⟨w4.heap.size, 0, none⟩ (.int .i64 1)).setCell ⟨w4.heap.size, 1, none⟩ (.slice (some ⟨w6.heap.size, 0, none⟩) 0 0)).setCell ⟨w4.heap.size, 2, none⟩ (.string o2.s) = W at *
              obtain ⟨ys, hyrow, hyos⟩ := hvW
              have zW := TW.size
              obtain ⟨y0, y1, y2, -⟩ := id uW.reads
              go_wp2_with (at_builtin; go_must (refine wpList_append_own _ rfl _ _ 23 rfl w.heap.size 42 i0 (.agg #[.int .i64 0, .slice none 0 0, .string ⟨#[]⟩]) 3 48 Try.underlying23 hi hz0 hz1 hz2 rfl (by decide) _ os.length ys rfl (World.ownsRow.alloc hyrow _) ⟨W.heap.size, 0, none⟩ 1 1 [.int .i64 ((⟨1, [], o2.s⟩ : Ob)).kd, .slice (some ⟨w6.heap.size, 0, none⟩) ((⟨1, [], o2.s⟩ : Ob)).zs.length 0, .string ((⟨1, [], o2.s⟩ : Ob)).s] rfl rfl (three_at _ _ _ _ _ _ (by simp)) (obj_cells ((⟨1, [], o2.s⟩ : Ob)) (some ⟨w6.heap.size, 0, none⟩) 0) (by unfold maxLen; omega) (by omega) (by simp; omega) ?_); intro v' w9 hown hg _)
              have hlt' := World.ownsRow.lt hyrow
              have hv9 : OwnObs w9 w.heap.size v' (os ++ [(⟨1, [], o2.s⟩ : Ob)]) := OwnObs.app hyos hyrow.1 oW hyrow hown hg
              have al9 := (Below.refl (W).heap.size (W)).alloc (Nat.le_refl _) (.cells #[.int .i64 ((⟨1, [], o2.s⟩ : Ob)).kd, .slice (some ⟨w6.heap.size, 0, none⟩) ((⟨1, [], o2.s⟩ : Ob)).zs.length 0, .string ((⟨1, [], o2.s⟩ : Ob)).s] 42)
              have T9 : But R w w9 := World.grownBy.andThen (TW.trans (.of_below al9)) hg (fun j hj => .inl (hlt' j hj).1)
              have R9 : Rd w9 R (q + 3 + 2001 * k + 2000 + 1) := RW.below (((Below.refl w.heap.size _).alloc zW (.cells #[.int .i64 ((⟨1, [], o2.s⟩ : Ob)).kd, .slice (some ⟨w6.heap.size, 0, none⟩) ((⟨1, [], o2.s⟩ : Ob)).zs.length 0, .string ((⟨1, [], o2.s⟩ : Ob)).s] 42)).grown hg (by simp; omega) (fun j hj => (hlt' j hj).1)) hRw
              clear hown hg hyrow hyos hlt' al9 y0 y1 y2
              go_roundw
              case rel => exact ⟨k + 1, os ++ [(⟨1, [], o2.s⟩ : Ob)], by omega, by go_num, hv9, by rw [List.length_append, List.length_singleton]; omega, by rw [List.length_append, List.length_singleton]; omega, HMild.out.snoc (by first | assumption | omega | (show (0 : Nat) ≤ 992; omega)) (by first | assumption | omega), R9.more (by omega), T9⟩
              case measure => simp [intOf]; omega
          · have e6 : (x6 == 0) = false := by rw [beq_eq_false_iff_ne]; exact hx6
            clear hx6
            obtain ⟨ys, hyrow, hyos⟩ := hvW
            have zW := TW.size
            obtain ⟨y0, y1, y2, -⟩ := id uW.reads
            go_wp2_with (at_builtin; go_must (refine wpList_append_own _ rfl _ _ 23 rfl w.heap.size 42 i0 (.agg #[.int .i64 0, .slice none 0 0, .string ⟨#[]⟩]) 3 48 Try.underlying23 hi hz0 hz1 hz2 rfl (by decide) _ os.length ys rfl (World.ownsRow.alloc hyrow _) ⟨w6.heap.size, 0, none⟩ 1 1 [.int .i64 (o).kd, .slice A4 (o).zs.length c4, .string (o).s] rfl rfl (three_at _ _ _ _ _ _ (by simp)) (obj_cells (o) A4 c4) (by unfold maxLen; omega) (by omega) (by simp; omega) ?_); intro v' w9 hown hg _)
            have hlt' := World.ownsRow.lt hyrow
            have hv9 : OwnObs w9 w.heap.size v' (os ++ [o]) := OwnObs.app hyos hyrow.1 oW hyrow hown hg
            have al9 := (Below.refl (w6).heap.size (w6)).alloc (Nat.le_refl _) (.cells #[.int .i64 (o).kd, .slice A4 (o).zs.length c4, .string (o).s] 42)
            have T9 : But R w w9 := World.grownBy.andThen (TW.trans (.of_below al9)) hg (fun j hj => .inl (hlt' j hj).1)
            have R9 : Rd w9 R (q + 3 + 2001 * k + 2000 + 1) := RW.below (((Below.refl w.heap.size _).alloc zW (.cells #[.int .i64 (o).kd, .slice A4 (o).zs.length c4, .string (o).s] 42)).grown hg (by simp; omega) (fun j hj => (hlt' j hj).1)) hRw
            clear hown hg hyrow hyos hlt' al9 y0 y1 y2
            go_roundw
            case rel => exact ⟨k + 1, os ++ [o], by omega, by go_num, hv9, by rw [List.length_append, List.length_singleton]; omega, by rw [List.length_append, List.length_singleton]; omega, HMild.out.snoc (by first | assumption | omega | (show (0 : Nat) ≤ 992; omega)) (by first | assumption | omega), R9.more (by omega), T9⟩
            case measure => simp [intOf]; omega
      · go_wp2
        go_ret
        exact ⟨_, os, rfl, hv, by omega, HMild.out, hRr.more (by omega), hT⟩
  · have e2 : (x2 == 0) = false := by rw [beq_eq_false_iff_ne]; exact hx2
    clear hx2
    go_wp2_with fail
    go_loopw [3, 5] (fun v i wr => ∃ (k : Nat) (os : List Ob), (k : Int) ≤ x1 ∧ i = .int .i64 k ∧ OwnObs wr w.heap.size v os ∧ os.length ≤ k ∧ k ≤ os.length ∧ Hid (Mild os) ∧ Rd wr R (q + 3 + 2001 * k) ∧ But R w wr) (fun _ i _ => (x1).toNat - (intOf i).toNat)
    case atStart => exact ⟨0, [], by omega, rfl, n2, Nat.le_refl _, Nat.le_refl _, fun o ho => (by cases ho), R2.more (by omega), T2'⟩
    case round =>
      obtain ⟨k, os, hk, rfl, hv, hl1, hl2, HMild, hRr, hT⟩ := hrel
      clear n2 R2 T2'
      obtain ⟨A3, c3, rfl, hob, hc3⟩ := hv.form3
      by_cases hlt : (k : Int) < x1
      · have zr := hT.size
        have i3 := own_three wr (R + 1) (by omega) 5 60 700
        have a3 := (Below.refl wr.heap.size wr).alloc (Nat.le_refl _) (.cells #[.int .i64 5, .int .i64 60, .int .i64 700] 3)
        have R3 := hRr.below a3 hRr.lt
        have v3 := hv.below a3
        have T3 := hT.trans (But.of_below a3)
        clear hv hRr hT hob
        go_wp2_with fail
        refine (l91Object_any R (q + 3 + 2001 * k) (some ⟨wr.heap.size, 0, none⟩) 3 [5, 60, 700] _ R3 (by omega) i3 (by simp)).mono ?_
        rintro e w4 ⟨kd, A4, c4, zs, s, rfl, o4, z4, s4, R4, T4⟩
        have v4 := v3.but T4 hRw
        have T4' := T3.trans T4
        replace o4 := o4.base (B' := w.heap.size) T3.size
        clear v3 T3 T4 R3 i3 a3
        unfold ob
        have z4' := T4'.size
        obtain ⟨o, hoo⟩ : ∃ o : Ob, Hid (o = ⟨kd, zs, s⟩) := ⟨_, rfl⟩
        have q1 : kd = o.kd := by rw [hoo.out]
        have q2 : zs = o.zs := by rw [hoo.out]
        have q3 : s = o.s := by rw [hoo.out]
        subst q1 q2 q3
        clear hoo
        have a5 := (Below.refl w4.heap.size w4).alloc (Nat.le_refl _) (.cells #[.int .i64 o.kd, .slice A4 o.zs.length c4, .string o.s] 42)
        have u5 := Blk.new_ w4 42 (.int .i64 o.kd) (.slice A4 o.zs.length c4) (.string o.s)
        have hvne : (Value.slice A3 os.length c3).ownBlock ≠ some w4.heap.size := fun e => by
          obtain ⟨xs, hr, _⟩ := v4
          have := (World.ownsRow.lt hr _ e).2
          omega
        have v5 := v4.below a5
        have o5 := o4.below a5 (Nat.le_refl _)
        have R5 := R4.below a5 R4.lt
        have T5 := T4'.trans (But.of_below a5)
        clear v4 o4 R4 T4' a5
        have zb : R ≠ w4.heap.size := by omega
        by_cases hk0 : k = 0
        · have hle : ¬ (0 : Int) < (k : Int) := by omega
          clear hk0
          have hvW := v5
          have uW := u5
          have oW := o5
          have RW := R5
          have TW := T5
          clear v5 u5 o5 R5 T5
          obtain ⟨ys, hyrow, hyos⟩ := hvW
          have zW := TW.size
          obtain ⟨y0, y1, y2, -⟩ := id uW.reads
          go_wp2_with (at_builtin; go_must (refine wpList_append_own _ rfl _ _ 23 rfl w.heap.size 42 i0 (.agg #[.int .i64 0, .slice none 0 0, .string ⟨#[]⟩]) 3 48 Try.underlying23 hi hz0 hz1 hz2 rfl (by decide) _ os.length ys rfl (World.ownsRow.alloc hyrow _) ⟨(w4.heap.size + 1), 0, none⟩ 1 1 [.int .i64 (o).kd, .slice A4 (o).zs.length c4, .string (o).s] rfl rfl (three_at _ _ _ _ _ _ (by simp)) (obj_cells (o) A4 c4) (by unfold maxLen; omega) (by omega) (by simp; omega) ?_); intro v' w9 hown hg _)
          have hlt' := World.ownsRow.lt hyrow
          have hv9 : OwnObs w9 w.heap.size v' (os ++ [o]) := OwnObs.app hyos hyrow.1 oW hyrow hown hg
          have al9 := (Below.refl (w4.alloc (.cells #[.int .i64 o.kd, .slice A4 o.zs.length c4, .string o.s] 42)).heap.size (w4.alloc (.cells #[.int .i64 o.kd, .slice A4 o.zs.length c4, .string o.s] 42))).alloc (Nat.le_refl _) (.cells #[.int .i64 (o).kd, .slice A4 (o).zs.length c4, .string (o).s] 42)
          have T9 : But R w w9 := World.grownBy.andThen (TW.trans (.of_below al9)) hg (fun j hj => .inl (hlt' j hj).1)
          have R9 : Rd w9 R (q + 3 + 2001 * k + 2000) := RW.below (((Below.refl w.heap.size _).alloc zW (.cells #[.int .i64 (o).kd, .slice A4 (o).zs.length c4, .string (o).s] 42)).grown hg (by simp; omega) (fun j hj => (hlt' j hj).1)) hRw
          clear hown hg hyrow hyos hlt' al9 y0 y1 y2
          go_roundw
          case rel => exact ⟨k + 1, os ++ [o], by omega, by go_num, hv9, by rw [List.length_append, List.length_singleton]; omega, by rw [List.length_append, List.length_singleton]; omega, HMild.out.snoc (by first | assumption | omega | (show (0 : Nat) ≤ 992; omega)) (by first | assumption | omega), R9.more (by omega), T9⟩
          case measure => simp [intOf]; omega
        · have hgt : (0 : Int) < (k : Int) := by omega
          obtain ⟨y0, y1, y2, -⟩ := id u5.reads
          go_wp2_with fail
          refine (pick_any R (q + 3 + 2001 * k + 2000) 2 _ R5 (by omega) (by omega) (by omega)).mono ?_
          rintro e w6 ⟨x6, rfl, x6a, x6b, R6, T6⟩
          have hvW := v5.but T6 hRw
          have uW := u5.but T6 (Ne.symm zb)
          have oW := o5.but T6 hRw
          have RW := R6
          have TW := T5.trans T6
          clear v5 u5 o5 R5 T5 R6 T6 y0 y1 y2
          by_cases hx6 : x6 = 0
          · subst hx6
            obtain ⟨j, hj⟩ : ∃ j : Nat, k = j + 1 := ⟨k - 1, by omega⟩
            have hjl : j < os.length := by omega
            have al6 := (Below.refl w6.heap.size w6).alloc (Nat.le_refl _) (.cells #[] 3)
            obtain ⟨o2, ad, A2, c2, hoo, hA3, ha, g0, g1, g2, g3⟩ := ((hvW.objs3.below al6 (Nat.le_refl _)).more al6.size).obj hjl
            have hs2 : o2.s.size ≤ 9 := by rw [← hoo]; exact (HMild.out _ (List.getElem_mem hjl)).2
            subst hA3
            have kj : (k : Int) - 1 = (j : Int) := by omega
            have j0 : (0 : Int) ≤ (j : Int) := by omega
            have j1 : (j : Int) < (os.length : Int) := by omega
            have oN : Own (w6.alloc (.cells #[] 3)) w.heap.size (.slice (some ⟨w6.heap.size, 0, none⟩) 0 0) [] := .nil_new TW.size
            replace hvW := hvW.below al6
            replace uW := uW.below al6 uW.lt
            replace RW := RW.below al6 RW.lt
            replace TW := TW.trans (But.of_below al6)
            obtain ⟨y0, y1, y2, yf⟩ := id uW.reads
            have yf0 := yf 0
            have yf1 := yf 1
            have yf2 := yf 2
            clear yf hoo hj hgt oW
            by_cases h8 : o2.s.size < 8
            · go_upto_region 13 with (fail)
              clear y0 y1 y2 yf0 yf1 yf2 g0 g1 g2 g3 kj al6
              replace hvW := ((hvW.far_ uW hvne 0 (.int .i64 1)).far_ (uW.set0 _) hvne 1 (.slice (some ⟨w6.heap.size, 0, none⟩) 0 0)).far_ ((uW.set0 _).set1 _) hvne 2 (.string o2.s)
              have oW := ((oN.far uW 0 (.int .i64 1)).far (uW.set0 _) 1 (.slice (some ⟨w6.heap.size, 0, none⟩) 0 0)).far ((uW.set0 _).set1 _) 2 (.string o2.s)
              have hRb : R < w4.heap.size := by omega
              replace RW := ((RW.far hRb 0 (.int .i64 1)).far hRb 1 (.slice (some ⟨w6.heap.size, 0, none⟩) 0 0)).far hRb 2 (.string o2.s)
              replace TW := ((TW.set_new z4' 0 (.int .i64 1)).set_new z4' 1 (.slice (some ⟨w6.heap.size, 0, none⟩) 0 0)).set_new z4' 2 (.string o2.s)
              replace uW := ((uW.set0 (.int .i64 1)).set1 (.slice (some ⟨w6.heap.size, 0, none⟩) 0 0)).set2 (.string o2.s)
              replace hvW := hvW.far_ uW hvne 2 (.string (o2.s ++ ⟨#[99]⟩))
              replace oW := oW.far uW 2 (.string (o2.s ++ ⟨#[99]⟩))
              replace RW := RW.far hRb 2 (.string (o2.s ++ ⟨#[99]⟩))
              replace TW := TW.set_new z4' 2 (.string (o2.s ++ ⟨#[99]⟩))
              replace uW := uW.set2 (.string (o2.s ++ ⟨#[99]⟩))
              clear oN
              have hsz : (o2.s ++ (⟨#[99]⟩ : ByteArray)).size ≤ 9 := by rw [ByteArray.size_append]; show o2.s.size + 1 ≤ 9; omega
              generalize ((((w6.alloc (.cells #[] 3)).setCell ⟨w4.heap.size, 0, none⟩ (.int .i64 1)).setCell ⟨w4.heap.size, 1, none⟩ (.slice (some ⟨w6.heap.size, 0, none⟩) 0 0)).setCell ⟨w4.heap.size, 2, none⟩ (.string o2.s)).setCell ⟨w4.heap.size, 2, none⟩ (.string (o2.s ++ ⟨#[99]⟩)) = W at *
              obtain ⟨ys, hyrow, hyos⟩ := hvW
              have zW := TW.size
              obtain ⟨y0, y1, y2, -⟩ := id uW.reads
              go_wp2_with (at_builtin; go_must (refine wpList_append_own _ rfl _ _ 23 rfl w.heap.size 42 i0 (.agg #[.int .i64 0, .slice none 0 0, .string ⟨#[]⟩]) 3 48 Try.underlying23 hi hz0 hz1 hz2 rfl (by decide) _ os.length ys rfl (World.ownsRow.alloc hyrow _) ⟨W.heap.size, 0, none⟩ 1 1 [.int .i64 ((⟨1, [], o2.s ++ ⟨#[99]⟩⟩ : Ob)).kd, .slice (some ⟨w6.heap.size, 0, none⟩) ((⟨1, [], o2.s ++ ⟨#[99]⟩⟩ : Ob)).zs.length 0, .string ((⟨1, [], o2.s ++ ⟨#[99]⟩⟩ : Ob)).s] rfl rfl (three_at _ _ _ _ _ _ (by simp)) (obj_cells ((⟨1, [], o2.s ++ ⟨#[99]⟩⟩ : Ob)) (some ⟨w6.heap.size, 0, none⟩) 0) (by unfold maxLen; omega) (by omega) (by simp; omega) ?_); intro v' w9 hown hg _)
              have hlt' := World.ownsRow.lt hyrow
              have hv9 : OwnObs w9 w.heap.size v' (os ++ [(⟨1, [], o2.s ++ ⟨#[99]⟩⟩ : Ob)]) := OwnObs.app hyos hyrow.1 oW hyrow hown hg
              have al9 := (Below.refl (W).heap.size (W)).alloc (Nat.le_refl _) (.cells #[.int .i64 ((⟨1, [], o2.s ++ ⟨#[99]⟩⟩ : Ob)).kd, .slice (some ⟨w6.heap.size, 0, none⟩) ((⟨1, [], o2.s ++ ⟨#[99]⟩⟩ : Ob)).zs.length 0, .string ((⟨1, [], o2.s ++ ⟨#[99]⟩⟩ : Ob)).s] 42)
              have T9 : But R w w9 := World.grownBy.andThen (TW.trans (.of_below al9)) hg (fun j hj => .inl (hlt' j hj).1)
              have R9 : Rd w9 R (q + 3 + 2001 * k + 2000 + 1) := RW.below (((Below.refl w.heap.size _).alloc zW (.cells #[.int .i64 ((⟨1, [], o2.s ++ ⟨#[99]⟩⟩ : Ob)).kd, .slice (some ⟨w6.heap.size, 0, none⟩) ((⟨1, [], o2.s ++ ⟨#[99]⟩⟩ : Ob)).zs.length 0, .string ((⟨1, [], o2.s ++ ⟨#[99]⟩⟩ : Ob)).s] 42)).grown hg (by simp; omega) (fun j hj => (hlt' j hj).1)) hRw
              clear hown hg hyrow hyos hlt' al9 y0 y1 y2
              go_roundw
              case rel => exact ⟨k + 1, os ++ [(⟨1, [], o2.s ++ ⟨#[99]⟩⟩ : Ob)], by omega, by go_num, hv9, by rw [List.length_append, List.length_singleton]; omega, by rw [List.length_append, List.length_singleton]; omega, HMild.out.snoc (by first | assumption | omega | (show (0 : Nat) ≤ 992; omega)) (by first | assumption | omega), R9.more (by omega), T9⟩
              case measure => simp [intOf]; omega
            · go_upto_region 13 with (fail)
              clear y0 y1 y2 yf0 yf1 yf2 g0 g1 g2 g3 kj al6
              replace hvW := ((hvW.far_ uW hvne 0 (.int .i64 1)).far_ (uW.set0 _) hvne 1 (.slice (some ⟨w6.heap.size, 0, none⟩) 0 0)).far_ ((uW.set0 _).set1 _) hvne 2 (.string o2.s)
              have oW := ((oN.far uW 0 (.int .i64 1)).far (uW.set0 _) 1 (.slice (some ⟨w6.heap.size, 0, none⟩) 0 0)).far ((uW.set0 _).set1 _) 2 (.string o2.s)
              have hRb : R < w4.heap.size := by omega
              replace RW := ((RW.far hRb 0 (.int .i64 1)).far hRb 1 (.slice (some ⟨w6.heap.size, 0, none⟩) 0 0)).far hRb 2 (.string o2.s)
              replace TW := ((TW.set_new z4' 0 (.int .i64 1)).set_new z4' 1 (.slice (some ⟨w6.heap.size, 0, none⟩) 0 0)).set_new z4' 2 (.string o2.s)
              replace uW := ((uW.set0 (.int .i64 1)).set1 (.slice (some ⟨w6.heap.size, 0, none⟩) 0 0)).set2 (.string o2.s)
              clear oN
              generalize (((w6.alloc (.cells #[] 3)).setCell ⟨w4.heap.size, 0, none⟩ (.int .i64 1)).setCell ⟨w4.heap.size, 1, none⟩ (.slice (some ⟨w6.heap.size, 0, none⟩) 0 0)).setCell ⟨w4.heap.size, 2, none⟩ (.string o2.s) = W at *
              obtain ⟨ys, hyrow, hyos⟩ := hvW
              have zW := TW.size
              obtain ⟨y0, y1, y2, -⟩ := id uW.reads
              go_wp2_with (at_builtin; go_must (refine wpList_append_own _ rfl _ _ 23 rfl w.heap.size 42 i0 (.agg #[.int .i64 0, .slice none 0 0, .string ⟨#[]⟩]) 3 48 Try.underlying23 hi hz0 hz1 hz2 rfl (by decide) _ os.length ys rfl (World.ownsRow.alloc hyrow _) ⟨W.heap.size, 0, none⟩ 1 1 [.int .i64 ((⟨1, [], o2.s⟩ : Ob)).kd, .slice (some ⟨w6.heap.size, 0, none⟩) ((⟨1, [], o2.s⟩ : Ob)).zs.length 0, .string ((⟨1, [], o2.s⟩ : Ob)).s] rfl rfl (three_at _ _ _ _ _ _ (by simp)) (obj_cells ((⟨1, [], o2.s⟩ : Ob)) (some ⟨w6.heap.size, 0, none⟩) 0) (by unfold maxLen; omega) (by omega) (by simp; omega) ?_); intro v' w9 hown hg _)
              have hlt' := World.ownsRow.lt hyrow
              have hv9 : OwnObs w9 w.heap.size v' (os ++ [(⟨1, [], o2.s⟩ : Ob)]) := OwnObs.app hyos hyrow.1 oW hyrow hown hg
              have al9 := (Below.refl (W).heap.size (W)).alloc (Nat.le_refl _) (.cells #[.int .i64 ((⟨1, [], o2.s⟩ : Ob)).kd, .slice (some ⟨w6.heap.size, 0, none⟩) ((⟨1, [], o2.s⟩ : Ob)).zs.length 0, .string ((⟨1, [], o2.s⟩ : Ob)).s] 42)
              have T9 : But R w w9 := World.grownBy.andThen (TW.trans (.of_below al9)) hg (fun j hj => .inl (hlt' j hj).1)
              have R9 : Rd w9 R (q + 3 + 2001 * k + 2000 + 1) := RW.below (((Below.refl w.heap.size _).alloc zW (.cells #[.int .i64 ((⟨1, [], o2.s⟩ : Ob)).kd, .slice (some ⟨w6.heap.size, 0, none⟩) ((⟨1, [], o2.s⟩ : Ob)).zs.length 0, .string ((⟨1, [], o2.s⟩ : Ob)).s] 42)).grown hg (by simp; omega) (fun j hj => (hlt' j hj).1)) hRw
              clear hown hg hyrow hyos hlt' al9 y0 y1 y2
              go_roundw
              case rel => exact ⟨k + 1, os ++ [(⟨1, [], o2.s⟩ : Ob)], by omega, by go_num, hv9, by rw [List.length_append, List.length_singleton]; omega, by rw [List.length_append, List.length_singleton]; omega, HMild.out.snoc (by first | assumption | omega | (show (0 : Nat) ≤ 992; omega)) (by first | assumption | omega), R9.more (by omega), T9⟩
              case measure => simp [intOf]; omega
          · have e6 : (x6 == 0) = false := by rw [beq_eq_false_iff_ne]; exact hx6
            clear hx6
            obtain ⟨ys, hyrow, hyos⟩ := hvW
            have zW := TW.size
            obtain ⟨y0, y1, y2, -⟩ := id uW.reads
            go_wp2_with (at_builtin; go_must (refine wpList_append_own _ rfl _ _ 23 rfl w.heap.size 42 i0 (.agg #[.int .i64 0, .slice none 0 0, .string ⟨#[]⟩]) 3 48 Try.underlying23 hi hz0 hz1 hz2 rfl (by decide) _ os.length ys rfl (World.ownsRow.alloc hyrow _) ⟨w6.heap.size, 0, none⟩ 1 1 [.int .i64 (o).kd, .slice A4 (o).zs.length c4, .string (o).s] rfl rfl (three_at _ _ _ _ _ _ (by simp)) (obj_cells (o) A4 c4) (by unfold maxLen; omega) (by omega) (by simp; omega) ?_); intro v' w9 hown hg _)
            have hlt' := World.ownsRow.lt hyrow
            have hv9 : OwnObs w9 w.heap.size v' (os ++ [o]) := OwnObs.app hyos hyrow.1 oW hyrow hown hg
            have al9 := (Below.refl (w6).heap.size (w6)).alloc (Nat.le_refl _) (.cells #[.int .i64 (o).kd, .slice A4 (o).zs.length c4, .string (o).s] 42)
            have T9 : But R w w9 := World.grownBy.andThen (TW.trans (.of_below al9)) hg (fun j hj => .inl (hlt' j hj).1)
            have R9 : Rd w9 R (q + 3 + 2001 * k + 2000 + 1) := RW.below (((Below.refl w.heap.size _).alloc zW (.cells #[.int .i64 (o).kd, .slice A4 (o).zs.length c4, .string (o).s] 42)).grown hg (by simp; omega) (fun j hj => (hlt' j hj).1)) hRw
            clear hown hg hyrow hyos hlt' al9 y0 y1 y2
            go_roundw
            case rel => exact ⟨k + 1, os ++ [o], by omega, by go_num, hv9, by rw [List.length_append, List.length_singleton]; omega, by rw [List.length_append, List.length_singleton]; omega, HMild.out.snoc (by first | assumption | omega | (show (0 : Nat) ≤ 992; omega)) (by first | assumption | omega), R9.more (by omega), T9⟩
            case measure => simp [intOf]; omega
      · go_wp2
        go_ret
        exact ⟨_, os, rfl, hv, by omega, HMild.out, hRr.more (by omega), hT⟩
end Go.Proofs.Ytkekbobnbipmoaa
