/-
  Walks of the exact laws on one object.
-/
import Derived.Test.YtglcnlinfojflaaCopy
import Derived.Deep.RegionHeld3
namespace Go.Proofs.Ytglcnlinfojflaa
open Go.RowKit Wo Pu

set_option maxHeartbeats 2000000 in
theorem exactValid_no (A : Option Addr) (c : Nat) (kd : Int) (zs : List Int) (s : ByteArray) (w : World) (hm : zs.length ≤ maxLen) (hs : s.size ≤ maxLen) (h : 1048576 < zs.length + s.size) :
    Calls Try.prog 3 #[ob kd A zs.length c s] w (Ret (.bool true) w) := by
  unfold ob
  go_enter Try.func3, Try.ntmps3
  go_wp2_with (go_at_call 15; refine (szObject_no A zs.length c kd s 1048576 _ hm hs (by omega) (by omega) (by omega)).mono ?_; rintro e w1 ⟨rfl, hb⟩)
  go_ret
  exact .mk_ (((Below.refl _ _).alloc (Nat.le_refl _) _).trans (hb.mono (by simp)))

set_option maxHeartbeats 2000000 in
theorem exactValid_yes (A : Option Addr) (c : Nat) (kd : Int) (zs : List Int) (s : ByteArray) (w : World) (hr : Row w w.heap.size A (ints zs)) (h : zs.length + s.size ≤ 1048576) :
    Calls Try.prog 3 #[ob kd A zs.length c s] w (Ret (.bool true) w) := by
  have hm : zs.length ≤ maxLen := by unfold maxLen; omega
  have hs : s.size ≤ maxLen := by unfold maxLen; omega
  unfold ob
  go_enter Try.func3, Try.ntmps3
  go_wp2_with fail
  refine (szObject_yes A zs.length c kd s 1048576 _ hm hs (by omega) (by omega) (by omega)).mono ?_
  rintro e w1 ⟨rfl, hb1⟩
  have hw1 := ((Below.refl w.heap.size w).alloc (Nat.le_refl _) (.cells #[.int .i64 kd, .slice A zs.length c, .string s] 24)).trans (hb1.mono (by simp))
  have hz1 := hb1.size
  simp only [World.size_alloc] at hz1
  have bx1 := (Box3.new_ w 24 (.int .i64 kd) (.slice A zs.length c) (.string s)).below hb1 (by simp)
  clear hb1
  obtain ⟨q0, q1, q2, q3⟩ := id bx1
  go_wp2_with fail
  refine (toObject_any w.heap.size A c kd zs s _ (hr.below hw1 (Nat.le_refl _)) (by omega) (by omega)).mono ?_
  rintro e w2 ⟨g2, rfl, hx2, hb2⟩
  unfold ob
  clear q0 q1 q2 q3
  have hw2 := hw1.trans (hb2.mono (by omega))
  have bx2 := bx1.below hb2 (by omega)
  have hz2 := hb2.size
  clear hb2 bx1
  go_wp2_with fail
  refine (specValid_any w2.heap.size _ _ kd zs s _ hx2.row (Nat.le_refl _) hm hs).mono ?_
  rintro e w3 ⟨rfl, hb3⟩
  have hw3 := hw2.trans (hb3.mono (by omega))
  have bx3 := bx2.below hb3 (by omega)
  have hz3 := hb3.size
  clear hb3 bx2 hx2
  obtain ⟨q0, q1, q2, q3⟩ := id bx3
  go_wp2_with fail
  refine (toObject_any w.heap.size A c kd zs s _ (hr.below hw3 (Nat.le_refl _)) (by omega) (by omega)).mono ?_
  rintro e w4 ⟨g4, rfl, hx4, hb4⟩
  unfold ob
  clear q0 q1 q2 q3
  have hw4 := hw3.trans (hb4.mono (by omega))
  have bx4 := bx3.below hb4 (by omega)
  have hz4 := hb4.size
  clear hb4 bx3
  obtain ⟨q0, q1, q2, q3⟩ := id bx4
  go_wp2_with fail
  refine (implObjectValid_any w4.heap.size _ _ kd zs s _ (hx4.row.alloc (Nat.le_refl _) _) (by simp) hm hs).mono ?_
  rintro e w5 ⟨rfl, hb5⟩
  clear q0 q1 q2 q3
  have al5 := (Below.refl w4.heap.size w4).alloc (Nat.le_refl _) (.cells #[.int .i64 kd, .slice (some ⟨g4, 0, none⟩) zs.length zs.length, .string s] 27)
  have hw5 := (hw4.trans (al5.mono (by omega))).trans (hb5.mono (by simp; omega))
  have bx5 := (bx4.below al5 (by omega)).below hb5 (by simp; omega)
  have by5 := (Box3.new_ w4 27 (.int .i64 kd) (.slice (some ⟨g4, 0, none⟩) zs.length zs.length) (.string s)).below hb5 (by simp)
  have hx5 := (hx4.below al5 (hx4.lt).2).below hb5 (by have := hx4.lt; simp; omega)
  have hz5 := hb5.size
  simp only [World.size_alloc] at hz5
  clear hb5 al5 bx4 hx4
  obtain ⟨q0, q1, q2, q3⟩ := id bx5
  obtain ⟨r0, r1, r2, r3⟩ := id by5
  go_wp2_with fail
  have hL5 := hx5.lt
  have hwd := hw5.drew
  have bxd : Box3 w5.drew w.heap.size (.int .i64 kd) (.slice A zs.length c) (.string s) := bx5
  have byd : Box3 w5.drew w4.heap.size (.int .i64 kd) (.slice (some ⟨g4, 0, none⟩) zs.length zs.length) (.string s) := by5
  have hxd : Mine w5.drew w3.heap.size 3 1 g4 zs.length (ints zs) := hx5
  clear hw5 bx5 by5 hx5
  go_region_held3 (fun w' => w'.cell? ⟨w.heap.size, 0, none⟩ = some (.int .i64 kd) ∧ w'.cell? ⟨w.heap.size, 1, none⟩ = some (.slice A zs.length c) ∧ w'.cell? ⟨w.heap.size, 2, none⟩ = some (.string s) ∧ w'.cell? ⟨w4.heap.size, 0, none⟩ = some (.int .i64 kd) ∧ w'.cell? ⟨w4.heap.size, 1, none⟩ = some (.slice (some ⟨g4, 0, none⟩) zs.length zs.length) ∧ w'.cell? ⟨w4.heap.size, 2, none⟩ = some (.string s)) (go_keep)
    (first
      | (go_at_call 17; go_must (refine (toObject_any w.heap.size A c kd zs s _ (by exact hr.below hwd (Nat.le_refl _)) (by exact hwd.size) (by omega)).mono ?_); rintro e w6 ⟨g6, rfl, hx6, hb6⟩; unfold ob; have hx46 := hxd.below hb6 (by exact hL5.2); have hw6 := hwd.trans (hb6.mono hwd.size); obtain ⟨_, p1, p2, p3⟩ := bxd.below (w' := w6) hb6 (by exact q0); obtain ⟨_, t1, t2, t3⟩ := byd.below (w' := w6) hb6 (by exact r0))
      | (go_at_call 19; go_must (refine (eqObject_same w6.heap.size w6.heap.size _ _ zs.length zs.length kd zs s _ (by exact hx46.row) (by exact hx6.row) (Nat.le_refl _) (Nat.le_refl _) hm).mono ?_); rintro e w7 ⟨rfl, hb7⟩; have hw7 := hw6.trans (hb7.mono hw6.size); obtain ⟨k1, -⟩ := bcell hb7))
  go_wp2
  go_ret
  exact .mk_ hw7

set_option maxHeartbeats 2000000 in
theorem exactId_no (A : Option Addr) (c : Nat) (kd : Int) (zs : List Int) (s : ByteArray) (w : World) (hm : zs.length ≤ maxLen) (hs : s.size ≤ maxLen) (h : 1048576 < zs.length + s.size) :
    Calls Try.prog 4 #[ob kd A zs.length c s] w (Ret (.bool true) w) := by
  unfold ob
  go_enter Try.func4, Try.ntmps4
  go_wp2_with (go_at_call 15; refine (szObject_no A zs.length c kd s 1048576 _ hm hs (by omega) (by omega) (by omega)).mono ?_; rintro e w1 ⟨rfl, hb⟩)
  go_ret
  exact .mk_ (((Below.refl _ _).alloc (Nat.le_refl _) _).trans (hb.mono (by simp)))

set_option maxHeartbeats 2000000 in
theorem exactId_yes (A : Option Addr) (c : Nat) (kd : Int) (zs : List Int) (s : ByteArray) (w : World) (hr : Row w w.heap.size A (ints zs)) (h : zs.length + s.size ≤ 1048576) :
    Calls Try.prog 4 #[ob kd A zs.length c s] w (Ret (.bool true) w) := by
  have hm : zs.length ≤ maxLen := by unfold maxLen; omega
  have hs : s.size ≤ maxLen := by unfold maxLen; omega
  unfold ob
  go_enter Try.func4, Try.ntmps4
  go_wp2_with fail
  refine (szObject_yes A zs.length c kd s 1048576 _ hm hs (by omega) (by omega) (by omega)).mono ?_
  rintro e w1 ⟨rfl, hb1⟩
  have hw1 := ((Below.refl w.heap.size w).alloc (Nat.le_refl _) (.cells #[.int .i64 kd, .slice A zs.length c, .string s] 24)).trans (hb1.mono (by simp))
  have hz1 := hb1.size
  simp only [World.size_alloc] at hz1
  have bx1 := (Box3.new_ w 24 (.int .i64 kd) (.slice A zs.length c) (.string s)).below hb1 (by simp)
  clear hb1
  obtain ⟨q0, q1, q2, q3⟩ := id bx1
  go_wp2_with fail
  refine (toObject_any w.heap.size A c kd zs s _ (hr.below hw1 (Nat.le_refl _)) (by omega) (by omega)).mono ?_
  rintro e w2 ⟨g2, rfl, hx2, hb2⟩
  unfold ob
  clear q0 q1 q2 q3
  have hw2 := hw1.trans (hb2.mono (by omega))
  have bx2 := bx1.below hb2 (by omega)
  have hz2 := hb2.size
  clear hb2 bx1
  go_wp2_with fail
  refine (specId_any w2.heap.size _ _ kd zs s _ hx2.row (Nat.le_refl _) hm hs).mono ?_
  rintro e w3 ⟨rfl, hb3⟩
  have hw3 := hw2.trans (hb3.mono (by omega))
  have bx3 := bx2.below hb3 (by omega)
  have hz3 := hb3.size
  clear hb3 bx2 hx2
  obtain ⟨q0, q1, q2, q3⟩ := id bx3
  go_wp2_with fail
  refine (toObject_any w.heap.size A c kd zs s _ (hr.below hw3 (Nat.le_refl _)) (by omega) (by omega)).mono ?_
  rintro e w4 ⟨g4, rfl, hx4, hb4⟩
  unfold ob
  clear q0 q1 q2 q3
  have hw4 := hw3.trans (hb4.mono (by omega))
  have bx4 := bx3.below hb4 (by omega)
  have hz4 := hb4.size
  clear hb4 bx3
  obtain ⟨q0, q1, q2, q3⟩ := id bx4
  go_wp2_with fail
  refine (implObjectId_any w4.heap.size _ _ kd zs s _ (hx4.row.alloc (Nat.le_refl _) _) (by simp) hm hs).mono ?_
  rintro e w5 ⟨rfl, hb5⟩
  clear q0 q1 q2 q3
  have al5 := (Below.refl w4.heap.size w4).alloc (Nat.le_refl _) (.cells #[.int .i64 kd, .slice (some ⟨g4, 0, none⟩) zs.length zs.length, .string s] 27)
  have hw5 := (hw4.trans (al5.mono (by omega))).trans (hb5.mono (by simp; omega))
  have bx5 := (bx4.below al5 (by omega)).below hb5 (by simp; omega)
  have by5 := (Box3.new_ w4 27 (.int .i64 kd) (.slice (some ⟨g4, 0, none⟩) zs.length zs.length) (.string s)).below hb5 (by simp)
  have hx5 := (hx4.below al5 (hx4.lt).2).below hb5 (by have := hx4.lt; simp; omega)
  have hz5 := hb5.size
  simp only [World.size_alloc] at hz5
  clear hb5 al5 bx4 hx4
  obtain ⟨q0, q1, q2, q3⟩ := id bx5
  obtain ⟨r0, r1, r2, r3⟩ := id by5
  go_wp2_with fail
  have hL5 := hx5.lt
  have hwd := hw5.drew
  have bxd : Box3 w5.drew w.heap.size (.int .i64 kd) (.slice A zs.length c) (.string s) := bx5
  have byd : Box3 w5.drew w4.heap.size (.int .i64 kd) (.slice (some ⟨g4, 0, none⟩) zs.length zs.length) (.string s) := by5
  have hxd : Mine w5.drew w3.heap.size 3 1 g4 zs.length (ints zs) := hx5
  clear hw5 bx5 by5 hx5
  go_region_held3 (fun w' => w'.cell? ⟨w.heap.size, 0, none⟩ = some (.int .i64 kd) ∧ w'.cell? ⟨w.heap.size, 1, none⟩ = some (.slice A zs.length c) ∧ w'.cell? ⟨w.heap.size, 2, none⟩ = some (.string s) ∧ w'.cell? ⟨w4.heap.size, 0, none⟩ = some (.int .i64 kd) ∧ w'.cell? ⟨w4.heap.size, 1, none⟩ = some (.slice (some ⟨g4, 0, none⟩) zs.length zs.length) ∧ w'.cell? ⟨w4.heap.size, 2, none⟩ = some (.string s)) (go_keep)
    (first
      | (go_at_call 17; go_must (refine (toObject_any w.heap.size A c kd zs s _ (by exact hr.below hwd (Nat.le_refl _)) (by exact hwd.size) (by omega)).mono ?_); rintro e w6 ⟨g6, rfl, hx6, hb6⟩; unfold ob; have hx46 := hxd.below hb6 (by exact hL5.2); have hw6 := hwd.trans (hb6.mono hwd.size); obtain ⟨_, p1, p2, p3⟩ := bxd.below (w' := w6) hb6 (by exact q0); obtain ⟨_, t1, t2, t3⟩ := byd.below (w' := w6) hb6 (by exact r0))
      | (go_at_call 19; go_must (refine (eqObject_same w6.heap.size w6.heap.size _ _ zs.length zs.length kd zs s _ (by exact hx46.row) (by exact hx6.row) (Nat.le_refl _) (Nat.le_refl _) hm).mono ?_); rintro e w7 ⟨rfl, hb7⟩; have hw7 := hw6.trans (hb7.mono hw6.size); obtain ⟨k1, -⟩ := bcell hb7))
  go_wp2
  go_ret
  exact .mk_ hw7

theorem exactValid_any (kd : Int) (A : Option Addr) (c : Nat) (zs : List Int) (s : ByteArray) (w : World) (hr : Row w w.heap.size A (ints zs)) (hm : zs.length ≤ maxLen) (hs : s.size ≤ maxLen) :
    Calls Try.prog 3 #[.agg #[.int .i64 kd, .slice A zs.length c, .string s]] w (Ret (.bool true) w) := by
  by_cases h : zs.length + s.size ≤ 1048576
  · exact exactValid_yes A c kd zs s w hr h
  · exact exactValid_no A c kd zs s w hm hs (by omega)

theorem exactId_any (kd : Int) (A : Option Addr) (c : Nat) (zs : List Int) (s : ByteArray) (w : World) (hr : Row w w.heap.size A (ints zs)) (hm : zs.length ≤ maxLen) (hs : s.size ≤ maxLen) :
    Calls Try.prog 4 #[.agg #[.int .i64 kd, .slice A zs.length c, .string s]] w (Ret (.bool true) w) := by
  by_cases h : zs.length + s.size ≤ 1048576
  · exact exactId_yes A c kd zs s w hr h
  · exact exactId_no A c kd zs s w hm hs (by omega)
end Go.Proofs.Ytglcnlinfojflaa
