/-
  Walks: LogAppend, LogSync, of the program and of the model.
-/
import Derived.Test.YtclonfhpabdpgaaLogD
import Derived.Deep.RegionHeld3
namespace Go.Proofs.Ytclonfhpabdpgaa
open Go.RowKit Wo Pu Lg

/-- The two blocks with which these functions begin: the disk and the result. -/
def Two (w : World) (s : ByteArray) (y : Int) (W : World) : Prop :=
  Blk2 W w.heap.size 32 (.string s) (.int .i64 y) ∧ Blk2 W (w.heap.size + 1) 32 (.string ⟨#[]⟩) (.int .i64 0) ∧ Below w.heap.size w W
theorem Two.new_ (w : World) (s : ByteArray) (y : Int) : Two w s y ((w.alloc (.cells #[.string s, .int .i64 y] 32)).alloc (.cells #[.string ⟨#[]⟩, .int .i64 0] 32)) := by
  refine ⟨(Blk2.new_ w _ _ _).alloc _, ?_, ((Below.refl _ _).alloc (Nat.le_refl _) _).alloc (by simp) _⟩
  have := Blk2.new_ (w.alloc (.cells #[.string s, .int .i64 y] 32)) 32 (.string ⟨#[]⟩) (.int .i64 0)
  rwa [World.size_alloc] at this
theorem Two.later {w W W' : World} {s : ByteArray} {y : Int} (h : Two w s y W) (hb : Below W.heap.size W W') : Two w s y W' :=
  ⟨h.1.later hb, h.2.1.later hb, h.2.2.trans (hb.mono h.2.2.size)⟩
/-- What is stored as the result. -/
theorem Two.put {w W : World} {s : ByteArray} {y : Int} (h : Two w s y W) (t : ByteArray) (z : Int) :
    Blk2 ((W.setCell ⟨w.heap.size + 1, 0, none⟩ (.string t)).setCell ⟨w.heap.size + 1, 1, none⟩ (.int .i64 z)) (w.heap.size + 1) 32 (.string t) (.int .i64 z) ∧
      Below w.heap.size w ((W.setCell ⟨w.heap.size + 1, 0, none⟩ (.string t)).setCell ⟨w.heap.size + 1, 1, none⟩ (.int .i64 z)) :=
  ⟨(h.2.1.set0 _).set1 _, (h.2.2.setCell (p := ⟨w.heap.size + 1, 0, none⟩) (Nat.le_succ _) _).setCell (p := ⟨w.heap.size + 1, 1, none⟩) (Nat.le_succ _) _⟩
theorem Two.reads {w W : World} {s : ByteArray} {y : Int} (h : Two w s y W) : W.cell? ⟨w.heap.size, 0, none⟩ = some (.string s) ∧ W.cell? ⟨w.heap.size, 1, none⟩ = some (.int .i64 y) ∧ W.cell? ⟨w.heap.size + 1, 0, none⟩ = some (.string ⟨#[]⟩) ∧ W.cell? ⟨w.heap.size + 1, 1, none⟩ = some (.int .i64 0) ∧
    W.frozen? ⟨w.heap.size + 1, 0, none⟩ = false ∧ W.frozen? ⟨w.heap.size + 1, 1, none⟩ = false := by
  obtain ⟨a0, a1, _⟩ := h.1.reads
  obtain ⟨b0, b1, bf⟩ := h.2.1.reads
  exact ⟨a0, a1, b0, b1, bf 0, bf 1⟩

set_option maxHeartbeats 1000000 in
theorem implLogSync_no (s : ByteArray) (y : Int) (w : World) (hs : s.size ≤ maxLen) (h : ¬ Vd s y) : Calls Try.prog 28 #[dk s y] w (Ret (dk ⟨#[]⟩ 0) w) := by
  unfold dk
  have T := Two.new_ w s y
  go_enter Try.func28, Try.ntmps28
  go_wp2_with fail
  refine (implValid_is false s y _ hs (decide_eq_false h)).mono ?_
  rintro e w2 ⟨rfl, hb2⟩
  have T2 := T.later hb2
  clear T hb2
  obtain ⟨r0, r1, r2, r3, r4, r5⟩ := T2.reads
  obtain ⟨tp, tb⟩ := T2.put ⟨#[]⟩ 0
  obtain ⟨p0, p1, -⟩ := tp.reads
  go_wp2_with fail
  exact bodyPost_ret (v := dk ⟨#[]⟩ 0) (by simp [results, Try.results28, go_sem, dk, p0, p1]) rfl ⟨rfl, tb⟩
set_option maxHeartbeats 1000000 in
theorem specLogSync_no (s : ByteArray) (y : Int) (w : World) (hs : s.size ≤ maxLen) (h : ¬ Vd s y) : Calls Try.prog 29 #[dk s y] w (Ret (dk ⟨#[]⟩ 0) w) := by
  unfold dk
  have T := Two.new_ w s y
  go_enter Try.func29, Try.ntmps29
  go_wp2_with fail
  refine (specDiskValid_is false s y _ hs (decide_eq_false h)).mono ?_
  rintro e w2 ⟨rfl, hb2⟩
  have T2 := T.later hb2
  clear T hb2
  obtain ⟨r0, r1, r2, r3, r4, r5⟩ := T2.reads
  obtain ⟨tp, tb⟩ := T2.put ⟨#[]⟩ 0
  obtain ⟨p0, p1, -⟩ := tp.reads
  go_wp2_with fail
  exact bodyPost_ret (v := dk ⟨#[]⟩ 0) (by simp [results, Try.results29, go_sem, dk, p0, p1]) rfl ⟨rfl, tb⟩

set_option maxHeartbeats 1000000 in
theorem specLogSync_yes (s : ByteArray) (y : Int) (w : World) (h : Vd s y) : Calls Try.prog 29 #[dk s y] w (Ret (dk s s.size) w) := by
  have hs : s.size ≤ maxLen := by have := h.1; unfold maxLen; omega
  unfold dk
  have T := Two.new_ w s y
  go_enter Try.func29, Try.ntmps29
  go_wp2_with fail
  refine (specDiskValid_is true s y _ hs (decide_eq_true h)).mono ?_
  rintro e w2 ⟨rfl, hb2⟩
  have T2 := T.later hb2
  clear T hb2
  obtain ⟨r0, r1, r2, r3, r4, r5⟩ := T2.reads
  obtain ⟨tp, tb⟩ := T2.put s s.size
  obtain ⟨p0, p1, -⟩ := tp.reads
  go_wp2_with fail
  exact bodyPost_ret (v := dk s s.size) (by simp [results, Try.results29, go_sem, dk, p0, p1]) rfl ⟨rfl, tb⟩
set_option maxHeartbeats 4000000 in
theorem implLogSync_yes (s : ByteArray) (y : Int) (w : World) (h : Vd s y) : Calls Try.prog 28 #[dk s y] w (Ret (dk s s.size) w) := by
  have hs : s.size ≤ maxLen := by have := h.1; unfold maxLen; omega
  have hm : s.size ≤ 1048576 := by have := h.1; omega
  unfold dk
  have T := Two.new_ w s y
  go_enter Try.func28, Try.ntmps28
  go_wp2_with fail
  refine (implValid_is true s y _ hs (decide_eq_true h)).mono ?_
  rintro e w2 ⟨rfl, hb2⟩
  have T2 := T.later hb2
  clear T hb2
  obtain ⟨r0, r1, r2, r3, r4, r5⟩ := T2.reads
  go_wp2_with fail
  go_region_held3 (fun w' => w'.cell? ⟨w.heap.size, 0, none⟩ = some (.string s) ∧ w'.cell? ⟨w.heap.size, 1, none⟩ = some (.int .i64 y)) (simp [*, go_sem])
    (first | (go_at_call 41; go_must (refine (clone_any s _ hm).mono ?_); rintro e w5 ⟨rfl, hb⟩; have T5 := T2.later (W' := w5) ⟨hb.os, hb.tape, hb.output, hb.size, hb.block⟩; obtain ⟨s0, s1, s2, s3, s4, s5⟩ := T5.reads))
  obtain ⟨tp, tb⟩ := T5.put s s.size
  obtain ⟨p0, p1, -⟩ := tp.reads
  go_wp2_with fail
  exact bodyPost_ret (v := dk s s.size) (by simp [results, Try.results28, go_sem, dk, p0, p1]) rfl ⟨rfl, tb⟩

/-- What LogSync answers. -/
def syO (s : ByteArray) (y : Int) : Value := if Vd s y then dk s s.size else dk ⟨#[]⟩ 0
theorem implLogSync_any (s : ByteArray) (y : Int) (w : World) (hs : s.size ≤ maxLen) : Calls Try.prog 28 #[dk s y] w (Ret (syO s y) w) := by
  unfold syO
  by_cases h : Vd s y
  · rw [if_pos h]; exact implLogSync_yes s y w h
  · rw [if_neg h]; exact implLogSync_no s y w hs h
theorem specLogSync_any (s : ByteArray) (y : Int) (w : World) (hs : s.size ≤ maxLen) : Calls Try.prog 29 #[dk s y] w (Ret (syO s y) w) := by
  unfold syO
  by_cases h : Vd s y
  · rw [if_pos h]; exact specLogSync_yes s y w h
  · rw [if_neg h]; exact specLogSync_no s y w hs h

/-! ### LogAppend. -/
/-- What LogAppend answers. -/
def apO (s : ByteArray) (y : Int) (r : ByteArray) : Value :=
  if Vd s y ∧ 1 ≤ r.size ∧ r.size ≤ 12 then (if s.size + r.size + 2 ≤ 120 then .tuple #[dk (s ++ mk (fr (bl r))) y, .bool true] else .tuple #[dk s y, .bool false]) else .tuple #[dk ⟨#[]⟩ 0, .bool false]

set_option maxHeartbeats 1000000 in
theorem implLogAppend_bad (s : ByteArray) (y : Int) (r : ByteArray) (w : World) (hs : s.size ≤ maxLen) (h : ¬ Vd s y) : Calls Try.prog 23 #[dk s y, .string r] w (Ret (.tuple #[dk ⟨#[]⟩ 0, .bool false]) w) := by
  unfold dk
  have T := Two.new_ w s y
  go_enter Try.func23, Try.ntmps23
  go_wp2_with fail
  refine (implValid_is false s y _ hs (decide_eq_false h)).mono ?_
  rintro e w2 ⟨rfl, hb2⟩
  have T2 := T.later hb2
  clear T hb2
  obtain ⟨r0, r1, r2, r3, r4, r5⟩ := T2.reads
  obtain ⟨tp, tb⟩ := T2.put ⟨#[]⟩ 0
  obtain ⟨p0, p1, -⟩ := tp.reads
  go_wp2_with fail
  exact bodyPost_ret (v := .tuple #[dk ⟨#[]⟩ 0, .bool false]) (by simp [results, Try.results23, go_sem, dk, p0, p1]) rfl ⟨rfl, tb⟩
set_option maxHeartbeats 1000000 in
theorem specLogAppend_bad (s : ByteArray) (y : Int) (r : ByteArray) (w : World) (hs : s.size ≤ maxLen) (h : ¬ Vd s y) : Calls Try.prog 24 #[dk s y, .string r] w (Ret (.tuple #[dk ⟨#[]⟩ 0, .bool false]) w) := by
  unfold dk
  have T := Two.new_ w s y
  go_enter Try.func24, Try.ntmps24
  go_wp2_with fail
  refine (specDiskValid_is false s y _ hs (decide_eq_false h)).mono ?_
  rintro e w2 ⟨rfl, hb2⟩
  have T2 := T.later hb2
  clear T hb2
  obtain ⟨r0, r1, r2, r3, r4, r5⟩ := T2.reads
  obtain ⟨tp, tb⟩ := T2.put ⟨#[]⟩ 0
  obtain ⟨p0, p1, -⟩ := tp.reads
  go_wp2_with fail
  exact bodyPost_ret (v := .tuple #[dk ⟨#[]⟩ 0, .bool false]) (by simp [results, Try.results24, go_sem, dk, p0, p1]) rfl ⟨rfl, tb⟩
set_option maxHeartbeats 1000000 in
theorem implLogAppend_rec (s : ByteArray) (y : Int) (r : ByteArray) (w : World) (h : Vd s y) (hr : r.size ≤ maxLen) (hf : ¬ (1 ≤ r.size ∧ r.size ≤ 12)) : Calls Try.prog 23 #[dk s y, .string r] w (Ret (.tuple #[dk ⟨#[]⟩ 0, .bool false]) w) := by
  have hs : s.size ≤ maxLen := by have := h.1; unfold maxLen; omega
  unfold maxLen at hr
  unfold dk
  have T := Two.new_ w s y
  go_enter Try.func23, Try.ntmps23
  go_wp2_with fail
  refine (implValid_is true s y _ hs (decide_eq_true h)).mono ?_
  rintro e w2 ⟨rfl, hb2⟩
  have T2 := T.later hb2
  clear T hb2
  obtain ⟨r0, r1, r2, r3, r4, r5⟩ := T2.reads
  obtain ⟨tp, tb⟩ := T2.put ⟨#[]⟩ 0
  obtain ⟨p0, p1, -⟩ := tp.reads
  go_wp2_with (go_at_call 36; refine (recordFits_no _ _ (by omega)).mono ?_; rintro e w' ⟨rfl, rfl⟩)
  exact bodyPost_ret (v := .tuple #[dk ⟨#[]⟩ 0, .bool false]) (by simp [results, Try.results23, go_sem, dk, p0, p1]) rfl ⟨rfl, tb⟩
set_option maxHeartbeats 1000000 in
theorem specLogAppend_rec (s : ByteArray) (y : Int) (r : ByteArray) (w : World) (h : Vd s y) (hr : r.size ≤ maxLen) (hf : ¬ (1 ≤ r.size ∧ r.size ≤ 12)) : Calls Try.prog 24 #[dk s y, .string r] w (Ret (.tuple #[dk ⟨#[]⟩ 0, .bool false]) w) := by
  have hs : s.size ≤ maxLen := by have := h.1; unfold maxLen; omega
  unfold maxLen at hr
  unfold dk
  have T := Two.new_ w s y
  go_enter Try.func24, Try.ntmps24
  go_wp2_with fail
  refine (specDiskValid_is true s y _ hs (decide_eq_true h)).mono ?_
  rintro e w2 ⟨rfl, hb2⟩
  have T2 := T.later hb2
  clear T hb2
  obtain ⟨r0, r1, r2, r3, r4, r5⟩ := T2.reads
  obtain ⟨tp, tb⟩ := T2.put ⟨#[]⟩ 0
  obtain ⟨p0, p1, -⟩ := tp.reads
  go_wp2_with (go_at_call 38; refine (l6In_no _ _ _ _ (by omega)).mono ?_; rintro e w' ⟨rfl, rfl⟩)
  exact bodyPost_ret (v := .tuple #[dk ⟨#[]⟩ 0, .bool false]) (by simp [results, Try.results24, go_sem, dk, p0, p1]) rfl ⟨rfl, tb⟩
set_option maxHeartbeats 4000000 in
theorem implLogAppend_full (s : ByteArray) (y : Int) (r : ByteArray) (w : World) (h : Vd s y) (hf : 1 ≤ r.size ∧ r.size ≤ 12) (h9 : ¬ s.size + r.size + 2 ≤ 120) : Calls Try.prog 23 #[dk s y, .string r] w (Ret (.tuple #[dk s y, .bool false]) w) := by
  have hs : s.size ≤ maxLen := by have := h.1; unfold maxLen; omega
  have h1 := h.1
  have hm : s.size ≤ 1048576 := by omega
  have HF := hid (fr_length (bl r))
  have hL : (mk (fr (bl r))).size = r.size + 2 := by rw [mk_size, fr_length, bl_size]
  unfold dk
  have T := Two.new_ w s y
  go_enter Try.func23, Try.ntmps23
  go_wp2_with fail
  refine (implValid_is true s y _ hs (decide_eq_true h)).mono ?_
  rintro e w2 ⟨rfl, hb2⟩
  have T2 := T.later hb2
  clear T hb2
  obtain ⟨r0, r1, r2, r3, r4, r5⟩ := T2.reads
  go_wp2_with (go_at_call 36; refine (recordFits_yes _ _ (by omega) (by omega)).mono ?_; rintro e w' ⟨rfl, rfl⟩)
  refine (implLogFrame_yes r _ hf.1 hf.2).mono ?_
  rintro e w3 ⟨rfl, hb3⟩
  have T3 := T2.later hb3
  clear T2 hb3 r0 r1 r2 r3 r4 r5
  obtain ⟨r0, r1, r2, r3, r4, r5⟩ := T3.reads
  have T2 := T3
  clear T3
  obtain ⟨L, hLL⟩ : ∃ L, mk (fr (bl r)) = L := ⟨_, rfl⟩
  rw [hLL] at hL ⊢
  clear hLL
  have hLs : r.size + 2 ≤ L.size := by omega
  have hLt : L.size ≤ 14 := by omega
  clear hL
  go_wp2_with fail
  go_region_held3 (fun w' => w'.cell? ⟨w.heap.size, 0, none⟩ = some (.string s) ∧ w'.cell? ⟨w.heap.size, 1, none⟩ = some (.int .i64 y)) (simp [*, go_sem])
    (first | (go_at_call 41; go_must (refine (clone_any s _ hm).mono ?_); rintro e w5 ⟨rfl, hb⟩; have T5 := T2.later (W' := w5) ⟨hb.os, hb.tape, hb.output, hb.size, hb.block⟩; obtain ⟨s0, s1, s2, s3, s4, s5⟩ := T5.reads))
  obtain ⟨tp, tb⟩ := T5.put s y
  obtain ⟨p0, p1, -⟩ := tp.reads
  go_wp2_with fail
  exact bodyPost_ret (v := .tuple #[dk s y, .bool false]) (by simp [results, Try.results23, go_sem, dk, p0, p1]) rfl ⟨rfl, tb⟩
set_option maxHeartbeats 4000000 in
set_option maxRecDepth 100000 in
theorem specLogAppend_full (s : ByteArray) (y : Int) (r : ByteArray) (w : World) (h : Vd s y) (hf : 1 ≤ r.size ∧ r.size ≤ 12) (h9 : ¬ s.size + r.size + 2 ≤ 120) : Calls Try.prog 24 #[dk s y, .string r] w (Ret (.tuple #[dk s y, .bool false]) w) := by
  have hs : s.size ≤ maxLen := by have := h.1; unfold maxLen; omega
  have h1 := h.1
  unfold dk
  have T := Two.new_ w s y
  go_enter Try.func24, Try.ntmps24
  go_wp2_with fail
  refine (specDiskValid_is true s y _ hs (decide_eq_true h)).mono ?_
  rintro e w2 ⟨rfl, hb2⟩
  have T2 := T.later hb2
  clear T hb2
  obtain ⟨r0, r1, r2, r3, r4, r5⟩ := T2.reads
  obtain ⟨tp, tb⟩ := T2.put s y
  obtain ⟨p0, p1, -⟩ := tp.reads
  go_wp2_with (go_at_call 38; refine (l6In_yes _ _ _ _ (by omega) (by omega)).mono ?_; rintro e w' ⟨rfl, rfl⟩)
  exact bodyPost_ret (v := .tuple #[dk s y, .bool false]) (by simp [results, Try.results24, go_sem, dk, p0, p1]) rfl ⟨rfl, tb⟩
theorem implLogFrame_val (s : ByteArray) (L : ByteArray) (w : World) (h1 : 1 ≤ s.size) (h2 : s.size ≤ 12) (hL : mk (fr (bl s)) = L) : Calls Try.prog 16 #[.string s] w (Ret (.string L) w) := by subst hL; exact implLogFrame_yes s w h1 h2
theorem l4Frame_val (s : ByteArray) (L : ByteArray) (w : World) (h2 : s.size ≤ 12) (hL : mk (fr (bl s)) = L) : Calls Try.prog 39 #[.string s] w (Ret (.string L) w) := by subst hL; exact l4Frame_any s w h2
set_option maxHeartbeats 4000000 in
theorem implLogAppend_yes (s : ByteArray) (y : Int) (r L : ByteArray) (w : World) (h : Vd s y) (hf : 1 ≤ r.size ∧ r.size ≤ 12) (h9 : s.size + r.size + 2 ≤ 120) (hLL : mk (fr (bl r)) = L) : Calls Try.prog 23 #[dk s y, .string r] w (Ret (.tuple #[dk (s ++ L) y, .bool true]) w) := by
  have hs : s.size ≤ maxLen := by have := h.1; unfold maxLen; omega
  have h1 := h.1
  have hL : L.size = r.size + 2 := by rw [← hLL, mk_size, fr_length, bl_size]
  have HLL := hid hLL
  have hLs : s.size + L.size ≤ 120 := by omega
  clear hL hLL
  unfold dk
  have T := Two.new_ w s y
  go_enter Try.func23, Try.ntmps23
  go_wp2_with fail
  refine (implValid_is true s y _ hs (decide_eq_true h)).mono ?_
  rintro e w2 ⟨rfl, hb2⟩
  have T2 := T.later hb2
  clear T hb2
  obtain ⟨r0, r1, r2, r3, r4, r5⟩ := T2.reads
  go_wp2_with (go_at_call 36; refine (recordFits_yes _ _ (by omega) (by omega)).mono ?_; rintro e w' ⟨rfl, rfl⟩)
  refine (implLogFrame_val r L _ hf.1 hf.2 HLL.out).mono ?_
  rintro e w3 ⟨rfl, hb3⟩
  have T3 := T2.later hb3
  clear T2 hb3 r0 r1 r2 r3 r4 r5
  obtain ⟨r0, r1, r2, r3, r4, r5⟩ := T3.reads
  obtain ⟨tp, tb⟩ := T3.put (s ++ L) y
  obtain ⟨p0, p1, -⟩ := tp.reads
  go_wp2_with fail
  exact bodyPost_ret (v := .tuple #[dk (s ++ L) y, .bool true]) (by simp [results, Try.results23, go_sem, dk, p0, p1]) rfl ⟨rfl, tb⟩
set_option maxHeartbeats 4000000 in
set_option maxRecDepth 100000 in
theorem specLogAppend_yes (s : ByteArray) (y : Int) (r L : ByteArray) (w : World) (h : Vd s y) (hf : 1 ≤ r.size ∧ r.size ≤ 12) (h9 : s.size + r.size + 2 ≤ 120) (hLL : mk (fr (bl r)) = L) : Calls Try.prog 24 #[dk s y, .string r] w (Ret (.tuple #[dk (s ++ L) y, .bool true]) w) := by
  have hs : s.size ≤ maxLen := by have := h.1; unfold maxLen; omega
  have h1 := h.1
  have hL : L.size = r.size + 2 := by rw [← hLL, mk_size, fr_length, bl_size]
  have HLL := hid hLL
  have hLs : s.size + L.size ≤ 120 := by omega
  have hz : ¬ 9223372036854775807 < s.size + L.size := by omega
  clear hL hLL
  unfold dk
  have T := Two.new_ w s y
  go_enter Try.func24, Try.ntmps24
  go_wp2_with fail
  refine (specDiskValid_is true s y _ hs (decide_eq_true h)).mono ?_
  rintro e w2 ⟨rfl, hb2⟩
  have T2 := T.later hb2
  clear T hb2
  obtain ⟨r0, r1, r2, r3, r4, r5⟩ := T2.reads
  go_wp2_with (go_at_call 38; refine (l6In_yes _ _ _ _ (by omega) (by omega)).mono ?_; rintro e w' ⟨rfl, rfl⟩)
  go_region_held3 (fun w' => w'.cell? ⟨w.heap.size, 0, none⟩ = some (.string s) ∧ w'.cell? ⟨w.heap.size, 1, none⟩ = some (.int .i64 y)) (simp [*, go_sem])
    (first | (go_at_call 39; go_must (refine (l4Frame_val r L _ hf.2 HLL.out).mono ?_); rintro e w5 ⟨rfl, hb⟩; have T5 := T2.later (W' := w5) ⟨hb.os, hb.tape, hb.output, hb.size, hb.block⟩; obtain ⟨s0, s1, s2, s3, s4, s5⟩ := T5.reads))
  obtain ⟨tp, tb⟩ := T5.put (s ++ L) y
  obtain ⟨p0, p1, -⟩ := tp.reads
  go_wp2_with fail
  exact bodyPost_ret (v := .tuple #[dk (s ++ L) y, .bool true]) (by simp [results, Try.results24, go_sem, dk, p0, p1]) rfl ⟨rfl, tb⟩

theorem implLogAppend_any (s : ByteArray) (y : Int) (r : ByteArray) (w : World) (hs : s.size ≤ maxLen) (hr : r.size ≤ maxLen) : Calls Try.prog 23 #[dk s y, .string r] w (Ret (apO s y r) w) := by
  unfold apO
  by_cases h : Vd s y
  · by_cases hf : 1 ≤ r.size ∧ r.size ≤ 12
    · rw [if_pos ⟨h, hf⟩]
      by_cases h9 : s.size + r.size + 2 ≤ 120
      · rw [if_pos h9]; exact implLogAppend_yes s y r _ w h hf h9 rfl
      · rw [if_neg h9]; exact implLogAppend_full s y r w h hf h9
    · rw [if_neg (fun e => hf e.2)]; exact implLogAppend_rec s y r w h hr hf
  · rw [if_neg (fun e => h e.1)]; exact implLogAppend_bad s y r w hs h
theorem specLogAppend_any (s : ByteArray) (y : Int) (r : ByteArray) (w : World) (hs : s.size ≤ maxLen) (hr : r.size ≤ maxLen) : Calls Try.prog 24 #[dk s y, .string r] w (Ret (apO s y r) w) := by
  unfold apO
  by_cases h : Vd s y
  · by_cases hf : 1 ≤ r.size ∧ r.size ≤ 12
    · rw [if_pos ⟨h, hf⟩]
      by_cases h9 : s.size + r.size + 2 ≤ 120
      · rw [if_pos h9]; exact specLogAppend_yes s y r _ w h hf h9 rfl
      · rw [if_neg h9]; exact specLogAppend_full s y r w h hf h9
    · rw [if_neg (fun e => hf e.2)]; exact specLogAppend_rec s y r w h hr hf
  · rw [if_neg (fun e => h e.1)]; exact specLogAppend_bad s y r w hs h
end Go.Proofs.Ytclonfhpabdpgaa
