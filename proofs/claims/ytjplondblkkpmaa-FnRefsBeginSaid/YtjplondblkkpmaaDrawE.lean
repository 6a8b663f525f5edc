/- The coordinator with the slices $SA and $SB is stored as the answer, with the word $BB. -/
/- Laws on coordinators: a coordinator is boxed. -/
/- On to the world behind D. -/
/- An exact law begins: the argument's box, its size, a copy for the model. -/
/- The program's own copy of the argument is boxed. -/
/- The program's copy is as the argument; the region draws. -/
/- Laws on functions that answer numbers. -/
/- What the boxes hold is read again. -/
/- The coordinator with the slices P4 and P5 is boxed as P6, in block P7, behind it the world P3; ahead of region P1. -/
/- The draw, the program's answer, the model's, and that they are the same: behind it w5, all facts on it by way of dx. -/
/-
  Walks: what the laws on coordinators draw.
-/
import Derived.Test.YtjplondblkkpmaaDrawD
namespace Go.Proofs.Ytjplondblkkpmaa
open Go.RowKit Wo Pu Rf Co

set_option linter.unusedVariables false in
/-- A drawn coordinator. -/
def CrMade (w : World) (e : Ending) (w' : World) : Prop := ∃ v k, e = .returned v ∧ Crdd w' w'.heap.size v k ∧ SmC k ∧ Below w.heap.size w w'
set_option linter.unusedVariables false in
/-- .. and parts. -/
def CrPts (w : World) (e : Ending) (w' : World) : Prop := ∃ v k A c ps, e = .returned (.tuple #[v, .slice A (List.length ps) c]) ∧ Crdd w' w'.heap.size v k ∧ SmC k ∧ Parts w' w'.heap.size A ps ∧ ps.length ≤ 5 ∧ SmP ps ∧ ps.length ≤ c ∧ Below w.heap.size w w'
set_option linter.unusedVariables false in
/-- .. and a number. -/
def CrInt (w : World) (e : Ending) (w' : World) : Prop := ∃ v k t, e = .returned (.tuple #[v, .int .i64 t]) ∧ Crdd w' w'.heap.size v k ∧ SmC k ∧ Below w.heap.size w w'
set_option linter.unusedVariables false in
/-- .. and a number, where the coordinator is the call's own. -/
def CrIntO (w : World) (e : Ending) (w' : World) : Prop := ∃ v k t col B, e = .returned (.tuple #[v, .int .i64 t]) ∧ OwnCr col w' B v k ∧ SmC k ∧ Below w.heap.size w w'
set_option linter.unusedVariables false in
/-- .. and two. -/
def CrTwo (w : World) (e : Ending) (w' : World) : Prop := ∃ v k t s, e = .returned (.tuple #[v, .int .i64 t, .int .i64 s]) ∧ Crdd w' w'.heap.size v k ∧ SmC k ∧ Below w.heap.size w w'
set_option linter.unusedVariables false in
/-- .. and a vote. -/
def CrVot (w : World) (e : Ending) (w' : World) : Prop := ∃ v k t s b, e = .returned (.tuple #[v, .int .i64 t, .int .i64 s, .bool b]) ∧ Crdd w' w'.heap.size v k ∧ SmC k ∧ Below w.heap.size w w'
set_option linter.unusedVariables false in
def OfDrawn (R : Nat) (q : Int) (w : World) (e : Ending) (w' : World) : Prop := ∃ t : Int, e = .returned (.int .i64 t) ∧ Rd w' R (q + 3) ∧ But R w w'
set_option linter.unusedVariables false in
set_option linter.unusedSimpArgs false in
set_option maxHeartbeats 4000000 in
theorem l92Of_any (R : Nat) (q : Int) (v : Value) (k : Crd) (w : World) (hR : Rd w R q) (hq : q ≤ 600000000) (h : Crdd w w.heap.size v k) (hs : SmC k) :
    Calls Try.prog 69 #[.pointer (some ⟨R, 0, none⟩), v] w (OfDrawn R q w) := by
  obtain ⟨A, c, A2, c2, rfl, -, hc, -, -⟩ := h
  have hts := hs.ts
  unfold crV
  have hRl := hR.lt
  have al := (Below.refl w.heap.size w).alloc (Nat.le_refl _) (.cells #[.slice A k.ts.length c, .slice A2 k.os.length c2] 26)
  have x0 := Blk2s.new_ w 26 (.slice A k.ts.length c) (.slice A2 k.os.length c2)
  go_enter Try.func69, Try.ntmps69
  go_upto_region 1 with fail
  obtain ⟨w1, hw1⟩ : ∃ x, w.alloc (.cells #[.slice A k.ts.length c, .slice A2 k.os.length c2] 26) = x := ⟨_, rfl⟩
  rw [hw1] at al x0 ⊢
  clear hw1
  have R1 := hR.below al hRl
  have T1 : But R w w1 := .of_below al
  obtain ⟨y0, -⟩ := id x0.reads
  by_cases hmx : (1 : Int) ≤ (k.ts.length : Int)
  · go_wp2_with fail
    refine (pick_any R _ (k.ts.length : Int) w1 R1 (by omega) (by omega) (by omega)).mono ?_
    rintro e w3 ⟨d, rfl, d0, d1, R3, T3⟩
    go_wp2_with fail
    refine (pick_any R _ 20 w3 R3 (by omega) (by omega) (by omega)).mono ?_
    rintro e w4 ⟨d', rfl, d'0, d'1, R4, T4⟩
    go_wp2_with fail
    refine (pick_any R _ 20 w4 R4 (by omega) (by omega) (by omega)).mono ?_
    rintro e w5 ⟨d'', rfl, d''0, d''1, R5, T5⟩
    have T9 := ((T1.trans T3).trans T4).trans T5
    clear R3 R4 T3 T4 T5 y0
    go_wp2
    go_ret
    exact ⟨_, rfl, R5.more (by omega), T9⟩
  · go_wp2_with fail
    refine (pick_any R _ 1 w1 R1 (by omega) (by omega) (by omega)).mono ?_
    rintro e w3 ⟨d, rfl, d0, d1, R3, T3⟩
    go_wp2_with fail
    refine (pick_any R _ 20 w3 R3 (by omega) (by omega) (by omega)).mono ?_
    rintro e w4 ⟨d', rfl, d'0, d'1, R4, T4⟩
    go_wp2_with fail
    refine (pick_any R _ 20 w4 R4 (by omega) (by omega) (by omega)).mono ?_
    rintro e w5 ⟨d'', rfl, d''0, d''1, R5, T5⟩
    have T9 := ((T1.trans T3).trans T4).trans T5
    clear R3 R4 T3 T4 T5 y0
    go_wp2
    go_ret
    exact ⟨_, rfl, R5.more (by omega), T9⟩
/- The end: the result's box has been filled in the world W, where O9 tells of the coordinator. -/
/- The drawn coordinator is laid into a box, xs; then region II. -/
/- The region begins; the box xs is what it reads. -/
/- The store into the result's box. -/
set_option linter.unusedSimpArgs false in
set_option linter.unusedVariables false in
set_option maxRecDepth 100000 in
set_option maxHeartbeats 4000000 in
theorem DrawCoordinatorTimeout_own (A : Option Addr) (c : Nat) (bs : List Int) (w : World) (h : Code_ w A c bs) :
    Calls Try.prog 43 #[.slice A bs.length c] w (CrIntO w) := by
  have al := (Below.refl w.heap.size w).alloc (Nat.le_refl _) (.cells #[.slice none 0 0, .slice none 0 0] 26)
  have x0 := Blk2s.new_ w 26 (.slice none 0 0) (.slice none 0 0)
  obtain ⟨w0, hw0⟩ : ∃ w0, w.alloc (.cells #[.slice none 0 0, .slice none 0 0] 26) = w0 := ⟨_, rfl⟩
  have h0 := h.below al
  rw [hw0] at al x0 h0
  go_enter Try.func43, Try.ntmps43
  go_wp2_with fail
  clear hw0
  refine (l6Open_any A c bs w0 h0).mono ?_
  rintro e w1 ⟨rfl, R1, b1⟩
  have hwz : w.heap.size < w0.heap.size := x0.lt
  replace x0 := x0.later b1
  replace al := al.trans (b1.mono al.size)
  go_wp2_with fail
  refine (l92Coordinator_any w0.heap.size 0 w1 R1 (by omega)).mono ?_
  rintro e w2 ⟨v, k, col, rfl, O2, hs, R2, T2⟩
  obtain ⟨Aa, ca, Ab, cb, rfl, -⟩ := O2.form
  unfold crV at *
  replace x0 := x0.but_ T2 (by omega)
  have b2 := al.trans (T2.below (B := w.heap.size) al.size (by omega))
  have HS := hid hs
  have z1 := al.size
  have hD := R1.lt
  clear al b1 h0 T2 R1 hs
  have al2 := (Below.refl w2.heap.size w2).alloc (Nat.le_refl _) (.cells #[.slice Aa k.ts.length ca, .slice Ab k.os.length cb] 26)
  have xs := Blk2s.new_ w2 26 (.slice Aa k.ts.length ca) (.slice Ab k.os.length cb)
  go_upto_region 3 with fail
  obtain ⟨w3, hw3⟩ : ∃ w3, w2.alloc (.cells #[.slice Aa k.ts.length ca, .slice Ab k.os.length cb] 26) = w3 := ⟨_, rfl⟩
  obtain ⟨gs, hgs⟩ : ∃ x, w2.heap.size = x := ⟨_, rfl⟩
  obtain ⟨gr, hgr⟩ : ∃ x, w0.heap.size = x := ⟨_, rfl⟩
  have hgsw : w0.heap.size < w2.heap.size := R2.lt
  rw [hw3] at al2 xs ⊢
  rw [hgs] at xs hgsw ⊢
  replace x0 := x0.later al2
  replace O2 := O2.below al2
  replace b2 := b2.trans (al2.mono b2.size)
  replace R2 := R2.below al2 R2.lt
  rw [hgr] at R2 hgsw hwz ⊢
  have hDr : gr < w1.heap.size := by rw [← hgr]; exact hD
  clear al2 hw3 hgs hgr hD
  refine wp_region_held_drew (S := fun x => x.cell? ⟨gs, 0, none⟩ = some (.slice Aa k.ts.length ca) ∧ x.cell? ⟨gs, 1, none⟩ = some (.slice Ab k.os.length cb)) (by kernel_rfl) ⟨(xs.later (Below.refl _ _).drew).reads.1, (xs.later (Below.refl _ _).drew).reads.2.1⟩ (fun hHeld => ?_)
  have Bd := (Below.refl (w3).heap.size w3).drew
  replace xs := xs.later Bd
  replace x0 := x0.later Bd
  replace O2 := O2.below Bd
  replace b2 := b2.trans (Bd.mono b2.size)
  replace R2 := R2.below Bd R2.lt
  obtain ⟨W, hW⟩ : ∃ x, (w3).drew = x := ⟨_, rfl⟩
  rw [hW] at xs x0 O2 b2 R2 hHeld ⊢
  clear hW Bd
  try simp only [Act.put, List.getElem_toArray, List.getElem_cons_succ, List.getElem_cons_zero, List.setIfInBounds_toArray, List.set_cons_zero, List.set_cons_succ]
  refine wpAnyH_take (i := 0) (oi := _) (v := ?_) rfl (by kernel_rfl) (by kernel_rfl) (by kernel_rfl) (fun _ _ _ h => h) (Or.inl ⟨by rfl, ?_⟩) hHeld ?_
  rotate_left
  · (intro w' hSw; (try dsimp only at hSw); go_simp <;> with_reducible rfl)
  try simp only [Act.put, List.getElem_toArray, List.getElem_cons_succ, List.getElem_cons_zero, List.setIfInBounds_toArray, List.set_cons_zero, List.set_cons_succ]
  refine wpAnyH_take (i := 1) (oi := _) (v := ?_) rfl (by kernel_rfl) (by kernel_rfl) (by kernel_rfl) (fun _ _ _ h => h) (Or.inl ⟨by rfl, ?_⟩) hHeld ?_
  rotate_left
  · (intro w' hSw; (try dsimp only at hSw); go_simp <;> with_reducible rfl)
  try simp only [Act.put, List.getElem_toArray, List.getElem_cons_succ, List.getElem_cons_zero, List.setIfInBounds_toArray, List.set_cons_zero, List.set_cons_succ]
  refine wpAnyH_take (i := 2) (oi := _) (v := ?_) rfl (by kernel_rfl) (by kernel_rfl) (by kernel_rfl) (fun _ _ _ h => h) (Or.inl ⟨by rfl, ?_⟩) hHeld ?_
  rotate_left
  · (intro w' hSw; (try dsimp only at hSw); go_simp <;> with_reducible rfl)
  try simp only [Act.put, List.getElem_toArray, List.getElem_cons_succ, List.getElem_cons_zero, List.setIfInBounds_toArray, List.set_cons_zero, List.set_cons_succ]
  refine wpAnyH_ready (rs := [3]) (by kernel_rfl) (by simp) (AllReadyH.cons (o := _) rfl (fun K hK => ?_) AllReadyH.nil)
  try simp only [Act.put, List.getElem_toArray, List.getElem_cons_succ, List.getElem_cons_zero, List.setIfInBounds_toArray, List.set_cons_zero, List.set_cons_succ]
  go_simp
  go_at_call 69
  refine (l92Of_any gr _ _ k W R2 (by omega) O2.crd HS.out).mono ?_
  rintro e W ⟨t, rfl, R6, T6⟩
  replace xs := xs.but_ T6 (by omega)
  replace x0 := x0.but_ T6 (by omega)
  replace O2 := O2.but T6 hDr
  replace b2 := b2.trans (T6.below (B := w.heap.size) b2.size (by omega))
  replace R2 := R6
  clear R6 T6
  refine hK.out _ _ ⟨xs.reads.1, xs.reads.2.1⟩ (fun hHeld => ?_)
  clear hK K
  try simp only [Act.put, List.getElem_toArray, List.getElem_cons_succ, List.getElem_cons_zero, List.setIfInBounds_toArray, List.set_cons_zero, List.set_cons_succ]
  obtain ⟨t0, t1, tf⟩ := id x0.reads
  have tf0 := tf 0
  have tf1 := tf 1
  clear tf
  obtain ⟨p0, p1, -⟩ := ((x0.set0 (.slice Aa k.ts.length ca)).set1 (.slice Ab k.os.length cb)).reads
  have O9 := (O2.keptT (by decide) (by decide) (by decide) (by decide) (but_set W w.heap.size 0 (.slice Aa k.ts.length ca)) (blk_type x0)).keptT (by decide) (by decide) (by decide) (by decide) (but_set _ w.heap.size 1 (.slice Ab k.os.length cb)) (blk_type (x0.set0 (.slice Aa k.ts.length ca)))
  have b9 := (b2.setCell (p := ⟨w.heap.size, 0, none⟩) (Nat.le_refl _) (.slice Aa k.ts.length ca)).setCell (p := ⟨w.heap.size, 1, none⟩) (Nat.le_refl _) (.slice Ab k.os.length cb)
  have xs9 := (xs.far (p := ⟨w.heap.size, 0, none⟩) (by show gs ≠ w.heap.size; omega) (.slice Aa k.ts.length ca)).far (p := ⟨w.heap.size, 1, none⟩) (by show gs ≠ w.heap.size; omega) (.slice Ab k.os.length cb)
  refine wpAnyH_ready (rs := [4]) (by kernel_rfl) (by simp) (AllReadyH.cons (o := _) rfl (fun K hK => ?_) AllReadyH.nil)
  try simp only [Act.put, List.getElem_toArray, List.getElem_cons_succ, List.getElem_cons_zero, List.setIfInBounds_toArray, List.set_cons_zero, List.set_cons_succ]
  go_simp
  refine hK.out _ _ ⟨xs9.reads.1, xs9.reads.2.1⟩ (fun hHeld => ?_)
  clear hK K
  try simp only [Act.put, List.getElem_toArray, List.getElem_cons_succ, List.getElem_cons_zero, List.setIfInBounds_toArray, List.set_cons_zero, List.set_cons_succ]
  refine wpAnyH_take (i := 5) (oi := _) (v := ?_) rfl (by kernel_rfl) (by kernel_rfl) (by kernel_rfl) (fun _ _ _ h => h) (Or.inl ⟨by rfl, ?_⟩) hHeld ?_
  rotate_left
  · (intro w' hSw; (try dsimp only at hSw); go_simp <;> with_reducible rfl)
  try simp only [Act.put, List.getElem_toArray, List.getElem_cons_succ, List.getElem_cons_zero, List.setIfInBounds_toArray, List.set_cons_zero, List.set_cons_succ]
  refine wpAnyH_done (by kernel_rfl) ?_ _
  clear hHeld t0 t1 tf0 tf1 xs9
  go_wp2
  exact bodyPost_ret (v := .tuple #[.agg #[.slice Aa k.ts.length ca, .slice Ab k.os.length cb], .int .i64 t]) (by simp [results, Try.results43, go_sem, p0, p1]) rfl ⟨_, k, t, _, _, rfl, O9, HS.out, b9⟩
theorem DrawCoordinatorTimeout_any (A : Option Addr) (c : Nat) (bs : List Int) (w : World) (h : Code_ w A c bs) :
    Calls Try.prog 43 #[.slice A bs.length c] w (CrInt w) :=
  (DrawCoordinatorTimeout_own A c bs w h).mono fun _ _ ⟨v, k, t, _, _, he, ho, hs, hb⟩ => ⟨v, k, t, he, ho.crd, hs, hb⟩
set_option linter.unusedSimpArgs false in
set_option linter.unusedVariables false in
set_option maxRecDepth 100000 in
set_option maxHeartbeats 8000000 in
theorem DrawCoordinatorRefs_any (A : Option Addr) (c : Nat) (bs : List Int) (w : World) (h : Code_ w A c bs) :
    Calls Try.prog 11 #[.slice A bs.length c] w (CrTwo w) := by
  have al := (Below.refl w.heap.size w).alloc (Nat.le_refl _) (.cells #[.slice none 0 0, .slice none 0 0] 26)
  have x0 := Blk2s.new_ w 26 (.slice none 0 0) (.slice none 0 0)
  obtain ⟨w0, hw0⟩ : ∃ w0, w.alloc (.cells #[.slice none 0 0, .slice none 0 0] 26) = w0 := ⟨_, rfl⟩
  have h0 := h.below al
  rw [hw0] at al x0 h0
  go_enter Try.func11, Try.ntmps11
  go_wp2_with fail
  clear hw0
  refine (l6Open_any A c bs w0 h0).mono ?_
  rintro e w1 ⟨rfl, R1, b1⟩
  have hwz : w.heap.size < w0.heap.size := x0.lt
  replace x0 := x0.later b1
  replace al := al.trans (b1.mono al.size)
  go_wp2_with fail
  refine (l92Coordinator_any w0.heap.size 0 w1 R1 (by omega)).mono ?_
  rintro e w2 ⟨v, k, col, rfl, O2, hs, R2, T2⟩
  obtain ⟨Aa, ca, Ab, cb, rfl, -⟩ := O2.form
  unfold crV at *
  replace x0 := x0.but_ T2 (by omega)
  have b2 := al.trans (T2.below (B := w.heap.size) al.size (by omega))
  have HS := hid hs
  have z1 := al.size
  have hD := R1.lt
  clear al b1 h0 T2 R1 hs
  have al2 := (Below.refl w2.heap.size w2).alloc (Nat.le_refl _) (.cells #[.slice Aa k.ts.length ca, .slice Ab k.os.length cb] 26)
  have xs := Blk2s.new_ w2 26 (.slice Aa k.ts.length ca) (.slice Ab k.os.length cb)
  go_upto_region 3 with fail
  obtain ⟨w3, hw3⟩ : ∃ w3, w2.alloc (.cells #[.slice Aa k.ts.length ca, .slice Ab k.os.length cb] 26) = w3 := ⟨_, rfl⟩
  obtain ⟨gs, hgs⟩ : ∃ x, w2.heap.size = x := ⟨_, rfl⟩
  obtain ⟨gr, hgr⟩ : ∃ x, w0.heap.size = x := ⟨_, rfl⟩
  have hgsw : w0.heap.size < w2.heap.size := R2.lt
  rw [hw3] at al2 xs ⊢
  rw [hgs] at xs hgsw ⊢
  replace x0 := x0.later al2
  replace O2 := O2.below al2
  replace b2 := b2.trans (al2.mono b2.size)
  replace R2 := R2.below al2 R2.lt
  rw [hgr] at R2 hgsw hwz ⊢
  have hDr : gr < w1.heap.size := by rw [← hgr]; exact hD
  clear al2 hw3 hgs hgr hD
  have hol := HS.out.os
  have q9 : IntKind.i64.wrap ((k.os.length : Int) + 1) = (k.os.length : Int) + 1 := IntWalk.i64_in _ (by omega)
  refine wp_region_held_drew (S := fun x => x.cell? ⟨gs, 0, none⟩ = some (.slice Aa k.ts.length ca) ∧ x.cell? ⟨gs, 1, none⟩ = some (.slice Ab k.os.length cb)) (by kernel_rfl) ⟨(xs.later (Below.refl _ _).drew).reads.1, (xs.later (Below.refl _ _).drew).reads.2.1⟩ (fun hHeld => ?_)
  have Bd := (Below.refl (w3).heap.size w3).drew
  replace xs := xs.later Bd
  replace x0 := x0.later Bd
  replace O2 := O2.below Bd
  replace b2 := b2.trans (Bd.mono b2.size)
  replace R2 := R2.below Bd R2.lt
  obtain ⟨W, hW⟩ : ∃ x, (w3).drew = x := ⟨_, rfl⟩
  rw [hW] at xs x0 O2 b2 R2 hHeld ⊢
  clear hW Bd
  try simp only [Act.put, List.getElem_toArray, List.getElem_cons_succ, List.getElem_cons_zero, List.setIfInBounds_toArray, List.set_cons_zero, List.set_cons_succ]
  refine wpAnyH_take (i := 0) (oi := _) (v := ?_) rfl (by kernel_rfl) (by kernel_rfl) (by kernel_rfl) (fun _ _ _ h => h) (Or.inl ⟨by rfl, ?_⟩) hHeld ?_
  rotate_left
  · (intro w' hSw; (try dsimp only at hSw); go_simp <;> with_reducible rfl)
  try simp only [Act.put, List.getElem_toArray, List.getElem_cons_succ, List.getElem_cons_zero, List.setIfInBounds_toArray, List.set_cons_zero, List.set_cons_succ]
  refine wpAnyH_take (i := 1) (oi := _) (v := ?_) rfl (by kernel_rfl) (by kernel_rfl) (by kernel_rfl) (fun _ _ _ h => h) (Or.inl ⟨by rfl, ?_⟩) hHeld ?_
  rotate_left
  · (intro w' hSw; (try dsimp only at hSw); go_simp <;> with_reducible rfl)
  try simp only [Act.put, List.getElem_toArray, List.getElem_cons_succ, List.getElem_cons_zero, List.setIfInBounds_toArray, List.set_cons_zero, List.set_cons_succ]
  refine wpAnyH_take (i := 3) (oi := _) (v := ?_) rfl (by kernel_rfl) (by kernel_rfl) (by kernel_rfl) (fun _ _ _ h => h) (Or.inl ⟨by rfl, ?_⟩) hHeld ?_
  rotate_left
  · (intro w' hSw; (try dsimp only at hSw); go_simp <;> with_reducible rfl)
  try simp only [Act.put, List.getElem_toArray, List.getElem_cons_succ, List.getElem_cons_zero, List.setIfInBounds_toArray, List.set_cons_zero, List.set_cons_succ]
  refine wpAnyH_take (i := 7) (oi := _) (v := ?_) rfl (by kernel_rfl) (by kernel_rfl) (by kernel_rfl) (fun _ _ _ h => h) (Or.inl ⟨by rfl, ?_⟩) hHeld ?_
  rotate_left
  · (intro w' hSw; (try dsimp only at hSw); go_simp <;> with_reducible rfl)
  try simp only [Act.put, List.getElem_toArray, List.getElem_cons_succ, List.getElem_cons_zero, List.setIfInBounds_toArray, List.set_cons_zero, List.set_cons_succ]
  refine wpAnyH_take (i := 12) (oi := _) (v := ?_) rfl (by kernel_rfl) (by kernel_rfl) (by kernel_rfl) (fun _ _ _ h => h) (Or.inl ⟨by rfl, ?_⟩) hHeld ?_
  rotate_left
  · (intro w' hSw; (try dsimp only at hSw); go_simp <;> with_reducible rfl)
  try simp only [Act.put, List.getElem_toArray, List.getElem_cons_succ, List.getElem_cons_zero, List.setIfInBounds_toArray, List.set_cons_zero, List.set_cons_succ]
  refine wpAnyH_take (i := 13) (oi := _) (v := ?_) rfl (by kernel_rfl) (by kernel_rfl) (by kernel_rfl) (fun _ _ _ h => h) (Or.inl ⟨by rfl, ?_⟩) hHeld ?_
  rotate_left
  · (intro w' hSw; (try dsimp only at hSw); go_simp <;> with_reducible rfl)
  try simp only [Act.put, List.getElem_toArray, List.getElem_cons_succ, List.getElem_cons_zero, List.setIfInBounds_toArray, List.set_cons_zero, List.set_cons_succ]
  refine wpAnyH_take (i := 14) (oi := _) (v := ?_) rfl (by kernel_rfl) (by kernel_rfl) (by kernel_rfl) (fun _ _ _ h => h) (Or.inl ⟨by rfl, ?_⟩) hHeld ?_
  rotate_left
  · (intro w' hSw; (try dsimp only at hSw); go_simp <;> with_reducible rfl)
  try simp only [Act.put, List.getElem_toArray, List.getElem_cons_succ, List.getElem_cons_zero, List.setIfInBounds_toArray, List.set_cons_zero, List.set_cons_succ]
  refine wpAnyH_take (i := 15) (oi := _) (v := ?_) rfl (by kernel_rfl) (by kernel_rfl) (by kernel_rfl) (fun _ _ _ h => h) (Or.inl ⟨by rfl, ?_⟩) hHeld ?_
  rotate_left
  · (intro w' hSw; (try dsimp only at hSw); go_simp <;> with_reducible rfl)
  try simp only [Act.put, List.getElem_toArray, List.getElem_cons_succ, List.getElem_cons_zero, List.setIfInBounds_toArray, List.set_cons_zero, List.set_cons_succ]
  refine wpAnyH_take (i := 16) (oi := _) (v := ?_) rfl (by kernel_rfl) (by kernel_rfl) (by kernel_rfl) (fun _ _ _ h => h) (Or.inl ⟨by rfl, ?_⟩) hHeld ?_
  rotate_left
  · (intro w' hSw; (try dsimp only at hSw); go_simp <;> with_reducible rfl)
  try simp only [Act.put, List.getElem_toArray, List.getElem_cons_succ, List.getElem_cons_zero, List.setIfInBounds_toArray, List.set_cons_zero, List.set_cons_succ]
  refine wpAnyH_take (i := 18) (oi := _) (v := ?_) rfl (by kernel_rfl) (by kernel_rfl) (by kernel_rfl) (fun _ _ _ h => h) (Or.inl ⟨by rfl, ?_⟩) hHeld ?_
  rotate_left
  · (intro w' hSw; (try dsimp only at hSw); go_simp <;> with_reducible rfl)
  try simp only [Act.put, List.getElem_toArray, List.getElem_cons_succ, List.getElem_cons_zero, List.setIfInBounds_toArray, List.set_cons_zero, List.set_cons_succ]
  refine wpAnyH_ready (rs := [2]) (by kernel_rfl) (by simp) (AllReadyH.cons (o := _) rfl (fun K hK => ?_) AllReadyH.nil)
  try simp only [Act.put, List.getElem_toArray, List.getElem_cons_succ, List.getElem_cons_zero, List.setIfInBounds_toArray, List.set_cons_zero, List.set_cons_succ]
  go_simp
  go_at_call 34
  refine (pick_any gr _ 3 W R2 (by omega) (by omega) (by omega)).mono ?_
  rintro e W ⟨d1, rfl, d10, d11, R6, T6⟩
  replace xs := xs.but_ T6 (by omega)
  replace x0 := x0.but_ T6 (by omega)
  replace O2 := O2.but T6 hDr
  replace b2 := b2.trans (T6.below (B := w.heap.size) b2.size (by omega))
  replace R2 := R6
  clear R6 T6
  refine hK.out _ _ ⟨xs.reads.1, xs.reads.2.1⟩ (fun hHeld => ?_)
  clear hK K
  try simp only [Act.put, List.getElem_toArray, List.getElem_cons_succ, List.getElem_cons_zero, List.setIfInBounds_toArray, List.set_cons_zero, List.set_cons_succ]
  refine wpAnyH_ready (rs := [4]) (by kernel_rfl) (by simp) (AllReadyH.cons (o := _) rfl (fun K hK => ?_) AllReadyH.nil)
  try simp only [Act.put, List.getElem_toArray, List.getElem_cons_succ, List.getElem_cons_zero, List.setIfInBounds_toArray, List.set_cons_zero, List.set_cons_succ]
  go_simp
  go_at_call 34
  refine (pick_any gr _ 20 W R2 (by omega) (by omega) (by omega)).mono ?_
  rintro e W ⟨d2, rfl, d20, d21, R6, T6⟩
  replace xs := xs.but_ T6 (by omega)
  replace x0 := x0.but_ T6 (by omega)
  replace O2 := O2.but T6 hDr
  replace b2 := b2.trans (T6.below (B := w.heap.size) b2.size (by omega))
  replace R2 := R6
  clear R6 T6
  refine hK.out _ _ ⟨xs.reads.1, xs.reads.2.1⟩ (fun hHeld => ?_)
  clear hK K
  try simp only [Act.put, List.getElem_toArray, List.getElem_cons_succ, List.getElem_cons_zero, List.setIfInBounds_toArray, List.set_cons_zero, List.set_cons_succ]
  refine wpAnyH_take (i := 5) (oi := _) (v := ?_) rfl (by kernel_rfl) (by kernel_rfl) (by kernel_rfl) (fun _ _ _ h => h) (Or.inl ⟨by rfl, ?_⟩) hHeld ?_
  rotate_left
  · (intro w' hSw; (try dsimp only at hSw); go_simp <;> with_reducible rfl)
  try simp only [Act.put, List.getElem_toArray, List.getElem_cons_succ, List.getElem_cons_zero, List.setIfInBounds_toArray, List.set_cons_zero, List.set_cons_succ]
  refine wpAnyH_take (i := 6) (oi := _) (v := ?_) rfl (by kernel_rfl) (by kernel_rfl) (by kernel_rfl) (fun _ _ _ h => h) (Or.inl ⟨by rfl, ?_⟩) hHeld ?_
  rotate_left
  · (intro w' hSw; (try dsimp only at hSw); go_simp <;> with_reducible rfl)
  try simp only [Act.put, List.getElem_toArray, List.getElem_cons_succ, List.getElem_cons_zero, List.setIfInBounds_toArray, List.set_cons_zero, List.set_cons_succ]
  refine wpAnyH_ready (rs := [8]) (by kernel_rfl) (by simp) (AllReadyH.cons (o := _) rfl (fun K hK => ?_) AllReadyH.nil)
  try simp only [Act.put, List.getElem_toArray, List.getElem_cons_succ, List.getElem_cons_zero, List.setIfInBounds_toArray, List.set_cons_zero, List.set_cons_succ]
  go_simp
  go_at_call 34
  refine (pick_any gr _ 20 W R2 (by omega) (by omega) (by omega)).mono ?_
  rintro e W ⟨d3, rfl, d30, d31, R6, T6⟩
  replace xs := xs.but_ T6 (by omega)
  replace x0 := x0.but_ T6 (by omega)
  replace O2 := O2.but T6 hDr
  replace b2 := b2.trans (T6.below (B := w.heap.size) b2.size (by omega))
  replace R2 := R6
  clear R6 T6
  refine hK.out _ _ ⟨xs.reads.1, xs.reads.2.1⟩ (fun hHeld => ?_)
  clear hK K
  try simp only [Act.put, List.getElem_toArray, List.getElem_cons_succ, List.getElem_cons_zero, List.setIfInBounds_toArray, List.set_cons_zero, List.set_cons_succ]
  refine wpAnyH_take (i := 9) (oi := _) (v := ?_) rfl (by kernel_rfl) (by kernel_rfl) (by kernel_rfl) (fun _ _ _ h => h) (Or.inl ⟨by rfl, ?_⟩) hHeld ?_
  rotate_left
  · (intro w' hSw; (try dsimp only at hSw); go_simp <;> with_reducible rfl)
  try simp only [Act.put, List.getElem_toArray, List.getElem_cons_succ, List.getElem_cons_zero, List.setIfInBounds_toArray, List.set_cons_zero, List.set_cons_succ]
  refine wpAnyH_take (i := 10) (oi := _) (v := ?_) rfl (by kernel_rfl) (by kernel_rfl) (by kernel_rfl) (fun _ _ _ h => h) (Or.inl ⟨by rfl, ?_⟩) hHeld ?_
  rotate_left
  · (intro w' hSw; (try dsimp only at hSw); go_simp <;> with_reducible rfl)
  try simp only [Act.put, List.getElem_toArray, List.getElem_cons_succ, List.getElem_cons_zero, List.setIfInBounds_toArray, List.set_cons_zero, List.set_cons_succ]
  refine wpAnyH_take (i := 11) (oi := _) (v := ?_) rfl (by kernel_rfl) (by kernel_rfl) (by kernel_rfl) (fun _ _ _ h => h) (Or.inl ⟨by rfl, ?_⟩) hHeld ?_
  rotate_left
  · (intro w' hSw; (try dsimp only at hSw); go_simp <;> with_reducible rfl)
  try simp only [Act.put, List.getElem_toArray, List.getElem_cons_succ, List.getElem_cons_zero, List.setIfInBounds_toArray, List.set_cons_zero, List.set_cons_succ]
  refine wpAnyH_ready (rs := [17]) (by kernel_rfl) (by simp) (AllReadyH.cons (o := _) rfl (fun K hK => ?_) AllReadyH.nil)
  try simp only [Act.put, List.getElem_toArray, List.getElem_cons_succ, List.getElem_cons_zero, List.setIfInBounds_toArray, List.set_cons_zero, List.set_cons_succ]
  go_simp
  go_at_call 34
  refine (pick_any gr _ ((k.os.length : Int) + 1) W R2 (by omega) (by omega) (by omega)).mono ?_
  rintro e W ⟨d4, rfl, d40, d41, R6, T6⟩
  replace xs := xs.but_ T6 (by omega)
  replace x0 := x0.but_ T6 (by omega)
  replace O2 := O2.but T6 hDr
  replace b2 := b2.trans (T6.below (B := w.heap.size) b2.size (by omega))
  replace R2 := R6
  clear R6 T6
  refine hK.out _ _ ⟨xs.reads.1, xs.reads.2.1⟩ (fun hHeld => ?_)
  clear hK K
  try simp only [Act.put, List.getElem_toArray, List.getElem_cons_succ, List.getElem_cons_zero, List.setIfInBounds_toArray, List.set_cons_zero, List.set_cons_succ]
  refine wpAnyH_ready (rs := [19]) (by kernel_rfl) (by simp) (AllReadyH.cons (o := _) rfl (fun K hK => ?_) AllReadyH.nil)
  try simp only [Act.put, List.getElem_toArray, List.getElem_cons_succ, List.getElem_cons_zero, List.setIfInBounds_toArray, List.set_cons_zero, List.set_cons_succ]
  go_simp
  go_at_call 34
  refine (pick_any gr _ 16 W R2 (by omega) (by omega) (by omega)).mono ?_
  rintro e W ⟨d5, rfl, d50, d51, R6, T6⟩
  replace xs := xs.but_ T6 (by omega)
  replace x0 := x0.but_ T6 (by omega)
  replace O2 := O2.but T6 hDr
  replace b2 := b2.trans (T6.below (B := w.heap.size) b2.size (by omega))
  replace R2 := R6
  clear R6 T6
  refine hK.out _ _ ⟨xs.reads.1, xs.reads.2.1⟩ (fun hHeld => ?_)
  clear hK K
  try simp only [Act.put, List.getElem_toArray, List.getElem_cons_succ, List.getElem_cons_zero, List.setIfInBounds_toArray, List.set_cons_zero, List.set_cons_succ]
  refine wpAnyH_take (i := 20) (oi := _) (v := ?_) rfl (by kernel_rfl) (by kernel_rfl) (by kernel_rfl) (fun _ _ _ h => h) (Or.inl ⟨by rfl, ?_⟩) hHeld ?_
  rotate_left
  · (intro w' hSw; (try dsimp only at hSw); go_simp <;> with_reducible rfl)
  try simp only [Act.put, List.getElem_toArray, List.getElem_cons_succ, List.getElem_cons_zero, List.setIfInBounds_toArray, List.set_cons_zero, List.set_cons_succ]
  refine wpAnyH_take (i := 21) (oi := _) (v := ?_) rfl (by kernel_rfl) (by kernel_rfl) (by kernel_rfl) (fun _ _ _ h => h) (Or.inl ⟨by rfl, ?_⟩) hHeld ?_
  rotate_left
  · (intro w' hSw; (try dsimp only at hSw); go_simp <;> with_reducible rfl)
  try simp only [Act.put, List.getElem_toArray, List.getElem_cons_succ, List.getElem_cons_zero, List.setIfInBounds_toArray, List.set_cons_zero, List.set_cons_succ]
  obtain ⟨t0, t1, tf⟩ := id x0.reads
  have tf0 := tf 0
  have tf1 := tf 1
  clear tf
  obtain ⟨p0, p1, -⟩ := ((x0.set0 (.slice Aa k.ts.length ca)).set1 (.slice Ab k.os.length cb)).reads
  have O9 := (O2.keptT (by decide) (by decide) (by decide) (by decide) (but_set W w.heap.size 0 (.slice Aa k.ts.length ca)) (blk_type x0)).keptT (by decide) (by decide) (by decide) (by decide) (but_set _ w.heap.size 1 (.slice Ab k.os.length cb)) (blk_type (x0.set0 (.slice Aa k.ts.length ca)))
  have b9 := (b2.setCell (p := ⟨w.heap.size, 0, none⟩) (Nat.le_refl _) (.slice Aa k.ts.length ca)).setCell (p := ⟨w.heap.size, 1, none⟩) (Nat.le_refl _) (.slice Ab k.os.length cb)
  have xs9 := (xs.far (p := ⟨w.heap.size, 0, none⟩) (by show gs ≠ w.heap.size; omega) (.slice Aa k.ts.length ca)).far (p := ⟨w.heap.size, 1, none⟩) (by show gs ≠ w.heap.size; omega) (.slice Ab k.os.length cb)
  refine wpAnyH_ready (rs := [22]) (by kernel_rfl) (by simp) (AllReadyH.cons (o := _) rfl (fun K hK => ?_) AllReadyH.nil)
  try simp only [Act.put, List.getElem_toArray, List.getElem_cons_succ, List.getElem_cons_zero, List.setIfInBounds_toArray, List.set_cons_zero, List.set_cons_succ]
  go_simp
  refine hK.out _ _ ⟨xs9.reads.1, xs9.reads.2.1⟩ (fun hHeld => ?_)
  clear hK K
  try simp only [Act.put, List.getElem_toArray, List.getElem_cons_succ, List.getElem_cons_zero, List.setIfInBounds_toArray, List.set_cons_zero, List.set_cons_succ]
  refine wpAnyH_take (i := 23) (oi := _) (v := ?_) rfl (by kernel_rfl) (by kernel_rfl) (by kernel_rfl) (fun _ _ _ h => h) (Or.inl ⟨by rfl, ?_⟩) hHeld ?_
  rotate_left
  · (intro w' hSw; (try dsimp only at hSw); go_simp <;> with_reducible rfl)
  try simp only [Act.put, List.getElem_toArray, List.getElem_cons_succ, List.getElem_cons_zero, List.setIfInBounds_toArray, List.set_cons_zero, List.set_cons_succ]
  refine wpAnyH_take (i := 24) (oi := _) (v := ?_) rfl (by kernel_rfl) (by kernel_rfl) (by kernel_rfl) (fun _ _ _ h => h) (Or.inl ⟨by rfl, ?_⟩) hHeld ?_
  rotate_left
  · (intro w' hSw; (try dsimp only at hSw); go_simp <;> with_reducible rfl)
  try simp only [Act.put, List.getElem_toArray, List.getElem_cons_succ, List.getElem_cons_zero, List.setIfInBounds_toArray, List.set_cons_zero, List.set_cons_succ]
  refine wpAnyH_done (by kernel_rfl) ?_ _
  clear hHeld t0 t1 tf0 tf1 xs9
  go_wp2
  refine bodyPost_ret (v := .tuple #[.agg #[.slice Aa k.ts.length ca, .slice Ab k.os.length cb], _, _]) (by simp [results, Try.results11, go_sem, p0, p1]; first | done | exact ⟨rfl, rfl⟩) rfl ⟨_, k, _, _, rfl, O9.crd, HS.out, b9⟩
set_option linter.unusedVariables false in
set_option linter.unusedSimpArgs false in
set_option maxHeartbeats 4000000 in
theorem DrawSnapshotFirst_any (A : Option Addr) (c : Nat) (bs : List Int) (w : World) (h : Code_ w A c bs) :
    Calls Try.prog 16 #[.slice A bs.length c] w (CrInt w) := by
  have al := (Below.refl w.heap.size w).alloc (Nat.le_refl _) (.cells #[.slice none 0 0, .slice none 0 0] 26)
  have x0 := Blk2s.new_ w 26 (.slice none 0 0) (.slice none 0 0)
  obtain ⟨w0, hw0⟩ : ∃ w0, w.alloc (.cells #[.slice none 0 0, .slice none 0 0] 26) = w0 := ⟨_, rfl⟩
  have h0 := h.below al
  rw [hw0] at al x0 h0
  go_enter Try.func16, Try.ntmps16
  go_wp2_with fail
  clear hw0
  refine (DrawCoordinatorTimeout_own A c bs w0 h0).mono ?_
  rintro e w2 ⟨v, k, t, col, B, rfl, O2, hs, d⟩
  obtain ⟨Aa, ca, Ab, cb, rfl, -⟩ := O2.form
  unfold crV at *
  replace x0 := x0.later d
  have b2 := al.trans (d.mono al.size)
  have HS := hid hs
  clear al d h0 hs
  obtain ⟨t0, t1, tf⟩ := id x0.reads
  have tf0 := tf 0
  have tf1 := tf 1
  clear tf
  obtain ⟨p0, p1, -⟩ := ((x0.set0 (.slice Aa k.ts.length ca)).set1 (.slice Ab k.os.length cb)).reads
  have O9 := (O2.keptT (by decide) (by decide) (by decide) (by decide) (but_set w2 w.heap.size 0 (.slice Aa k.ts.length ca)) (blk_type x0)).keptT (by decide) (by decide) (by decide) (by decide) (but_set _ w.heap.size 1 (.slice Ab k.os.length cb)) (blk_type (x0.set0 (.slice Aa k.ts.length ca)))
  have b9 := (b2.setCell (p := ⟨w.heap.size, 0, none⟩) (Nat.le_refl _) (.slice Aa k.ts.length ca)).setCell (p := ⟨w.heap.size, 1, none⟩) (Nat.le_refl _) (.slice Ab k.os.length cb)
  go_wp2
  exact bodyPost_ret (v := .tuple #[.agg #[.slice Aa k.ts.length ca, .slice Ab k.os.length cb], .int .i64 t]) (by simp [results, Try.results16, go_sem, p0, p1]) rfl ⟨_, k, t, rfl, O9.crd, HS.out, b9⟩
set_option linter.unusedSimpArgs false in
set_option linter.unusedVariables false in
set_option maxRecDepth 100000 in
set_option maxHeartbeats 8000000 in
theorem DrawSnapshotDiffer_any (A : Option Addr) (c : Nat) (bs : List Int) (w : World) (h : Code_ w A c bs) :
    Calls Try.prog 21 #[.slice A bs.length c] w (CrTwo w) := by
  have al := (Below.refl w.heap.size w).alloc (Nat.le_refl _) (.cells #[.slice none 0 0, .slice none 0 0] 26)
  have x0 := Blk2s.new_ w 26 (.slice none 0 0) (.slice none 0 0)
  obtain ⟨w0, hw0⟩ : ∃ w0, w.alloc (.cells #[.slice none 0 0, .slice none 0 0] 26) = w0 := ⟨_, rfl⟩
  have h0 := h.below al
  rw [hw0] at al x0 h0
  go_enter Try.func21, Try.ntmps21
  go_wp2_with fail
  clear hw0
  refine (l6Open_any A c bs w0 h0).mono ?_
  rintro e w1 ⟨rfl, R1, b1⟩
  have hwz : w.heap.size < w0.heap.size := x0.lt
  replace x0 := x0.later b1
  replace al := al.trans (b1.mono al.size)
  go_wp2_with fail
  refine (l92Coordinator_any w0.heap.size 0 w1 R1 (by omega)).mono ?_
  rintro e w2 ⟨v, k, col, rfl, O2, hs, R2, T2⟩
  obtain ⟨Aa, ca, Ab, cb, rfl, -⟩ := O2.form
  unfold crV at *
  replace x0 := x0.but_ T2 (by omega)
  have b2 := al.trans (T2.below (B := w.heap.size) al.size (by omega))
  have HS := hid hs
  have z1 := al.size
  have hD := R1.lt
  clear al b1 h0 T2 R1 hs
  have al2 := (Below.refl w2.heap.size w2).alloc (Nat.le_refl _) (.cells #[.slice Aa k.ts.length ca, .slice Ab k.os.length cb] 26)
  have xs := Blk2s.new_ w2 26 (.slice Aa k.ts.length ca) (.slice Ab k.os.length cb)
  go_upto_region 3 with fail
  obtain ⟨w3, hw3⟩ : ∃ w3, w2.alloc (.cells #[.slice Aa k.ts.length ca, .slice Ab k.os.length cb] 26) = w3 := ⟨_, rfl⟩
  obtain ⟨gs, hgs⟩ : ∃ x, w2.heap.size = x := ⟨_, rfl⟩
  obtain ⟨gr, hgr⟩ : ∃ x, w0.heap.size = x := ⟨_, rfl⟩
  have hgsw : w0.heap.size < w2.heap.size := R2.lt
  rw [hw3] at al2 xs ⊢
  rw [hgs] at xs hgsw ⊢
  replace x0 := x0.later al2
  replace O2 := O2.below al2
  replace b2 := b2.trans (al2.mono b2.size)
  replace R2 := R2.below al2 R2.lt
  rw [hgr] at R2 hgsw hwz ⊢
  have hDr : gr < w1.heap.size := by rw [← hgr]; exact hD
  clear al2 hw3 hgs hgr hD
  have hol := HS.out.os
  have q9 : IntKind.i64.wrap ((k.os.length : Int) + 1) = (k.os.length : Int) + 1 := IntWalk.i64_in _ (by omega)
  obtain ⟨y0, y1, -⟩ := id xs.reads
  go_wp2_with fail
  refine (pick_any gr _ ((k.os.length : Int) + 1) w3 R2 (by omega) (by omega) (by omega)).mono ?_
  rintro e w4 ⟨d1, rfl, d10, d11, R6, T6⟩
  replace xs := xs.but_ T6 (by omega)
  replace x0 := x0.but_ T6 (by omega)
  replace O2 := O2.but T6 hDr
  replace b2 := b2.trans (T6.below (B := w.heap.size) b2.size (by omega))
  replace R2 := R6
  clear R6 T6
  clear y0 y1
  go_wp2_with fail
  refine (pick_any gr _ 20 w4 R2 (by omega) (by omega) (by omega)).mono ?_
  rintro e w5 ⟨d2, rfl, d20, d21, R6, T6⟩
  replace xs := xs.but_ T6 (by omega)
  replace x0 := x0.but_ T6 (by omega)
  replace O2 := O2.but T6 hDr
  replace b2 := b2.trans (T6.below (B := w.heap.size) b2.size (by omega))
  replace R2 := R6
  clear R6 T6
  go_upto_region 4 with fail
  refine wp_region_held_drew (S := fun x => x.cell? ⟨gs, 0, none⟩ = some (.slice Aa k.ts.length ca) ∧ x.cell? ⟨gs, 1, none⟩ = some (.slice Ab k.os.length cb)) (by kernel_rfl) ⟨(xs.later (Below.refl _ _).drew).reads.1, (xs.later (Below.refl _ _).drew).reads.2.1⟩ (fun hHeld => ?_)
  have Bd := (Below.refl (w5).heap.size w5).drew
  replace xs := xs.later Bd
  replace x0 := x0.later Bd
  replace O2 := O2.below Bd
  replace b2 := b2.trans (Bd.mono b2.size)
  replace R2 := R2.below Bd R2.lt
  obtain ⟨W, hW⟩ : ∃ x, (w5).drew = x := ⟨_, rfl⟩
  rw [hW] at xs x0 O2 b2 R2 hHeld ⊢
  clear hW Bd
  try simp only [Act.put, List.getElem_toArray, List.getElem_cons_succ, List.getElem_cons_zero, List.setIfInBounds_toArray, List.set_cons_zero, List.set_cons_succ]
  refine wpAnyH_take (i := 0) (oi := _) (v := ?_) rfl (by kernel_rfl) (by kernel_rfl) (by kernel_rfl) (fun _ _ _ h => h) (Or.inl ⟨by rfl, ?_⟩) hHeld ?_
  rotate_left
  · (intro w' hSw; (try dsimp only at hSw); go_simp <;> with_reducible rfl)
  try simp only [Act.put, List.getElem_toArray, List.getElem_cons_succ, List.getElem_cons_zero, List.setIfInBounds_toArray, List.set_cons_zero, List.set_cons_succ]
  refine wpAnyH_take (i := 1) (oi := _) (v := ?_) rfl (by kernel_rfl) (by kernel_rfl) (by kernel_rfl) (fun _ _ _ h => h) (Or.inl ⟨by rfl, ?_⟩) hHeld ?_
  rotate_left
  · (intro w' hSw; (try dsimp only at hSw); go_simp <;> with_reducible rfl)
  try simp only [Act.put, List.getElem_toArray, List.getElem_cons_succ, List.getElem_cons_zero, List.setIfInBounds_toArray, List.set_cons_zero, List.set_cons_succ]
  refine wpAnyH_take (i := 2) (oi := _) (v := ?_) rfl (by kernel_rfl) (by kernel_rfl) (by kernel_rfl) (fun _ _ _ h => h) (Or.inl ⟨by rfl, ?_⟩) hHeld ?_
  rotate_left
  · (intro w' hSw; (try dsimp only at hSw); go_simp <;> with_reducible rfl)
  try simp only [Act.put, List.getElem_toArray, List.getElem_cons_succ, List.getElem_cons_zero, List.setIfInBounds_toArray, List.set_cons_zero, List.set_cons_succ]
  refine wpAnyH_take (i := 3) (oi := _) (v := ?_) rfl (by kernel_rfl) (by kernel_rfl) (by kernel_rfl) (fun _ _ _ h => h) (Or.inl ⟨by rfl, ?_⟩) hHeld ?_
  rotate_left
  · (intro w' hSw; (try dsimp only at hSw); go_simp <;> with_reducible rfl)
  try simp only [Act.put, List.getElem_toArray, List.getElem_cons_succ, List.getElem_cons_zero, List.setIfInBounds_toArray, List.set_cons_zero, List.set_cons_succ]
  refine wpAnyH_take (i := 4) (oi := _) (v := ?_) rfl (by kernel_rfl) (by kernel_rfl) (by kernel_rfl) (fun _ _ _ h => h) (Or.inl ⟨by rfl, ?_⟩) hHeld ?_
  rotate_left
  · (intro w' hSw; (try dsimp only at hSw); go_simp <;> with_reducible rfl)
  try simp only [Act.put, List.getElem_toArray, List.getElem_cons_succ, List.getElem_cons_zero, List.setIfInBounds_toArray, List.set_cons_zero, List.set_cons_succ]
  refine wpAnyH_take (i := 5) (oi := _) (v := ?_) rfl (by kernel_rfl) (by kernel_rfl) (by kernel_rfl) (fun _ _ _ h => h) (Or.inl ⟨by rfl, ?_⟩) hHeld ?_
  rotate_left
  · (intro w' hSw; (try dsimp only at hSw); go_simp <;> with_reducible rfl)
  try simp only [Act.put, List.getElem_toArray, List.getElem_cons_succ, List.getElem_cons_zero, List.setIfInBounds_toArray, List.set_cons_zero, List.set_cons_succ]
  refine wpAnyH_take (i := 6) (oi := _) (v := ?_) rfl (by kernel_rfl) (by kernel_rfl) (by kernel_rfl) (fun _ _ _ h => h) (Or.inl ⟨by rfl, ?_⟩) hHeld ?_
  rotate_left
  · (intro w' hSw; (try dsimp only at hSw); go_simp <;> with_reducible rfl)
  try simp only [Act.put, List.getElem_toArray, List.getElem_cons_succ, List.getElem_cons_zero, List.setIfInBounds_toArray, List.set_cons_zero, List.set_cons_succ]
  refine wpAnyH_ready (rs := [7]) (by kernel_rfl) (by simp) (AllReadyH.cons (o := _) rfl (fun K hK => ?_) AllReadyH.nil)
  try simp only [Act.put, List.getElem_toArray, List.getElem_cons_succ, List.getElem_cons_zero, List.setIfInBounds_toArray, List.set_cons_zero, List.set_cons_succ]
  go_simp
  go_at_call 34
  refine (pick_any gr _ ((k.os.length : Int) + 1) W R2 (by omega) (by omega) (by omega)).mono ?_
  rintro e W ⟨d4, rfl, d40, d41, R6, T6⟩
  replace xs := xs.but_ T6 (by omega)
  replace x0 := x0.but_ T6 (by omega)
  replace O2 := O2.but T6 hDr
  replace b2 := b2.trans (T6.below (B := w.heap.size) b2.size (by omega))
  replace R2 := R6
  clear R6 T6
  refine hK.out _ _ ⟨xs.reads.1, xs.reads.2.1⟩ (fun hHeld => ?_)
  clear hK K
  try simp only [Act.put, List.getElem_toArray, List.getElem_cons_succ, List.getElem_cons_zero, List.setIfInBounds_toArray, List.set_cons_zero, List.set_cons_succ]
  obtain ⟨t0, t1, tf⟩ := id x0.reads
  have tf0 := tf 0
  have tf1 := tf 1
  clear tf
  obtain ⟨p0, p1, -⟩ := ((x0.set0 (.slice Aa k.ts.length ca)).set1 (.slice Ab k.os.length cb)).reads
  have O9 := (O2.keptT (by decide) (by decide) (by decide) (by decide) (but_set W w.heap.size 0 (.slice Aa k.ts.length ca)) (blk_type x0)).keptT (by decide) (by decide) (by decide) (by decide) (but_set _ w.heap.size 1 (.slice Ab k.os.length cb)) (blk_type (x0.set0 (.slice Aa k.ts.length ca)))
  have b9 := (b2.setCell (p := ⟨w.heap.size, 0, none⟩) (Nat.le_refl _) (.slice Aa k.ts.length ca)).setCell (p := ⟨w.heap.size, 1, none⟩) (Nat.le_refl _) (.slice Ab k.os.length cb)
  have xs9 := (xs.far (p := ⟨w.heap.size, 0, none⟩) (by show gs ≠ w.heap.size; omega) (.slice Aa k.ts.length ca)).far (p := ⟨w.heap.size, 1, none⟩) (by show gs ≠ w.heap.size; omega) (.slice Ab k.os.length cb)
  refine wpAnyH_ready (rs := [8]) (by kernel_rfl) (by simp) (AllReadyH.cons (o := _) rfl (fun K hK => ?_) AllReadyH.nil)
  try simp only [Act.put, List.getElem_toArray, List.getElem_cons_succ, List.getElem_cons_zero, List.setIfInBounds_toArray, List.set_cons_zero, List.set_cons_succ]
  go_simp
  refine hK.out _ _ ⟨xs9.reads.1, xs9.reads.2.1⟩ (fun hHeld => ?_)
  clear hK K
  try simp only [Act.put, List.getElem_toArray, List.getElem_cons_succ, List.getElem_cons_zero, List.setIfInBounds_toArray, List.set_cons_zero, List.set_cons_succ]
  refine wpAnyH_take (i := 9) (oi := _) (v := ?_) rfl (by kernel_rfl) (by kernel_rfl) (by kernel_rfl) (fun _ _ _ h => h) (Or.inl ⟨by rfl, ?_⟩) hHeld ?_
  rotate_left
  · (intro w' hSw; (try dsimp only at hSw); go_simp <;> with_reducible rfl)
  try simp only [Act.put, List.getElem_toArray, List.getElem_cons_succ, List.getElem_cons_zero, List.setIfInBounds_toArray, List.set_cons_zero, List.set_cons_succ]
  refine wpAnyH_take (i := 10) (oi := _) (v := ?_) rfl (by kernel_rfl) (by kernel_rfl) (by kernel_rfl) (fun _ _ _ h => h) (Or.inl ⟨by rfl, ?_⟩) hHeld ?_
  rotate_left
  · (intro w' hSw; (try dsimp only at hSw); go_simp <;> with_reducible rfl)
  try simp only [Act.put, List.getElem_toArray, List.getElem_cons_succ, List.getElem_cons_zero, List.setIfInBounds_toArray, List.set_cons_zero, List.set_cons_succ]
  refine wpAnyH_done (by kernel_rfl) ?_ _
  clear hHeld t0 t1 tf0 tf1 xs9
  go_wp2
  refine bodyPost_ret (v := .tuple #[.agg #[.slice Aa k.ts.length ca, .slice Ab k.os.length cb], _, _]) (by simp [results, Try.results21, go_sem, p0, p1]; first | done | exact ⟨rfl, rfl⟩) rfl ⟨_, k, _, _, rfl, O9.crd, HS.out, b9⟩
end Go.Proofs.Ytjplondblkkpmaa
