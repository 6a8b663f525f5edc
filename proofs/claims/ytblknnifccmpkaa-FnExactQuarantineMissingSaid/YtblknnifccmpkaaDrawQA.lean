/-
  Walks: what the laws on quarantines draw.
-/
import Derived.Test.YtblknnifccmpkaaDrawR2
import Derived.Test.YtblknnifccmpkaaDrawPut
namespace Go.Proofs.Ytblknnifccmpkaa
open Go.RowKit Wo Pu Qu

theorem OwnQ.parts {w : World} {B : Nat} {u v : Value} {q : Qr} (h : OwnQ w B (.agg #[u, v]) q) : OwnObs w B u q.m ∧ OwnArs w B v q.rs := by
  obtain ⟨A, c, A2, c2, e, h1, -, h3, -⟩ := h
  unfold qv at e
  have e' : u = .slice A q.m.length c ∧ v = .slice A2 q.rs.length c2 := by simpa using e
  obtain ⟨rfl, rfl⟩ := e'
  exact ⟨h1, h3⟩
/-- A transaction that often has an area. -/
def AreaDrawn (R : Nat) (q : Int) (w : World) (e : Ending) (w' : World) : Prop := ∃ t : Int, e = .returned (.int .i64 t) ∧ Rd w' R (q + 4) ∧ But R w w'
set_option linter.unusedSimpArgs false in
set_option maxRecDepth 100000 in
set_option maxHeartbeats 4000000 in
theorem l92Area_any (R : Nat) (q0 : Int) (v : Value) (q : Qr) (w : World) (hR : Rd w R q0) (hq : q0 ≤ 500000000) (h : OwnQ w (R + 1) v q) (hl : q.rs.length ≤ 31) :
    Calls Try.prog 77 #[.pointer (some ⟨R, 0, none⟩), v] w (AreaDrawn R q0 w) := by
  obtain ⟨A, c, A2, c2, rfl, -, -, ha, hc2⟩ := h
  unfold qv
  have hRw := hR.lt
  have x0 := BlkQ.new_ w 26 (.slice A q.m.length c) (.slice A2 q.rs.length c2)
  have al := (Below.refl w.heap.size w).alloc (Nat.le_refl _) (.cells #[.slice A q.m.length c, .slice A2 q.rs.length c2] 26)
  have R0 := hR.below al hRw
  have ha0 := ha.below al
  have T0 := But.of_below (R := R) al
  obtain ⟨y0, y1, yf⟩ := id x0.reads
  go_enter Try.func77, Try.ntmps77
  by_cases hl0 : 0 < q.rs.length
  · have e0 : decide (0 < q.rs.length) = true := by simpa using hl0
    go_wp2_with fail
    refine (pick_any R _ 4 _ R0 (by omega) (by omega) (by omega)).mono ?_
    rintro e w1 ⟨x, rfl, x0', x1', R1, T1⟩
    have x1 := x0.but T1 (by omega)
    have ha1 := ha0.but T1 (Nat.lt_succ_self R)
    have T2 := T0.trans T1
    clear x0 al R0 ha0 T0 y0 y1 yf ha T1
    obtain ⟨y0, y1, yf⟩ := id x1.reads
    by_cases hx : 0 < x
    · go_wp2_with fail
      have xd := x1.later (Below.refl w1.heap.size w1).drew
      have had := ha1.below (Below.refl w1.heap.size w1).drew
      have Rdd := R1.below (Below.refl w1.heap.size w1).drew R1.lt
      have Td := T2.trans (But.of_below (Below.refl w1.heap.size w1).drew)
      clear x1 ha1 R1 T2 y0 y1 yf
      refine wp_region_held_drew (S := fun x => x.cell? ⟨w.heap.size, 1, none⟩ = some (.slice A2 q.rs.length c2)) (by kernel_rfl) xd.reads.2.1 (fun hHeld => ?_)
      refine wpAnyH_take (i := 0) (oi := _) (v := ?_) rfl (by kernel_rfl) (by kernel_rfl) (by kernel_rfl) (fun _ _ _ h => h) (Or.inl ⟨by rfl, ?_⟩) hHeld ?_
      rotate_left
      · (intro w' hSw; (try dsimp only at hSw); go_simp <;> with_reducible rfl)
      try simp only [Act.put, List.getElem_toArray, List.getElem_cons_succ, List.getElem_cons_zero, List.setIfInBounds_toArray, List.set_cons_zero, List.set_cons_succ]
      refine wpAnyH_take (i := 1) (oi := _) (v := ?_) rfl (by kernel_rfl) (by kernel_rfl) (by kernel_rfl) (fun _ _ _ h => h) (Or.inl ⟨by rfl, ?_⟩) hHeld ?_
      rotate_left
      · (intro w' hSw; (try dsimp only at hSw); go_simp <;> with_reducible rfl)
      try simp only [Act.put, List.getElem_toArray, List.getElem_cons_succ, List.getElem_cons_zero, List.setIfInBounds_toArray, List.set_cons_zero, List.set_cons_succ]
      refine wpAnyH_take (i := 2) (oi := _) (v := ?_) rfl (by kernel_rfl) (by kernel_rfl) (by kernel_rfl) (fun _ _ _ h => h) (Or.inl ⟨by rfl, ?_⟩) hHeld ?_
      rotate_left
      · (intro w' hSw; (try dsimp only at hSw); go_simp <;> with_reducible rfl)
      try simp only [Act.put, List.getElem_toArray, List.getElem_cons_succ, List.getElem_cons_zero, List.setIfInBounds_toArray, List.set_cons_zero, List.set_cons_succ]
      refine wpAnyH_take (i := 3) (oi := _) (v := ?_) rfl (by kernel_rfl) (by kernel_rfl) (by kernel_rfl) (fun _ _ _ h => h) (Or.inl ⟨by rfl, ?_⟩) hHeld ?_
      rotate_left
      · (intro w' hSw; (try dsimp only at hSw); go_simp <;> with_reducible rfl)
      try simp only [Act.put, List.getElem_toArray, List.getElem_cons_succ, List.getElem_cons_zero, List.setIfInBounds_toArray, List.set_cons_zero, List.set_cons_succ]
      refine wpAnyH_take (i := 4) (oi := _) (v := ?_) rfl (by kernel_rfl) (by kernel_rfl) (by kernel_rfl) (fun _ _ _ h => h) (Or.inl ⟨by rfl, ?_⟩) hHeld ?_
      rotate_left
      · (intro w' hSw; (try dsimp only at hSw); go_simp <;> with_reducible rfl)
      try simp only [Act.put, List.getElem_toArray, List.getElem_cons_succ, List.getElem_cons_zero, List.setIfInBounds_toArray, List.set_cons_zero, List.set_cons_succ]
      refine wpAnyH_take (i := 5) (oi := _) (v := ?_) rfl (by kernel_rfl) (by kernel_rfl) (by kernel_rfl) (fun _ _ _ h => h) (Or.inl ⟨by rfl, ?_⟩) hHeld ?_
      rotate_left
      · (intro w' hSw; (try dsimp only at hSw); go_simp <;> with_reducible rfl)
      try simp only [Act.put, List.getElem_toArray, List.getElem_cons_succ, List.getElem_cons_zero, List.setIfInBounds_toArray, List.set_cons_zero, List.set_cons_succ]
      refine wpAnyH_ready (rs := [6]) (by kernel_rfl) (by simp) (AllReadyH.cons (o := _) rfl (fun K hK => ?_) AllReadyH.nil)
      try simp only [Act.put, List.getElem_toArray, List.getElem_cons_succ, List.getElem_cons_zero, List.setIfInBounds_toArray, List.set_cons_zero, List.set_cons_succ]
      go_simp
      go_at_call 78
      refine (pick_any R _ q.rs.length _ Rdd (by omega) (by omega) (by omega)).mono ?_
      rintro e W5 ⟨y, rfl, ya, yb, RR, TT⟩
      obtain ⟨j, rfl⟩ : ∃ j : Nat, y = (j : Int) := ⟨y.toNat, by omega⟩
      have hj : j < q.rs.length := by omega
      have x5 := xd.but TT (by omega)
      have ha5 := had.but TT (Nat.lt_succ_self R)
      have T5 := Td.trans TT
      obtain ⟨A9, c9, e9, h9, -⟩ := ha5.form
      injection e9 with e9 _ _
      subst e9
      obtain ⟨a, ad, A', c', -, rfl, g3, g4, -, -, -⟩ := h9.ar hj
      clear h9 ha5 had xd Rdd Td TT
      refine hK.out _ _ x5.reads.2.1 (fun hHeld => ?_)
      clear hK K
      try simp only [Act.put, List.getElem_toArray, List.getElem_cons_succ, List.getElem_cons_zero, List.setIfInBounds_toArray, List.set_cons_zero, List.set_cons_succ]
      refine wpAnyH_take (i := 7) (oi := _) (v := ?_) rfl (by kernel_rfl) (by kernel_rfl) (by kernel_rfl) (fun _ _ _ h => h) (Or.inl ⟨by rfl, ?_⟩) hHeld ?_
      rotate_left
      · (intro w' hSw; (try dsimp only at hSw); go_simp <;> with_reducible rfl)
      try simp only [Act.put, List.getElem_toArray, List.getElem_cons_succ, List.getElem_cons_zero, List.setIfInBounds_toArray, List.set_cons_zero, List.set_cons_succ]
      refine wpAnyH_take (i := 8) (oi := _) (v := ?_) rfl (by kernel_rfl) (by kernel_rfl) (by kernel_rfl) (fun _ _ _ h => h) (Or.inl ⟨by rfl, ?_⟩) hHeld ?_
      rotate_left
      · (intro w' hSw; (try dsimp only at hSw); go_simp <;> with_reducible rfl)
      try simp only [Act.put, List.getElem_toArray, List.getElem_cons_succ, List.getElem_cons_zero, List.setIfInBounds_toArray, List.set_cons_zero, List.set_cons_succ]
      refine wpAnyH_ready (rs := [9]) (by kernel_rfl) (by simp) (AllReadyH.cons (o := _) rfl (fun K hK => ?_) AllReadyH.nil)
      try simp only [Act.put, List.getElem_toArray, List.getElem_cons_succ, List.getElem_cons_zero, List.setIfInBounds_toArray, List.set_cons_zero, List.set_cons_succ]
      go_simp
      refine hK.out _ _ x5.reads.2.1 (fun hHeld => ?_)
      clear hK K
      try simp only [Act.put, List.getElem_toArray, List.getElem_cons_succ, List.getElem_cons_zero, List.setIfInBounds_toArray, List.set_cons_zero, List.set_cons_succ]
      refine wpAnyH_take (i := 10) (oi := _) (v := ?_) rfl (by kernel_rfl) (by kernel_rfl) (by kernel_rfl) (fun _ _ _ h => h) (Or.inl ⟨by rfl, ?_⟩) hHeld ?_
      rotate_left
      · (intro w' hSw; (try dsimp only at hSw); go_simp <;> with_reducible rfl)
      try simp only [Act.put, List.getElem_toArray, List.getElem_cons_succ, List.getElem_cons_zero, List.setIfInBounds_toArray, List.set_cons_zero, List.set_cons_succ]
      refine wpAnyH_done (by kernel_rfl) ?_ _
      clear hHeld
      go_wp2
      go_ret
      exact ⟨a.t, rfl, RR.more (by omega), T5⟩
    · go_wp2_with fail
      refine (l92Txn_any R _ _ R1 (by omega)).mono ?_
      rintro e w3 ⟨t, rfl, t0, t1, R3, T3⟩
      go_wp2
      go_ret
      exact ⟨t, rfl, R3.more (by omega), T2.trans T3⟩
  · have e0 : decide (0 < q.rs.length) = false := by simpa using hl0
    go_wp2_with fail
    refine (l92Txn_any R _ _ R0 (by omega)).mono ?_
    rintro e w1 ⟨t, rfl, t0, t1, R1, T1⟩
    go_wp2
    go_ret
    exact ⟨t, rfl, R1.more (by omega), T0.trans T1⟩
/-- A drawn quarantine. -/
def QMade (w : World) (e : Ending) (w' : World) : Prop := ∃ v q, e = .returned v ∧ Quar w' w'.heap.size v q ∧ FitQ q ∧ Below w.heap.size w w'
/-- A drawn quarantine, a transaction, objects. -/
def QPutMade (w : World) (e : Ending) (w' : World) : Prop :=
  ∃ v q t A c os, e = .returned (.tuple #[v, .int .i64 t, .slice A (List.length os) c]) ∧ Quar w' w'.heap.size v q ∧ FitQ q ∧ Objs w' w'.heap.size A os ∧ os.length ≤ 3 ∧ os.length ≤ c ∧ (∀ p ∈ os, vOb p = true) ∧ Below w.heap.size w w'
/-- A drawn quarantine and a transaction. -/
def QTxnMade (w : World) (e : Ending) (w' : World) : Prop :=
  ∃ v q t, e = .returned (.tuple #[v, .int .i64 t]) ∧ OwnQ w' w.heap.size v q ∧ FitQ q ∧ Below w.heap.size w w'
set_option linter.unusedSimpArgs false in
set_option maxHeartbeats 4000000 in
theorem DrawQuarantineValid_any (A : Option Addr) (c : Nat) (bs : List Int) (w : World) (h : Code_ w A c bs) :
    Calls Try.prog 42 #[.slice A bs.length c] w (QMade w) := by
  go_enter Try.func42, Try.ntmps42
  obtain ⟨w0, hw0⟩ : ∃ w0, w.alloc (.cells #[.slice none 0 0, .slice none 0 0] 26) = w0 := ⟨_, rfl⟩
  have al := (Below.refl w.heap.size w).alloc (Nat.le_refl _) (.cells #[.slice none 0 0, .slice none 0 0] 26)
  have x0 := BlkQ.new_ w 26 (.slice none 0 0) (.slice none 0 0)
  have z0 : w0.heap.size = w.heap.size + 1 := by rw [← hw0]; simp
  rw [hw0] at al x0
  replace h := h.below al
  obtain ⟨R, hR⟩ : ∃ R, w0.heap.size = R := ⟨_, rfl⟩
  have hRw : w.heap.size < R := by omega
  clear z0
  go_wp2_with fail
  refine (l6Open_any A c bs w0 h).mono ?_
  rintro e w1 ⟨rfl, R1, b1⟩
  have x1 := x0.later b1
  rw [hR] at R1
  go_wp2_with fail
  refine (l92Quarantine_any R 0 w1 R1 (by omega)).mono ?_
  rintro e w2 ⟨v, q, rfl, o2', s2, R2, T2⟩
  have bb : Below w.heap.size w w1 := al.trans (b1.mono al.size)
  have b2 := bb.trans (T2.below bb.size (by omega))
  have x2 := x1.but T2 (by omega)
  have f2 := s2.fit
  have o2 := o2'.base (B' := w.heap.size) (Nat.le_trans (Nat.le_of_lt hRw) (Nat.le_of_lt R1.lt))
  obtain ⟨A3, c3, A4, c4, rfl, -, -, -, -⟩ := id o2
  unfold qv at *
  obtain ⟨r0, r1, rf⟩ := id x2.reads
  have q9 := (o2.stored x2).1.quar
  obtain ⟨p0, p1⟩ := x2.two (.slice A3 q.m.length c3) (.slice A4 q.rs.length c4)
  have b9 := (b2.setCell (p := ⟨w.heap.size, 0, none⟩) (Nat.le_refl _) (.slice A3 q.m.length c3)).setCell (p := ⟨w.heap.size, 1, none⟩) (Nat.le_refl _) (.slice A4 q.rs.length c4)
  clear x0 x1 o2' o2 al b1 bb b2 T2 R1 R2 hw0
  go_wp2
  exact bodyPost_ret (v := .agg #[.slice A3 q.m.length c3, .slice A4 q.rs.length c4]) (by simp [results, Try.results42, go_sem, p0, p1]) rfl ⟨_, q, rfl, q9, f2, b9⟩
set_option linter.unusedSimpArgs false in
set_option maxRecDepth 100000 in
set_option maxHeartbeats 4000000 in
theorem DrawQuarantinePut_any (A : Option Addr) (c : Nat) (bs : List Int) (w : World) (h : Code_ w A c bs) :
    Calls Try.prog 18 #[.slice A bs.length c] w (QPutMade w) := by
  go_enter Try.func18, Try.ntmps18
  obtain ⟨w0, hw0⟩ : ∃ w0, w.alloc (.cells #[.slice none 0 0, .slice none 0 0] 26) = w0 := ⟨_, rfl⟩
  have al := (Below.refl w.heap.size w).alloc (Nat.le_refl _) (.cells #[.slice none 0 0, .slice none 0 0] 26)
  have x0 := BlkQ.new_ w 26 (.slice none 0 0) (.slice none 0 0)
  have z0 : w0.heap.size = w.heap.size + 1 := by rw [← hw0]; simp
  rw [hw0] at al x0
  replace h := h.below al
  obtain ⟨R, hR⟩ : ∃ R, w0.heap.size = R := ⟨_, rfl⟩
  have hRw : w.heap.size < R := by omega
  clear z0
  go_wp2_with fail
  refine (l6Open_any A c bs w0 h).mono ?_
  rintro e w1 ⟨rfl, R1, b1⟩
  have x1 := x0.later b1
  rw [hR] at R1
  go_wp2_with fail
  refine (l92Quarantine_any R 0 w1 R1 (by omega)).mono ?_
  rintro e w2 ⟨v, q, rfl, o2', s2, R2, T2⟩
  have bb : Below w.heap.size w w1 := al.trans (b1.mono al.size)
  have b2 := bb.trans (T2.below bb.size (by omega))
  have x2 := x1.but T2 (by omega)
  have f2 := s2.fit
  have o2 := o2'.base (B' := R + 1) R1.lt
  obtain ⟨A3, c3, A4, c4, rfl, -, -, -, -⟩ := id o2
  unfold qv at *
  have hRg : R < w2.heap.size := R2.lt
  have a3 := (Below.refl w2.heap.size w2).alloc (Nat.le_refl _) (.cells #[.slice A3 q.m.length c3, .slice A4 q.rs.length c4] 26)
  have xb := BlkQ.new_ w2 26 (.slice A3 q.m.length c3) (.slice A4 q.rs.length c4)
  obtain ⟨g, hg⟩ : ∃ g, w2.heap.size = g := ⟨_, rfl⟩
  obtain ⟨w3, hw3⟩ : ∃ w3, w2.alloc (.cells #[.slice A3 q.m.length c3, .slice A4 q.rs.length c4] 26) = w3 := ⟨_, rfl⟩
  rw [hw3] at a3 xb
  replace x2 := x2.later a3
  replace o2 := o2.below a3
  replace R2 := R2.below a3 R2.lt
  replace b2 := b2.trans (a3.mono b2.size)
  rw [hg] at xb hRg
  clear x0 x1 o2' al b1 bb T2 R1 hw0 a3
  obtain ⟨y0, y1, -⟩ := id xb.reads
  go_wp2_with fail
  refine (l92Txn_any R _ _ R2 (by omega)).mono ?_
  rintro e w4 ⟨t, rfl, t0, t1, R3, T3⟩
  replace o2 := o2.but T3 (Nat.lt_succ_self R)
  replace x2 := x2.but T3 (by omega)
  replace xb := xb.but T3 (by omega)
  replace b2 := b2.trans (But.below T3 b2.size (by omega))
  clear R2 y0 y1 T3
  obtain ⟨y0, y1, -⟩ := id xb.reads
  go_wp2_with fail
  have dr := Below.refl w4.heap.size w4 |>.drew
  replace x2 := x2.later dr
  replace xb := xb.later dr
  replace o2 := o2.below dr
  replace b2 := b2.trans (dr.mono b2.size)
  have R4 := R3.below dr R3.lt
  clear R3 y0 y1 dr
  have HX : Hid (∀ {x : World} {u0 u1 : Value}, BlkQ x g 26 u0 u1 → x.cell? ⟨g, 0, none⟩ = some u0 ∧ x.cell? ⟨g, 1, none⟩ = some u1) := fun h => ⟨h.reads.1, h.reads.2.1⟩
  refine wp_region_held_drew (S := fun x => x.cell? ⟨g, 0, none⟩ = some (.slice A3 q.m.length c3) ∧ x.cell? ⟨g, 1, none⟩ = some (.slice A4 q.rs.length c4)) (by kernel_rfl) (HX.out xb) (fun hHeld => ?_)
  refine wpAnyH_take (i := 0) (oi := _) (v := ?_) rfl (by kernel_rfl) (by kernel_rfl) (by kernel_rfl) (fun _ _ _ h => h) (Or.inl ⟨by rfl, ?_⟩) hHeld ?_
  rotate_left
  · (intro w' hSw; (try dsimp only at hSw); go_simp <;> with_reducible rfl)
  try simp only [Act.put, List.getElem_toArray, List.getElem_cons_succ, List.getElem_cons_zero, List.setIfInBounds_toArray, List.set_cons_zero, List.set_cons_succ]
  refine wpAnyH_take (i := 1) (oi := _) (v := ?_) rfl (by kernel_rfl) (by kernel_rfl) (by kernel_rfl) (fun _ _ _ h => h) (Or.inl ⟨by rfl, ?_⟩) hHeld ?_
  rotate_left
  · (intro w' hSw; (try dsimp only at hSw); go_simp <;> with_reducible rfl)
  try simp only [Act.put, List.getElem_toArray, List.getElem_cons_succ, List.getElem_cons_zero, List.setIfInBounds_toArray, List.set_cons_zero, List.set_cons_succ]
  refine wpAnyH_take (i := 2) (oi := _) (v := ?_) rfl (by kernel_rfl) (by kernel_rfl) (by kernel_rfl) (fun _ _ _ h => h) (Or.inl ⟨by rfl, ?_⟩) hHeld ?_
  rotate_left
  · (intro w' hSw; (try dsimp only at hSw); go_simp <;> with_reducible rfl)
  try simp only [Act.put, List.getElem_toArray, List.getElem_cons_succ, List.getElem_cons_zero, List.setIfInBounds_toArray, List.set_cons_zero, List.set_cons_succ]
  refine wpAnyH_take (i := 3) (oi := _) (v := ?_) rfl (by kernel_rfl) (by kernel_rfl) (by kernel_rfl) (fun _ _ _ h => h) (Or.inl ⟨by rfl, ?_⟩) hHeld ?_
  rotate_left
  · (intro w' hSw; (try dsimp only at hSw); go_simp <;> with_reducible rfl)
  try simp only [Act.put, List.getElem_toArray, List.getElem_cons_succ, List.getElem_cons_zero, List.setIfInBounds_toArray, List.set_cons_zero, List.set_cons_succ]
  refine wpAnyH_take (i := 4) (oi := _) (v := ?_) rfl (by kernel_rfl) (by kernel_rfl) (by kernel_rfl) (fun _ _ _ h => h) (Or.inl ⟨by rfl, ?_⟩) hHeld ?_
  rotate_left
  · (intro w' hSw; (try dsimp only at hSw); go_simp <;> with_reducible rfl)
  try simp only [Act.put, List.getElem_toArray, List.getElem_cons_succ, List.getElem_cons_zero, List.setIfInBounds_toArray, List.set_cons_zero, List.set_cons_succ]
  refine wpAnyH_ready (rs := [5]) (by kernel_rfl) (by simp) (AllReadyH.cons (o := _) rfl (fun K hK => ?_) AllReadyH.nil)
  try simp only [Act.put, List.getElem_toArray, List.getElem_cons_succ, List.getElem_cons_zero, List.setIfInBounds_toArray, List.set_cons_zero, List.set_cons_succ]
  go_simp
  go_at_call 59
  refine (l92Some_any R _ A3 c3 q.m _ R4 (by omega) o2.parts.1 s2.1 s2.2.1).mono ?_
  rintro e w6 ⟨v6, os, rfl, o6, hol, hov, R6, T6⟩
  obtain ⟨A6, c6, rfl, ob6, hc6⟩ := o6.formq
  replace o2 := o2.but T6 (Nat.lt_succ_self R)
  replace x2 := x2.but T6 (by omega)
  replace xb := xb.but T6 (by omega)
  have z4 := b2.size
  replace b2 := b2.trans (T6.below b2.size (by omega))
  clear R4 T6 R6
  refine hK.out _ _ (HX.out xb) (fun hHeld => ?_)
  clear hK K
  try simp only [Act.put, List.getElem_toArray, List.getElem_cons_succ, List.getElem_cons_zero, List.setIfInBounds_toArray, List.set_cons_zero, List.set_cons_succ]
  obtain ⟨r0, r1, rf⟩ := id x2.reads
  refine wpAnyH_ready (rs := [6]) (by kernel_rfl) (by simp) (AllReadyH.cons (o := _) rfl (fun K hK => ?_) AllReadyH.nil)
  try simp only [Act.put, List.getElem_toArray, List.getElem_cons_succ, List.getElem_cons_zero, List.setIfInBounds_toArray, List.set_cons_zero, List.set_cons_succ]
  go_simp
  have xb' := (xb.far (p := ⟨w.heap.size, 0, none⟩) (by show g ≠ w.heap.size; omega) (.slice A3 q.m.length c3)).far (p := ⟨w.heap.size, 1, none⟩) (by show g ≠ w.heap.size; omega) (.slice A4 q.rs.length c4)
  refine hK.out _ _ (HX.out xb') (fun hHeld => ?_)
  clear hK K
  try simp only [Act.put, List.getElem_toArray, List.getElem_cons_succ, List.getElem_cons_zero, List.setIfInBounds_toArray, List.set_cons_zero, List.set_cons_succ]
  refine wpAnyH_take (i := 7) (oi := _) (v := ?_) rfl (by kernel_rfl) (by kernel_rfl) (by kernel_rfl) (fun _ _ _ h => h) (Or.inl ⟨by rfl, ?_⟩) hHeld ?_
  rotate_left
  · (intro w' hSw; (try dsimp only at hSw); go_simp <;> with_reducible rfl)
  try simp only [Act.put, List.getElem_toArray, List.getElem_cons_succ, List.getElem_cons_zero, List.setIfInBounds_toArray, List.set_cons_zero, List.set_cons_succ]
  refine wpAnyH_take (i := 8) (oi := _) (v := ?_) rfl (by kernel_rfl) (by kernel_rfl) (by kernel_rfl) (fun _ _ _ h => h) (Or.inl ⟨by rfl, ?_⟩) hHeld ?_
  rotate_left
  · (intro w' hSw; (try dsimp only at hSw); go_simp <;> with_reducible rfl)
  try simp only [Act.put, List.getElem_toArray, List.getElem_cons_succ, List.getElem_cons_zero, List.setIfInBounds_toArray, List.set_cons_zero, List.set_cons_succ]
  refine wpAnyH_done (by kernel_rfl) ?_ _
  obtain ⟨p0, p1⟩ := x2.two (.slice A3 q.m.length c3) (.slice A4 q.rs.length c4)
  have o9 := ((o6.farQ x2 0 (.slice A3 q.m.length c3)).farQ (x2.set0 _) 1 (.slice A4 q.rs.length c4)).objs
  have q9 := (o2.stored x2).1.quar
  have b9 := (b2.setCell (p := ⟨w.heap.size, 0, none⟩) (Nat.le_refl _) (.slice A3 q.m.length c3)).setCell (p := ⟨w.heap.size, 1, none⟩) (Nat.le_refl _) (.slice A4 q.rs.length c4)
  clear hHeld xb' xb o2 o6 ob6 r0 r1 rf HX
  go_wp2
  exact bodyPost_ret (v := .tuple #[.agg #[.slice A3 q.m.length c3, .slice A4 q.rs.length c4], .int .i64 t, .slice A6 os.length c6]) (by simp [results, Try.results18, go_sem, p0, p1]) rfl ⟨_, q, t, A6, c6, os, rfl, q9, f2, o9, hol, hc6, hov, b9⟩
set_option linter.unusedSimpArgs false in
set_option maxRecDepth 100000 in
set_option maxHeartbeats 4000000 in
theorem DrawQuarantinePromote_any (A : Option Addr) (c : Nat) (bs : List Int) (w : World) (h : Code_ w A c bs) :
    Calls Try.prog 30 #[.slice A bs.length c] w (QTxnMade w) := by
  go_enter Try.func30, Try.ntmps30
  obtain ⟨w0, hw0⟩ : ∃ w0, w.alloc (.cells #[.slice none 0 0, .slice none 0 0] 26) = w0 := ⟨_, rfl⟩
  have al := (Below.refl w.heap.size w).alloc (Nat.le_refl _) (.cells #[.slice none 0 0, .slice none 0 0] 26)
  have x0 := BlkQ.new_ w 26 (.slice none 0 0) (.slice none 0 0)
  have z0 : w0.heap.size = w.heap.size + 1 := by rw [← hw0]; simp
  rw [hw0] at al x0
  replace h := h.below al
  obtain ⟨R, hR⟩ : ∃ R, w0.heap.size = R := ⟨_, rfl⟩
  have hRw : w.heap.size < R := by omega
  clear z0
  go_wp2_with fail
  refine (l6Open_any A c bs w0 h).mono ?_
  rintro e w1 ⟨rfl, R1, b1⟩
  have x1 := x0.later b1
  rw [hR] at R1
  go_wp2_with fail
  refine (l92Quarantine_any R 0 w1 R1 (by omega)).mono ?_
  rintro e w2 ⟨v, q, rfl, o2', s2, R2, T2⟩
  have bb : Below w.heap.size w w1 := al.trans (b1.mono al.size)
  have b2 := bb.trans (T2.below bb.size (by omega))
  have x2 := x1.but T2 (by omega)
  have f2 := s2.fit
  have o2 := o2'.base (B' := R + 1) R1.lt
  obtain ⟨A3, c3, A4, c4, rfl, -, -, -, -⟩ := id o2
  unfold qv at *
  have hRg : R < w2.heap.size := R2.lt
  have a3 := (Below.refl w2.heap.size w2).alloc (Nat.le_refl _) (.cells #[.slice A3 q.m.length c3, .slice A4 q.rs.length c4] 26)
  have xb := BlkQ.new_ w2 26 (.slice A3 q.m.length c3) (.slice A4 q.rs.length c4)
  obtain ⟨g, hg⟩ : ∃ g, w2.heap.size = g := ⟨_, rfl⟩
  obtain ⟨w3, hw3⟩ : ∃ w3, w2.alloc (.cells #[.slice A3 q.m.length c3, .slice A4 q.rs.length c4] 26) = w3 := ⟨_, rfl⟩
  rw [hw3] at a3 xb
  replace x2 := x2.later a3
  replace o2 := o2.below a3
  replace R2 := R2.below a3 R2.lt
  replace b2 := b2.trans (a3.mono b2.size)
  rw [hg] at xb hRg
  clear x0 x1 o2' al b1 bb T2 R1 hw0 a3
  obtain ⟨y0, y1, -⟩ := id xb.reads
  go_wp2_with fail
  have dr := Below.refl w3.heap.size w3 |>.drew
  replace x2 := x2.later dr
  replace xb := xb.later dr
  replace o2 := o2.below dr
  replace b2 := b2.trans (dr.mono b2.size)
  have R4 := R2.below dr R2.lt
  clear R2 y0 y1 dr
  have HX : Hid (∀ {x : World} {u0 u1 : Value}, BlkQ x g 26 u0 u1 → x.cell? ⟨g, 0, none⟩ = some u0 ∧ x.cell? ⟨g, 1, none⟩ = some u1) := fun h => ⟨h.reads.1, h.reads.2.1⟩
  refine wp_region_held_drew (S := fun x => x.cell? ⟨g, 0, none⟩ = some (.slice A3 q.m.length c3) ∧ x.cell? ⟨g, 1, none⟩ = some (.slice A4 q.rs.length c4)) (by kernel_rfl) (HX.out xb) (fun hHeld => ?_)
  refine wpAnyH_take (i := 0) (oi := _) (v := ?_) rfl (by kernel_rfl) (by kernel_rfl) (by kernel_rfl) (fun _ _ _ h => h) (Or.inl ⟨by rfl, ?_⟩) hHeld ?_
  rotate_left
  · (intro w' hSw; (try dsimp only at hSw); go_simp <;> with_reducible rfl)
  try simp only [Act.put, List.getElem_toArray, List.getElem_cons_succ, List.getElem_cons_zero, List.setIfInBounds_toArray, List.set_cons_zero, List.set_cons_succ]
  refine wpAnyH_take (i := 1) (oi := _) (v := ?_) rfl (by kernel_rfl) (by kernel_rfl) (by kernel_rfl) (fun _ _ _ h => h) (Or.inl ⟨by rfl, ?_⟩) hHeld ?_
  rotate_left
  · (intro w' hSw; (try dsimp only at hSw); go_simp <;> with_reducible rfl)
  try simp only [Act.put, List.getElem_toArray, List.getElem_cons_succ, List.getElem_cons_zero, List.setIfInBounds_toArray, List.set_cons_zero, List.set_cons_succ]
  refine wpAnyH_take (i := 2) (oi := _) (v := ?_) rfl (by kernel_rfl) (by kernel_rfl) (by kernel_rfl) (fun _ _ _ h => h) (Or.inl ⟨by rfl, ?_⟩) hHeld ?_
  rotate_left
  · (intro w' hSw; (try dsimp only at hSw); go_simp <;> with_reducible rfl)
  try simp only [Act.put, List.getElem_toArray, List.getElem_cons_succ, List.getElem_cons_zero, List.setIfInBounds_toArray, List.set_cons_zero, List.set_cons_succ]
  refine wpAnyH_ready (rs := [3]) (by kernel_rfl) (by simp) (AllReadyH.cons (o := _) rfl (fun K hK => ?_) AllReadyH.nil)
  try simp only [Act.put, List.getElem_toArray, List.getElem_cons_succ, List.getElem_cons_zero, List.setIfInBounds_toArray, List.set_cons_zero, List.set_cons_succ]
  go_simp
  go_at_call 77
  refine (l92Area_any R _ _ q _ R4 (by omega) o2 s2.2.2.1).mono ?_
  rintro e w6 ⟨t, rfl, R6, T6⟩
  replace o2 := o2.but T6 (Nat.lt_succ_self R)
  replace x2 := x2.but T6 (by omega)
  replace xb := xb.but T6 (by omega)
  have z4 := b2.size
  replace b2 := b2.trans (T6.below b2.size (by omega))
  clear R4 T6 R6
  refine hK.out _ _ (HX.out xb) (fun hHeld => ?_)
  clear hK K
  try simp only [Act.put, List.getElem_toArray, List.getElem_cons_succ, List.getElem_cons_zero, List.setIfInBounds_toArray, List.set_cons_zero, List.set_cons_succ]
  obtain ⟨r0, r1, rf⟩ := id x2.reads
  refine wpAnyH_ready (rs := [4]) (by kernel_rfl) (by simp) (AllReadyH.cons (o := _) rfl (fun K hK => ?_) AllReadyH.nil)
  try simp only [Act.put, List.getElem_toArray, List.getElem_cons_succ, List.getElem_cons_zero, List.setIfInBounds_toArray, List.set_cons_zero, List.set_cons_succ]
  go_simp
  have xb' := (xb.far (p := ⟨w.heap.size, 0, none⟩) (by show g ≠ w.heap.size; omega) (.slice A3 q.m.length c3)).far (p := ⟨w.heap.size, 1, none⟩) (by show g ≠ w.heap.size; omega) (.slice A4 q.rs.length c4)
  refine hK.out _ _ (HX.out xb') (fun hHeld => ?_)
  clear hK K
  try simp only [Act.put, List.getElem_toArray, List.getElem_cons_succ, List.getElem_cons_zero, List.setIfInBounds_toArray, List.set_cons_zero, List.set_cons_succ]
  refine wpAnyH_take (i := 5) (oi := _) (v := ?_) rfl (by kernel_rfl) (by kernel_rfl) (by kernel_rfl) (fun _ _ _ h => h) (Or.inl ⟨by rfl, ?_⟩) hHeld ?_
  rotate_left
  · (intro w' hSw; (try dsimp only at hSw); go_simp <;> with_reducible rfl)
  try simp only [Act.put, List.getElem_toArray, List.getElem_cons_succ, List.getElem_cons_zero, List.setIfInBounds_toArray, List.set_cons_zero, List.set_cons_succ]
  refine wpAnyH_done (by kernel_rfl) ?_ _
  obtain ⟨p0, p1⟩ := x2.two (.slice A3 q.m.length c3) (.slice A4 q.rs.length c4)
  have q9 := (o2.stored x2).1.base (B' := w.heap.size) (by omega)
  have b9 := (b2.setCell (p := ⟨w.heap.size, 0, none⟩) (Nat.le_refl _) (.slice A3 q.m.length c3)).setCell (p := ⟨w.heap.size, 1, none⟩) (Nat.le_refl _) (.slice A4 q.rs.length c4)
  clear hHeld xb' xb o2 r0 r1 rf HX
  go_wp2
  exact bodyPost_ret (v := .tuple #[.agg #[.slice A3 q.m.length c3, .slice A4 q.rs.length c4], .int .i64 t]) (by simp [results, Try.results30, go_sem, p0, p1]) rfl ⟨_, q, t, rfl, q9, f2, b9⟩
set_option maxHeartbeats 4000000 in
theorem DrawQuarantineDiscard_any (A : Option Addr) (c : Nat) (bs : List Int) (w : World) (h : Code_ w A c bs) :
    Calls Try.prog 33 #[.slice A bs.length c] w (QTxnMade w) := by
  go_enter Try.func33, Try.ntmps33
  have al := (Below.refl w.heap.size w).alloc (Nat.le_refl _) (.cells #[.slice none 0 0, .slice none 0 0] 26)
  have x0 := BlkQ.new_ w 26 (.slice none 0 0) (.slice none 0 0)
  obtain ⟨w0, hw0⟩ : ∃ w0, w.alloc (.cells #[.slice none 0 0, .slice none 0 0] 26) = w0 := ⟨_, rfl⟩
  rw [hw0] at al x0
  go_wp2_with fail
  refine (DrawQuarantinePromote_any A c bs w0 (h.below al)).mono ?_
  rintro e w2 ⟨v, q, t, rfl, o2', f2, b1⟩
  have x2 := x0.later b1
  have z0 := al.size
  have b2 := al.trans (b1.mono al.size)
  have o2 := o2'.base (B' := w.heap.size) z0
  obtain ⟨A3, c3, A4, c4, rfl, -, -, -, -⟩ := id o2
  unfold qv at *
  have q9 := (o2.stored x2).1
  have b9 := (b2.setCell (p := ⟨w.heap.size, 0, none⟩) (Nat.le_refl _) (.slice A3 q.m.length c3)).setCell (p := ⟨w.heap.size, 1, none⟩) (Nat.le_refl _) (.slice A4 q.rs.length c4)
  obtain ⟨p0, p1⟩ := x2.two (.slice A3 q.m.length c3) (.slice A4 q.rs.length c4)
  obtain ⟨r0, r1, rf⟩ := id x2.reads
  clear x0 al h o2' hw0
  go_wp2
  exact bodyPost_ret (v := .tuple #[.agg #[.slice A3 q.m.length c3, .slice A4 q.rs.length c4], .int .i64 t]) (by simp [results, Try.results33, go_sem, p0, p1]) rfl ⟨_, q, t, rfl, q9, f2, b9⟩
end Go.Proofs.Ytblknnifccmpkaa
