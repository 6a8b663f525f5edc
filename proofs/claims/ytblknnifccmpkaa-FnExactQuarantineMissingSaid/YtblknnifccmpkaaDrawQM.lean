/-
  Walks: what the laws on missing objects of quarantines draw.
-/
import Derived.Test.YtblknnifccmpkaaDrawQA
namespace Go.Proofs.Ytblknnifccmpkaa
open Go.RowKit Wo Pu Qu

/-- A drawn quarantine, a transaction and ids. -/
def QIdsMade (w : World) (e : Ending) (w' : World) : Prop :=
  ∃ v q t A c L, e = .returned (.tuple #[v, .int .i64 t, .slice A (List.length L) c]) ∧ Quar w' w'.heap.size v q ∧ FitQ q ∧ Row w' w'.heap.size A (ints L) ∧ L.length ≤ 992 ∧ Below w.heap.size w w'
set_option linter.unusedSimpArgs false in
set_option maxRecDepth 100000 in
set_option maxHeartbeats 4000000 in
theorem DrawQuarantineMissing_any (A : Option Addr) (c : Nat) (bs : List Int) (w : World) (h : Code_ w A c bs) :
    Calls Try.prog 36 #[.slice A bs.length c] w (QIdsMade w) := by
  go_enter Try.func36, Try.ntmps36
  obtain ⟨w0, hw0⟩ : ∃ w0, w.alloc (.cells #[.slice none 0 0, .slice none 0 0] 26) = w0 := ⟨_, rfl⟩
  have al := (Below.refl w.heap.size w).alloc (Nat.le_refl _) (.cells #[.slice none 0 0, .slice none 0 0] 26)
  have x0 := BlkQ.new_ w 26 (.slice none 0 0) (.slice none 0 0)
  have z0 : w0.heap.size = w.heap.size + 1 := by rw [← hw0]; simp
  rw [hw0] at al x0
  replace h := h.below al
  obtain ⟨R, hR⟩ : ∃ R, w0.heap.size = R := ⟨_, rfl⟩
  have hRw : w.heap.size < R := by omega
  clear z0
  go_wp2_with fail
  refine (l6Open_any A c bs w0 h).mono ?_
  rintro e w1 ⟨rfl, R1, b1⟩
  have x1 := x0.later b1
  rw [hR] at R1
  go_wp2_with fail
  refine (l92Quarantine_any R 0 w1 R1 (by omega)).mono ?_
  rintro e w2 ⟨v, q, rfl, o2', s2, R2, T2⟩
  have bb : Below w.heap.size w w1 := al.trans (b1.mono al.size)
  have b2 := bb.trans (T2.below bb.size (by omega))
  have x2 := x1.but T2 (by omega)
  have f2 := s2.fit
  have o2 := o2'.base (B' := R + 1) R1.lt
  obtain ⟨A3, c3, A4, c4, rfl, -, -, -, -⟩ := id o2
  unfold qv at *
  have hRg : R < w2.heap.size := R2.lt
  have a3 := (Below.refl w2.heap.size w2).alloc (Nat.le_refl _) (.cells #[.slice A3 q.m.length c3, .slice A4 q.rs.length c4] 26)
  have xb := BlkQ.new_ w2 26 (.slice A3 q.m.length c3) (.slice A4 q.rs.length c4)
  obtain ⟨g, hg⟩ : ∃ g, w2.heap.size = g := ⟨_, rfl⟩
  obtain ⟨w3, hw3⟩ : ∃ w3, w2.alloc (.cells #[.slice A3 q.m.length c3, .slice A4 q.rs.length c4] 26) = w3 := ⟨_, rfl⟩
  rw [hw3] at a3 xb
  replace x2 := x2.later a3
  replace o2 := o2.below a3
  replace R2 := R2.below a3 R2.lt
  replace b2 := b2.trans (a3.mono b2.size)
  rw [hg] at xb hRg
  clear x0 x1 o2' al b1 bb T2 R1 hw0 a3
  obtain ⟨y0, y1, -⟩ := id xb.reads
  go_wp2_with fail
  refine (l92Area_any R _ _ q _ R2 (by omega) o2 s2.2.2.1).mono ?_
  rintro e w4 ⟨t, rfl, R3, T3⟩
  replace o2 := o2.but T3 (Nat.lt_succ_self R)
  replace x2 := x2.but T3 (by omega)
  replace xb := xb.but T3 (by omega)
  replace b2 := b2.trans (But.below T3 b2.size (by omega))
  clear R2 y0 y1 T3
  obtain ⟨y0, y1, -⟩ := id xb.reads
  have q4 := o2.quar
  obtain ⟨r, hr⟩ := idx_ex q.rs t
  go_wp2_with fail
  refine (l13Find_is r _ q t w4 q4 (by have := s2.2.2.1; omega) hr).mono ?_
  rintro e w5 ⟨rfl, b5⟩
  replace o2 := o2.below b5
  replace x2 := x2.later b5
  replace xb := xb.later b5
  replace b2 := b2.trans (b5.mono b2.size)
  have R5 := R3.below b5 R3.lt
  clear R3 y0 y1 q4 b5
  obtain ⟨y0, y1, -⟩ := id xb.reads
  rcases hr with ⟨rfl, -, -⟩ | ⟨k, hk, rfl, -, -, -⟩
  · have e0 : decide ((0 : Int) ≤ -1) = false := by decide
    go_wp2_with fail
    have dr := Below.refl (w5).heap.size w5 |>.drew
    replace x2 := x2.later dr
    replace xb := xb.later dr
    replace o2 := o2.below dr
    replace b2 := b2.trans (dr.mono b2.size)
    have R6 := (R5).below dr (R5).lt
    clear y0 y1 dr
    have HX : Hid (∀ {x : World} {u0 u1 : Value}, BlkQ x g 26 u0 u1 → x.cell? ⟨g, 0, none⟩ = some u0 ∧ x.cell? ⟨g, 1, none⟩ = some u1) := fun h => ⟨h.reads.1, h.reads.2.1⟩
    refine wp_region_held_drew (S := fun x => x.cell? ⟨g, 0, none⟩ = some (.slice A3 q.m.length c3) ∧ x.cell? ⟨g, 1, none⟩ = some (.slice A4 q.rs.length c4)) (by kernel_rfl) (HX.out xb) (fun hHeld => ?_)
    refine wpAnyH_take (i := 0) (oi := _) (v := ?_) rfl (by kernel_rfl) (by kernel_rfl) (by kernel_rfl) (fun _ _ _ h => h) (Or.inl ⟨by rfl, ?_⟩) hHeld ?_
    rotate_left
    · (intro w' hSw; (try dsimp only at hSw); go_simp <;> with_reducible rfl)
    try simp only [Act.put, List.getElem_toArray, List.getElem_cons_succ, List.getElem_cons_zero, List.setIfInBounds_toArray, List.set_cons_zero, List.set_cons_succ]
    refine wpAnyH_take (i := 1) (oi := _) (v := ?_) rfl (by kernel_rfl) (by kernel_rfl) (by kernel_rfl) (fun _ _ _ h => h) (Or.inl ⟨by rfl, ?_⟩) hHeld ?_
    rotate_left
    · (intro w' hSw; (try dsimp only at hSw); go_simp <;> with_reducible rfl)
    try simp only [Act.put, List.getElem_toArray, List.getElem_cons_succ, List.getElem_cons_zero, List.setIfInBounds_toArray, List.set_cons_zero, List.set_cons_succ]
    refine wpAnyH_take (i := 2) (oi := _) (v := ?_) rfl (by kernel_rfl) (by kernel_rfl) (by kernel_rfl) (fun _ _ _ h => h) (Or.inl ⟨by rfl, ?_⟩) hHeld ?_
    rotate_left
    · (intro w' hSw; (try dsimp only at hSw); go_simp <;> with_reducible rfl)
    try simp only [Act.put, List.getElem_toArray, List.getElem_cons_succ, List.getElem_cons_zero, List.setIfInBounds_toArray, List.set_cons_zero, List.set_cons_succ]
    refine wpAnyH_take (i := 3) (oi := _) (v := ?_) rfl (by kernel_rfl) (by kernel_rfl) (by kernel_rfl) (fun _ _ _ h => h) (Or.inl ⟨by rfl, ?_⟩) hHeld ?_
    rotate_left
    · (intro w' hSw; (try dsimp only at hSw); go_simp <;> with_reducible rfl)
    try simp only [Act.put, List.getElem_toArray, List.getElem_cons_succ, List.getElem_cons_zero, List.setIfInBounds_toArray, List.set_cons_zero, List.set_cons_succ]
    refine wpAnyH_take (i := 4) (oi := _) (v := ?_) rfl (by kernel_rfl) (by kernel_rfl) (by kernel_rfl) (fun _ _ _ h => h) (Or.inl ⟨by rfl, ?_⟩) hHeld ?_
    rotate_left
    · (intro w' hSw; (try dsimp only at hSw); go_simp <;> with_reducible rfl)
    try simp only [Act.put, List.getElem_toArray, List.getElem_cons_succ, List.getElem_cons_zero, List.setIfInBounds_toArray, List.set_cons_zero, List.set_cons_succ]
    refine wpAnyH_ready (rs := [5]) (by kernel_rfl) (by simp) (AllReadyH.cons (o := _) rfl (fun K hK => ?_) AllReadyH.nil)
    try simp only [Act.put, List.getElem_toArray, List.getElem_cons_succ, List.getElem_cons_zero, List.setIfInBounds_toArray, List.set_cons_zero, List.set_cons_succ]
    go_simp
    go_at_call 79
    refine (l91Ids_any R _ _ _ _ _ R6 (by omega) (o2.parts.1) (s2.1) (s2.2.1)).mono ?_
    rintro e w7 ⟨A7, c7, L, rfl, o7, hL, R7, T7⟩
    replace o2 := o2.but T7 (Nat.lt_succ_self R)
    replace x2 := x2.but T7 (by omega)
    replace xb := xb.but T7 (by omega)
    have z4 := b2.size
    have hRz := R6.lt
    replace b2 := b2.trans (T7.below b2.size (by omega))
    clear R6 T7 R7
    refine hK.out _ _ (HX.out xb) (fun hHeld => ?_)
    clear hK K
    try simp only [Act.put, List.getElem_toArray, List.getElem_cons_succ, List.getElem_cons_zero, List.setIfInBounds_toArray, List.set_cons_zero, List.set_cons_succ]
    obtain ⟨r0, r1, rf⟩ := id x2.reads
    refine wpAnyH_ready (rs := [6]) (by kernel_rfl) (by simp) (AllReadyH.cons (o := _) rfl (fun K hK => ?_) AllReadyH.nil)
    try simp only [Act.put, List.getElem_toArray, List.getElem_cons_succ, List.getElem_cons_zero, List.setIfInBounds_toArray, List.set_cons_zero, List.set_cons_succ]
    go_simp
    have xb' := (xb.far (p := ⟨w.heap.size, 0, none⟩) (by show g ≠ w.heap.size; omega) (.slice A3 q.m.length c3)).far (p := ⟨w.heap.size, 1, none⟩) (by show g ≠ w.heap.size; omega) (.slice A4 q.rs.length c4)
    refine hK.out _ _ (HX.out xb') (fun hHeld => ?_)
    clear hK K
    try simp only [Act.put, List.getElem_toArray, List.getElem_cons_succ, List.getElem_cons_zero, List.setIfInBounds_toArray, List.set_cons_zero, List.set_cons_succ]
    refine wpAnyH_take (i := 7) (oi := _) (v := ?_) rfl (by kernel_rfl) (by kernel_rfl) (by kernel_rfl) (fun _ _ _ h => h) (Or.inl ⟨by rfl, ?_⟩) hHeld ?_
    rotate_left
    · (intro w' hSw; (try dsimp only at hSw); go_simp <;> with_reducible rfl)
    try simp only [Act.put, List.getElem_toArray, List.getElem_cons_succ, List.getElem_cons_zero, List.setIfInBounds_toArray, List.set_cons_zero, List.set_cons_succ]
    refine wpAnyH_take (i := 8) (oi := _) (v := ?_) rfl (by kernel_rfl) (by kernel_rfl) (by kernel_rfl) (fun _ _ _ h => h) (Or.inl ⟨by rfl, ?_⟩) hHeld ?_
    rotate_left
    · (intro w' hSw; (try dsimp only at hSw); go_simp <;> with_reducible rfl)
    try simp only [Act.put, List.getElem_toArray, List.getElem_cons_succ, List.getElem_cons_zero, List.setIfInBounds_toArray, List.set_cons_zero, List.set_cons_succ]
    refine wpAnyH_done (by kernel_rfl) ?_ _
    obtain ⟨p0, p1⟩ := x2.two (.slice A3 q.m.length c3) (.slice A4 q.rs.length c4)
    have q9 := (o2.stored x2).1.quar
    have o9 := ((o7.but (but_set _ w.heap.size 0 (.slice A3 q.m.length c3)) (by omega)).but (but_set _ w.heap.size 1 (.slice A4 q.rs.length c4)) (by omega)).row
    have b9 := (b2.setCell (p := ⟨w.heap.size, 0, none⟩) (Nat.le_refl _) (.slice A3 q.m.length c3)).setCell (p := ⟨w.heap.size, 1, none⟩) (Nat.le_refl _) (.slice A4 q.rs.length c4)
    clear hHeld xb' xb o2 o7 r0 r1 rf HX
    go_wp2
    exact bodyPost_ret (v := .tuple #[.agg #[.slice A3 q.m.length c3, .slice A4 q.rs.length c4], .int .i64 t, .slice A7 L.length c7]) (by simp [results, Try.results36, go_sem, p0, p1]) rfl ⟨_, q, t, A7, c7, L, rfl, q9, f2, o9, hL, b9⟩
  · have e0 : decide ((0 : Int) ≤ (k : Int)) = true := by simp
    go_wp2_with fail
    refine (pick_any R _ 2 w5 R5 (by omega) (by omega) (by omega)).mono ?_
    rintro e w6 ⟨x, rfl, xx0, xx1, R3, T3⟩
    clear R5
    have R2 := R3
    replace o2 := o2.but T3 (Nat.lt_succ_self R)
    replace x2 := x2.but T3 (by omega)
    replace xb := xb.but T3 (by omega)
    replace b2 := b2.trans (But.below T3 b2.size (by omega))
    clear R2 y0 y1 T3
    obtain ⟨y0, y1, -⟩ := id xb.reads
    by_cases hx : x = 0
    · have e1 : (x == 0) = true := by rw [hx]; rfl
      clear hx
      go_wp2_with fail
      have dr := Below.refl (w6).heap.size w6 |>.drew
      replace x2 := x2.later dr
      replace xb := xb.later dr
      replace o2 := o2.below dr
      replace b2 := b2.trans (dr.mono b2.size)
      have R6 := (R3).below dr (R3).lt
      clear y0 y1 dr
      have HX : Hid (∀ {x : World} {u0 u1 : Value}, BlkQ x g 26 u0 u1 → x.cell? ⟨g, 0, none⟩ = some u0 ∧ x.cell? ⟨g, 1, none⟩ = some u1) := fun h => ⟨h.reads.1, h.reads.2.1⟩
      refine wp_region_held_drew (S := fun x => x.cell? ⟨g, 0, none⟩ = some (.slice A3 q.m.length c3) ∧ x.cell? ⟨g, 1, none⟩ = some (.slice A4 q.rs.length c4)) (by kernel_rfl) (HX.out xb) (fun hHeld => ?_)
      obtain ⟨ys, hrow, har⟩ := o2.parts.2
      have hrow' := hrow
      rcases hrow.2 with ⟨-, h0⟩ | ⟨gr, cap, cur, e4, hgB, hgh, hgn, _⟩
      · omega
      · injection e4 with e4 _ e5
        subst e4
        subst e5
        obtain ⟨A8, c8, k0, k1, k2, k3⟩ := har k hk
        have hs3 := s2.2.2.2 _ (List.getElem_mem hk)
        generalize q.rs[k] = a at *
        have g1 : w6.drew.cell? ⟨gr, k * 2 + 1, none⟩ = some (.slice A8 a.os.length c8) := (World.ownsRow.cellAt hrow' _ (by omega)).trans k1
        clear hrow har k0 k1 hgn hgh hrow'
        refine wpAnyH_take (i := 0) (oi := _) (v := ?_) rfl (by kernel_rfl) (by kernel_rfl) (by kernel_rfl) (fun _ _ _ h => h) (Or.inl ⟨by rfl, ?_⟩) hHeld ?_
        rotate_left
        · (intro w' hSw; (try dsimp only at hSw); go_simp <;> with_reducible rfl)
        try simp only [Act.put, List.getElem_toArray, List.getElem_cons_succ, List.getElem_cons_zero, List.setIfInBounds_toArray, List.set_cons_zero, List.set_cons_succ]
        refine wpAnyH_take (i := 1) (oi := _) (v := ?_) rfl (by kernel_rfl) (by kernel_rfl) (by kernel_rfl) (fun _ _ _ h => h) (Or.inl ⟨by rfl, ?_⟩) hHeld ?_
        rotate_left
        · (intro w' hSw; (try dsimp only at hSw); go_simp <;> with_reducible rfl)
        try simp only [Act.put, List.getElem_toArray, List.getElem_cons_succ, List.getElem_cons_zero, List.setIfInBounds_toArray, List.set_cons_zero, List.set_cons_succ]
        refine wpAnyH_take (i := 2) (oi := _) (v := ?_) rfl (by kernel_rfl) (by kernel_rfl) (by kernel_rfl) (fun _ _ _ h => h) (Or.inl ⟨by rfl, ?_⟩) hHeld ?_
        rotate_left
        · (intro w' hSw; (try dsimp only at hSw); go_simp <;> with_reducible rfl)
        try simp only [Act.put, List.getElem_toArray, List.getElem_cons_succ, List.getElem_cons_zero, List.setIfInBounds_toArray, List.set_cons_zero, List.set_cons_succ]
        refine wpAnyH_take (i := 3) (oi := _) (v := ?_) rfl (by kernel_rfl) (by kernel_rfl) (by kernel_rfl) (fun _ _ _ h => h) (Or.inl ⟨by rfl, ?_⟩) hHeld ?_
        rotate_left
        · (intro w' hSw; (try dsimp only at hSw); go_simp <;> with_reducible rfl)
        try simp only [Act.put, List.getElem_toArray, List.getElem_cons_succ, List.getElem_cons_zero, List.setIfInBounds_toArray, List.set_cons_zero, List.set_cons_succ]
        refine wpAnyH_take (i := 4) (oi := _) (v := ?_) rfl (by kernel_rfl) (by kernel_rfl) (by kernel_rfl) (fun _ _ _ h => h) (Or.inl ⟨by rfl, ?_⟩) hHeld ?_
        rotate_left
        · (intro w' hSw; (try dsimp only at hSw); go_simp <;> with_reducible rfl)
        try simp only [Act.put, List.getElem_toArray, List.getElem_cons_succ, List.getElem_cons_zero, List.setIfInBounds_toArray, List.set_cons_zero, List.set_cons_succ]
        refine wpAnyH_take (i := 5) (oi := _) (v := ?_) rfl (by kernel_rfl) (by kernel_rfl) (by kernel_rfl) (fun _ _ _ h => h) (Or.inl ⟨by rfl, ?_⟩) hHeld ?_
        rotate_left
        · (intro w' hSw; (try dsimp only at hSw); go_simp <;> with_reducible rfl)
        try simp only [Act.put, List.getElem_toArray, List.getElem_cons_succ, List.getElem_cons_zero, List.setIfInBounds_toArray, List.set_cons_zero, List.set_cons_succ]
        refine wpAnyH_take (i := 6) (oi := _) (v := ?_) rfl (by kernel_rfl) (by kernel_rfl) (by kernel_rfl) (fun _ _ _ h => h) (Or.inl ⟨by rfl, ?_⟩) hHeld ?_
        rotate_left
        · (intro w' hSw; (try dsimp only at hSw); go_simp <;> with_reducible rfl)
        try simp only [Act.put, List.getElem_toArray, List.getElem_cons_succ, List.getElem_cons_zero, List.setIfInBounds_toArray, List.set_cons_zero, List.set_cons_succ]
        refine wpAnyH_take (i := 7) (oi := _) (v := ?_) rfl (by kernel_rfl) (by kernel_rfl) (by kernel_rfl) (fun _ _ _ h => h) (Or.inl ⟨by rfl, ?_⟩) hHeld ?_
        rotate_left
        · (intro w' hSw; (try dsimp only at hSw); go_simp <;> with_reducible rfl)
        try simp only [Act.put, List.getElem_toArray, List.getElem_cons_succ, List.getElem_cons_zero, List.setIfInBounds_toArray, List.set_cons_zero, List.set_cons_succ]
        refine wpAnyH_ready (rs := [8]) (by kernel_rfl) (by simp) (AllReadyH.cons (o := _) rfl (fun K hK => ?_) AllReadyH.nil)
        try simp only [Act.put, List.getElem_toArray, List.getElem_cons_succ, List.getElem_cons_zero, List.setIfInBounds_toArray, List.set_cons_zero, List.set_cons_succ]
        go_simp
        refine hK.out _ _ (HX.out xb) (fun hHeld => ?_)
        clear hK K
        try simp only [Act.put, List.getElem_toArray, List.getElem_cons_succ, List.getElem_cons_zero, List.setIfInBounds_toArray, List.set_cons_zero, List.set_cons_succ]
        refine wpAnyH_ready (rs := [9]) (by kernel_rfl) (by simp) (AllReadyH.cons (o := _) rfl (fun K hK => ?_) AllReadyH.nil)
        try simp only [Act.put, List.getElem_toArray, List.getElem_cons_succ, List.getElem_cons_zero, List.setIfInBounds_toArray, List.set_cons_zero, List.set_cons_succ]
        go_simp
        go_at_call 79
        refine (l91Ids_any R _ _ _ _ _ R6 (by omega) (k3) (hs3.1) (hs3.2)).mono ?_
        rintro e w7 ⟨A7, c7, L, rfl, o7, hL, R7, T7⟩
        replace o2 := o2.but T7 (Nat.lt_succ_self R)
        replace x2 := x2.but T7 (by omega)
        replace xb := xb.but T7 (by omega)
        have z4 := b2.size
        have hRz := R6.lt
        replace b2 := b2.trans (T7.below b2.size (by omega))
        clear R6 T7 R7
        refine hK.out _ _ (HX.out xb) (fun hHeld => ?_)
        clear hK K
        try simp only [Act.put, List.getElem_toArray, List.getElem_cons_succ, List.getElem_cons_zero, List.setIfInBounds_toArray, List.set_cons_zero, List.set_cons_succ]
        obtain ⟨r0, r1, rf⟩ := id x2.reads
        refine wpAnyH_ready (rs := [10]) (by kernel_rfl) (by simp) (AllReadyH.cons (o := _) rfl (fun K hK => ?_) AllReadyH.nil)
        try simp only [Act.put, List.getElem_toArray, List.getElem_cons_succ, List.getElem_cons_zero, List.setIfInBounds_toArray, List.set_cons_zero, List.set_cons_succ]
        go_simp
        have xb' := (xb.far (p := ⟨w.heap.size, 0, none⟩) (by show g ≠ w.heap.size; omega) (.slice A3 q.m.length c3)).far (p := ⟨w.heap.size, 1, none⟩) (by show g ≠ w.heap.size; omega) (.slice (some ⟨gr, 0, none⟩) q.rs.length c4)
        refine hK.out _ _ (HX.out xb') (fun hHeld => ?_)
        clear hK K
        try simp only [Act.put, List.getElem_toArray, List.getElem_cons_succ, List.getElem_cons_zero, List.setIfInBounds_toArray, List.set_cons_zero, List.set_cons_succ]
        refine wpAnyH_take (i := 11) (oi := _) (v := ?_) rfl (by kernel_rfl) (by kernel_rfl) (by kernel_rfl) (fun _ _ _ h => h) (Or.inl ⟨by rfl, ?_⟩) hHeld ?_
        rotate_left
        · (intro w' hSw; (try dsimp only at hSw); go_simp <;> with_reducible rfl)
        try simp only [Act.put, List.getElem_toArray, List.getElem_cons_succ, List.getElem_cons_zero, List.setIfInBounds_toArray, List.set_cons_zero, List.set_cons_succ]
        refine wpAnyH_take (i := 12) (oi := _) (v := ?_) rfl (by kernel_rfl) (by kernel_rfl) (by kernel_rfl) (fun _ _ _ h => h) (Or.inl ⟨by rfl, ?_⟩) hHeld ?_
        rotate_left
        · (intro w' hSw; (try dsimp only at hSw); go_simp <;> with_reducible rfl)
        try simp only [Act.put, List.getElem_toArray, List.getElem_cons_succ, List.getElem_cons_zero, List.setIfInBounds_toArray, List.set_cons_zero, List.set_cons_succ]
        refine wpAnyH_done (by kernel_rfl) ?_ _
        obtain ⟨p0, p1⟩ := x2.two (.slice A3 q.m.length c3) (.slice (some ⟨gr, 0, none⟩) q.rs.length c4)
        have q9 := (o2.stored x2).1.quar
        have o9 := ((o7.but (but_set _ w.heap.size 0 (.slice A3 q.m.length c3)) (by omega)).but (but_set _ w.heap.size 1 (.slice (some ⟨gr, 0, none⟩) q.rs.length c4)) (by omega)).row
        have b9 := (b2.setCell (p := ⟨w.heap.size, 0, none⟩) (Nat.le_refl _) (.slice A3 q.m.length c3)).setCell (p := ⟨w.heap.size, 1, none⟩) (Nat.le_refl _) (.slice (some ⟨gr, 0, none⟩) q.rs.length c4)
        clear hHeld xb' xb o2 o7 r0 r1 rf HX
        go_wp2
        exact bodyPost_ret (v := .tuple #[.agg #[.slice A3 q.m.length c3, .slice (some ⟨gr, 0, none⟩) q.rs.length c4], .int .i64 t, .slice A7 L.length c7]) (by simp [results, Try.results36, go_sem, p0, p1]) rfl ⟨_, q, t, A7, c7, L, rfl, q9, f2, o9, hL, b9⟩
    · have e1 : (x == 0) = false := by rw [beq_eq_false_iff_ne]; exact hx
      go_wp2_with fail
      have dr := Below.refl (w6).heap.size w6 |>.drew
      replace x2 := x2.later dr
      replace xb := xb.later dr
      replace o2 := o2.below dr
      replace b2 := b2.trans (dr.mono b2.size)
      have R6 := (R3).below dr (R3).lt
      clear y0 y1 dr
      have HX : Hid (∀ {x : World} {u0 u1 : Value}, BlkQ x g 26 u0 u1 → x.cell? ⟨g, 0, none⟩ = some u0 ∧ x.cell? ⟨g, 1, none⟩ = some u1) := fun h => ⟨h.reads.1, h.reads.2.1⟩
      refine wp_region_held_drew (S := fun x => x.cell? ⟨g, 0, none⟩ = some (.slice A3 q.m.length c3) ∧ x.cell? ⟨g, 1, none⟩ = some (.slice A4 q.rs.length c4)) (by kernel_rfl) (HX.out xb) (fun hHeld => ?_)
      refine wpAnyH_take (i := 0) (oi := _) (v := ?_) rfl (by kernel_rfl) (by kernel_rfl) (by kernel_rfl) (fun _ _ _ h => h) (Or.inl ⟨by rfl, ?_⟩) hHeld ?_
      rotate_left
      · (intro w' hSw; (try dsimp only at hSw); go_simp <;> with_reducible rfl)
      try simp only [Act.put, List.getElem_toArray, List.getElem_cons_succ, List.getElem_cons_zero, List.setIfInBounds_toArray, List.set_cons_zero, List.set_cons_succ]
      refine wpAnyH_take (i := 1) (oi := _) (v := ?_) rfl (by kernel_rfl) (by kernel_rfl) (by kernel_rfl) (fun _ _ _ h => h) (Or.inl ⟨by rfl, ?_⟩) hHeld ?_
      rotate_left
      · (intro w' hSw; (try dsimp only at hSw); go_simp <;> with_reducible rfl)
      try simp only [Act.put, List.getElem_toArray, List.getElem_cons_succ, List.getElem_cons_zero, List.setIfInBounds_toArray, List.set_cons_zero, List.set_cons_succ]
      refine wpAnyH_take (i := 2) (oi := _) (v := ?_) rfl (by kernel_rfl) (by kernel_rfl) (by kernel_rfl) (fun _ _ _ h => h) (Or.inl ⟨by rfl, ?_⟩) hHeld ?_
      rotate_left
      · (intro w' hSw; (try dsimp only at hSw); go_simp <;> with_reducible rfl)
      try simp only [Act.put, List.getElem_toArray, List.getElem_cons_succ, List.getElem_cons_zero, List.setIfInBounds_toArray, List.set_cons_zero, List.set_cons_succ]
      refine wpAnyH_take (i := 3) (oi := _) (v := ?_) rfl (by kernel_rfl) (by kernel_rfl) (by kernel_rfl) (fun _ _ _ h => h) (Or.inl ⟨by rfl, ?_⟩) hHeld ?_
      rotate_left
      · (intro w' hSw; (try dsimp only at hSw); go_simp <;> with_reducible rfl)
      try simp only [Act.put, List.getElem_toArray, List.getElem_cons_succ, List.getElem_cons_zero, List.setIfInBounds_toArray, List.set_cons_zero, List.set_cons_succ]
      refine wpAnyH_take (i := 4) (oi := _) (v := ?_) rfl (by kernel_rfl) (by kernel_rfl) (by kernel_rfl) (fun _ _ _ h => h) (Or.inl ⟨by rfl, ?_⟩) hHeld ?_
      rotate_left
      · (intro w' hSw; (try dsimp only at hSw); go_simp <;> with_reducible rfl)
      try simp only [Act.put, List.getElem_toArray, List.getElem_cons_succ, List.getElem_cons_zero, List.setIfInBounds_toArray, List.set_cons_zero, List.set_cons_succ]
      refine wpAnyH_ready (rs := [5]) (by kernel_rfl) (by simp) (AllReadyH.cons (o := _) rfl (fun K hK => ?_) AllReadyH.nil)
      try simp only [Act.put, List.getElem_toArray, List.getElem_cons_succ, List.getElem_cons_zero, List.setIfInBounds_toArray, List.set_cons_zero, List.set_cons_succ]
      go_simp
      go_at_call 79
      refine (l91Ids_any R _ _ _ _ _ R6 (by omega) (o2.parts.1) (s2.1) (s2.2.1)).mono ?_
      rintro e w7 ⟨A7, c7, L, rfl, o7, hL, R7, T7⟩
      replace o2 := o2.but T7 (Nat.lt_succ_self R)
      replace x2 := x2.but T7 (by omega)
      replace xb := xb.but T7 (by omega)
      have z4 := b2.size
      have hRz := R6.lt
      replace b2 := b2.trans (T7.below b2.size (by omega))
      clear R6 T7 R7
      refine hK.out _ _ (HX.out xb) (fun hHeld => ?_)
      clear hK K
      try simp only [Act.put, List.getElem_toArray, List.getElem_cons_succ, List.getElem_cons_zero, List.setIfInBounds_toArray, List.set_cons_zero, List.set_cons_succ]
      obtain ⟨r0, r1, rf⟩ := id x2.reads
      refine wpAnyH_ready (rs := [6]) (by kernel_rfl) (by simp) (AllReadyH.cons (o := _) rfl (fun K hK => ?_) AllReadyH.nil)
      try simp only [Act.put, List.getElem_toArray, List.getElem_cons_succ, List.getElem_cons_zero, List.setIfInBounds_toArray, List.set_cons_zero, List.set_cons_succ]
      go_simp
      have xb' := (xb.far (p := ⟨w.heap.size, 0, none⟩) (by show g ≠ w.heap.size; omega) (.slice A3 q.m.length c3)).far (p := ⟨w.heap.size, 1, none⟩) (by show g ≠ w.heap.size; omega) (.slice A4 q.rs.length c4)
      refine hK.out _ _ (HX.out xb') (fun hHeld => ?_)
      clear hK K
      try simp only [Act.put, List.getElem_toArray, List.getElem_cons_succ, List.getElem_cons_zero, List.setIfInBounds_toArray, List.set_cons_zero, List.set_cons_succ]
      refine wpAnyH_take (i := 7) (oi := _) (v := ?_) rfl (by kernel_rfl) (by kernel_rfl) (by kernel_rfl) (fun _ _ _ h => h) (Or.inl ⟨by rfl, ?_⟩) hHeld ?_
      rotate_left
      · (intro w' hSw; (try dsimp only at hSw); go_simp <;> with_reducible rfl)
      try simp only [Act.put, List.getElem_toArray, List.getElem_cons_succ, List.getElem_cons_zero, List.setIfInBounds_toArray, List.set_cons_zero, List.set_cons_succ]
      refine wpAnyH_take (i := 8) (oi := _) (v := ?_) rfl (by kernel_rfl) (by kernel_rfl) (by kernel_rfl) (fun _ _ _ h => h) (Or.inl ⟨by rfl, ?_⟩) hHeld ?_
      rotate_left
      · (intro w' hSw; (try dsimp only at hSw); go_simp <;> with_reducible rfl)
      try simp only [Act.put, List.getElem_toArray, List.getElem_cons_succ, List.getElem_cons_zero, List.setIfInBounds_toArray, List.set_cons_zero, List.set_cons_succ]
      refine wpAnyH_done (by kernel_rfl) ?_ _
      obtain ⟨p0, p1⟩ := x2.two (.slice A3 q.m.length c3) (.slice A4 q.rs.length c4)
      have q9 := (o2.stored x2).1.quar
      have o9 := ((o7.but (but_set _ w.heap.size 0 (.slice A3 q.m.length c3)) (by omega)).but (but_set _ w.heap.size 1 (.slice A4 q.rs.length c4)) (by omega)).row
      have b9 := (b2.setCell (p := ⟨w.heap.size, 0, none⟩) (Nat.le_refl _) (.slice A3 q.m.length c3)).setCell (p := ⟨w.heap.size, 1, none⟩) (Nat.le_refl _) (.slice A4 q.rs.length c4)
      clear hHeld xb' xb o2 o7 r0 r1 rf HX
      go_wp2
      exact bodyPost_ret (v := .tuple #[.agg #[.slice A3 q.m.length c3, .slice A4 q.rs.length c4], .int .i64 t, .slice A7 L.length c7]) (by simp [results, Try.results36, go_sem, p0, p1]) rfl ⟨_, q, t, A7, c7, L, rfl, q9, f2, o9, hL, b9⟩
end Go.Proofs.Ytblknnifccmpkaa
