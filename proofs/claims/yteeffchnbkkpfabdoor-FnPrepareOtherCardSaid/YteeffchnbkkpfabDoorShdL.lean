/- The coordinator with the slices $SA and $SB is stored as the answer, with the word $BB. -/
/-
  Walks: the program adds a record to a shard, if it may follow.
-/
import Derived.Test.YteeffchnbkkpfabDoorShdK
namespace Go.Proofs.YteeffchnbkkpfabDoor
open Go.RowKit Wo Pu Rf Lk Sh

/- The new record in a slice of its own. -/
/- The append and what follows. -/
/-- What lies in memory behind the append: the boxes, the longer list. -/
def ExtF (w : World) (A : Option Addr) (c : Nat) (g : Nat) (A8 : Option Addr) (c8 : Nat) (rs : List Rec) (r : Rec) (y : World) : Prop :=
  Blk1 y w.heap.size 25 (.slice A rs.length c) ∧ Blk1 y (w.heap.size + 1 + 1) 25 (.slice none 0 0) ∧ Blk1 y g 25 (.slice A8 (rs.length + 1) c8) ∧ OwnRecF y w.heap.size (.slice A8 (rs.length + 1) c8) (rs ++ [r]) ∧ Below w.heap.size w y
set_option linter.unusedSimpArgs false in
set_option maxRecDepth 100000 in
set_option maxHeartbeats 16000000 in
theorem extended_is (er0 er1 : Addr) (b : Bool) (xs : List Rec) (v : Value) (rs : List Rec) (A3 : Option Addr) (c3 : Nat) (r : Rec) (w : World) (h : Shd w w.heap.size v rs) (hE : Errs er0 er1 w) (h30 : rs.length ≤ 30) (hf : FitR rs) (hu : Row w w.heap.size A3 (upsV r.us)) (hul : r.us.length ≤ 1048576) (hb : b = true ↔ Vld (rs ++ [r])) (hxs : xs = if b then rs ++ [r] else rs) :
    Calls Tryd.prog 63 #[v, .agg #[.int .i64 r.k, .int .i64 r.t, .slice A3 r.us.length c3]] w (NewShFB xs b w) := by
  obtain ⟨i0, hi, hz0, hz1, hz2⟩ := info_of info_rec
  have hf2 : FitR (rs ++ [r]) := ⟨by simp; omega, fun x hx => by
    rcases List.mem_append.1 hx with hx | hx
    · exact hf.2 x hx
    · rw [List.mem_singleton] at hx; rw [hx]; exact hul⟩
  have CV : Hid (∀ v x, Below w.heap.size w x → Shd x x.heap.size v (rs ++ [r]) → Calls Tryd.prog 36 #[v] x (Ret (.bool b) x)) := fun v x hx hv => implShardValid_is er0 er1 b v (rs ++ [r]) x hv (hE.below hx) hf2 hb
  have CC : Hid (∀ x, Below w.heap.size w x → Calls Tryd.prog 62 #[v] x (NewShF rs x)) := fun x hx => shdCopied_is v rs x (h.on hx hx.size) hf
  have CR : Hid (∀ x, Below w.heap.size w x → Calls Tryd.prog 87 #[.agg #[.int .i64 r.k, .int .i64 r.t, .slice A3 r.us.length c3]] x (NewRec r x)) := fun x hx => recCopied_is A3 c3 r x (row_on hu hx) hul
  have HXS := hid hxs
  obtain ⟨A, c, rfl, h0, hc⟩ := h
  unfold shV at *
  clear hb hE hxs hf2 hf hu
  have b0 := ((((Below.refl w.heap.size w).alloc (Nat.le_refl _) (.cells #[.slice A rs.length c] 25)).alloc (by simp) (.cells #[.int .i64 r.k, .int .i64 r.t, .slice A3 r.us.length c3] 33))).alloc (by simp; omega) (.cells #[.slice none 0 0] 25)
  have x0 := ((Blk1.new_ w 25 (.slice A rs.length c)).alloc (.cells #[.int .i64 r.k, .int .i64 r.t, .slice A3 r.us.length c3] 33)).alloc (.cells #[.slice none 0 0] 25)
  have x1 := (Blk3s.new_ (w.alloc (.cells #[.slice A rs.length c] 25)) 33 (.int .i64 r.k) (.int .i64 r.t) (.slice A3 r.us.length c3)).alloc (.cells #[.slice none 0 0] 25)
  have x2 := Blk1.new_ ((w.alloc (.cells #[.slice A rs.length c] 25)).alloc (.cells #[.int .i64 r.k, .int .i64 r.t, .slice A3 r.us.length c3] 33)) 25 (.slice none 0 0)
  simp only [World.size_alloc] at x1 x2
  go_enter Tryd.func63, Tryd.ntmps63
  go_upto_region 1 with fail
  obtain ⟨w1, hw1⟩ : ∃ x, ((w.alloc (.cells #[.slice A rs.length c] 25)).alloc (.cells #[.int .i64 r.k, .int .i64 r.t, .slice A3 r.us.length c3] 33)).alloc (.cells #[.slice none 0 0] 25) = x := ⟨_, rfl⟩
  rw [hw1] at b0 x0 x1 x2 ⊢
  clear hw1
  obtain ⟨y0, -⟩ := id x0.reads
  go_wp2_with fail
  refine (CC.out _ b0).mono ?_
  rintro e w2 ⟨v2, rfl, ⟨A2, c2, rfl, o2, hc2⟩, d2⟩
  unfold shV
  have b2 := b0.trans (d2.mono b0.size)
  have o2' := o2.base (B' := w.heap.size) b0.size
  have zw1 : w.heap.size + 1 + 1 < w1.heap.size := x2.lt
  have HRB : Hid (∀ k, (Value.slice A2 rs.length c2).ownBlock = some k → w.heap.size + 1 < k) := fun k hk => by have := o2.own.lt k hk; omega
  have zw2 := d2.size
  clear y0 o2
  go_upto_region 2 with fail
  have al := (Below.refl w2.heap.size w2).alloc (Nat.le_refl _) (.cells #[.slice A2 rs.length c2] 25)
  have xg := Blk1.new_ w2 25 (.slice A2 rs.length c2)
  obtain ⟨w3, hw3⟩ : ∃ x, w2.alloc (.cells #[.slice A2 rs.length c2] 25) = x := ⟨_, rfl⟩
  rw [hw3] at al xg ⊢
  clear hw3
  have b3 := b2.trans (al.mono b2.size)
  have d3 := d2.trans (al.mono d2.size)
  replace x0 := x0.later d3
  replace x1 := x1.later d3
  replace x2 := x2.later d3
  have o3 := o2'.below al
  have zg : w.heap.size + 2 < w2.heap.size := by omega
  obtain ⟨g, hgg⟩ : ∃ g, w2.heap.size = g := ⟨_, rfl⟩
  rw [hgg] at xg zg ⊢
  clear d2 d3 al o2' b0 b2 hgg
  have HKP : Hid (∀ x, Below (w3.drewN 1).heap.size (w3.drewN 1) x → (x.cell? ⟨w.heap.size + 1, 0, none⟩ = some (.int .i64 r.k) ∧ x.cell? ⟨w.heap.size + 1, 1, none⟩ = some (.int .i64 r.t) ∧ x.cell? ⟨w.heap.size + 1, 2, none⟩ = some (.slice A3 r.us.length c3)) ∧ x.cell? ⟨g, 0, none⟩ = some (.slice A2 rs.length c2)) := fun x hx => by
    have q1 := (show Blk3s (w3.drewN 1) (w.heap.size + 1) _ _ _ _ from x1).later hx
    have q2 := (show Blk1 (w3.drewN 1) g _ _ from xg).later hx
    exact ⟨⟨q1.reads.1, q1.reads.2.1, q1.reads.2.2.1⟩, q2.reads.1⟩
  have b3d := Wo.Below.drewN b3 1
  have CRc : Hid (∀ x, Below (w3.drewN 1).heap.size (w3.drewN 1) x → Calls Tryd.prog 87 #[.agg #[.int .i64 r.k, .int .i64 r.t, .slice A3 r.us.length c3]] x (NewRec r x)) := fun x hx => CR.out x (b3d.trans (hx.mono b3d.size))
  have NB := Below.refl (w3.drewN 1).heap.size (w3.drewN 1)
  have y1 := xg.reads.1
  obtain ⟨xs3, hr3, ha3, hp3⟩ := id o3
  have hr3d : (w3.drewN 1).ownsRow w.heap.size 33 3 (.slice A2 rs.length c2) rs.length xs3 := hr3
  have HRW : Hid (∀ x, Below (w3.drewN 1).heap.size (w3.drewN 1) x → x.ownsRow w.heap.size 33 3 (.slice A2 rs.length c2) rs.length xs3) := fun x hx => own_below hr3d hx (Nat.le_refl _)
  have HZW : Hid (∀ x, Below (w3.drewN 1).heap.size (w3.drewN 1) x → w.heap.size ≤ x.heap.size) := fun x hx => Nat.le_trans b3d.size hx.size
  have HP : Hid (∀ (w4 w8 : World) (A5 : Option Addr) (c5 : Nat) (v8 : Value), Below (w3.drewN 1).heap.size (w3.drewN 1) w4 → OwnUps w4 (w3.drewN 1).heap.size (.slice A5 r.us.length c5) r.us → r.us.length ≤ c5 →
      w8.ownsRow w.heap.size 33 3 v8 (rs.length + 1) (xs3 ++ [.int .i64 r.k, .int .i64 r.t, .slice A5 r.us.length c5]) → (w4.alloc (.cells #[.int .i64 r.k, .int .i64 r.t, .slice A5 r.us.length c5] 33)).grownBy w8 (Value.slice A2 rs.length c2).ownBlock →
      ∃ A8 c8, v8 = .slice A8 (rs.length + 1) c8 ∧ (w8.cell? ⟨w.heap.size + 1, 0, none⟩ = some (.int .i64 r.k) ∧ w8.cell? ⟨w.heap.size + 1, 1, none⟩ = some (.int .i64 r.t) ∧ w8.cell? ⟨w.heap.size + 1, 2, none⟩ = some (.slice A3 r.us.length c3)) ∧
        ((∃ u, w8.cell? ⟨g, 0, none⟩ = some u) ∧ w8.frozen? ⟨g, 0, none⟩ = false) ∧ ExtF w A c g A8 c8 rs r (w8.setCell ⟨g, 0, none⟩ (.slice A8 (rs.length + 1) c8)) ∧
        ((w8.setCell ⟨g, 0, none⟩ (.slice A8 (rs.length + 1) c8)).cell? ⟨w.heap.size + 1, 0, none⟩ = some (.int .i64 r.k) ∧ (w8.setCell ⟨g, 0, none⟩ (.slice A8 (rs.length + 1) c8)).cell? ⟨w.heap.size + 1, 1, none⟩ = some (.int .i64 r.t) ∧ (w8.setCell ⟨g, 0, none⟩ (.slice A8 (rs.length + 1) c8)).cell? ⟨w.heap.size + 1, 2, none⟩ = some (.slice A3 r.us.length c3))) := by
    intro w4 w8 A5 c5 v8 hb4 ho5 hc5 hown hg8
    have hrow4 := HRW.out w4 hb4
    have al := (Below.refl w4.heap.size w4).alloc (Nat.le_refl _) (.cells #[.int .i64 r.k, .int .i64 r.t, .slice A5 r.us.length c5] 33)
    have hrow' := World.ownsRow.alloc hrow4 (.cells #[.int .i64 r.k, .int .i64 r.t, .slice A5 r.us.length c5] 33)
    have har4 : ∀ j (hj : j < rs.length), RecIs w4 w.heap.size xs3 j rs[j] := fun j hj => by
      obtain ⟨A2, c2, k0, k1, k2, k3, k4⟩ := ha3 j hj
      exact ⟨A2, c2, k0, k1, k2, k3, (show OwnUps (w3.drewN 1) w.heap.size _ _ from k4).below hb4⟩
    have hold : ∀ j u g, j < rs.length → xs3[j * 3 + 2]? = some u → u.ownBlock = some g → g < (w3.drewN 1).heap.size := fun j u g hj hu hg => ((ha3 j hj).lt u g hu hg).2
    have oa := OwnRecF.app har4 hp3 hold ho5.lt hc5 (ho5.base (B' := w.heap.size) b3d.size) hrow4 hown hg8
    have q0 := (show Blk1 (w3.drewN 1) w.heap.size _ _ from x0).later hb4
    have q1 := (show Blk3s (w3.drewN 1) (w.heap.size + 1) _ _ _ _ from x1).later hb4
    have q2 := (show Blk1 (w3.drewN 1) (w.heap.size + 1 + 1) _ _ from x2).later hb4
    have qg := (show Blk1 (w3.drewN 1) g _ _ from xg).later hb4
    have k0 := (q0.later al).grown hg8 (blk_ne_row (q0.later al) hrow' (by decide))
    have k1 := (q1.later al).grown hg8 (fun e => by have := HRB.out _ e.symm; omega)
    have k2 := (q2.later al).grown hg8 (blk_ne_row (q2.later al) hrow' (by decide))
    have kg := (qg.later al).grown hg8 (blk_ne_row (qg.later al) hrow' (by decide))
    have b4 := b3d.trans (hb4.mono b3d.size)
    have hb8 : Below w.heap.size w w8 := (b4.alloc b4.size _).grown hg8 (by have := b4.size; simp; omega) (fun j hj => (World.ownsRow.lt hrow4 j hj).1)
    obtain ⟨A8, c8, e, -, -⟩ := oa.own.form
    rw [List.length_append, List.length_singleton] at e
    subst e
    have n1 := k1.far (p := ⟨g, 0, none⟩) (by show w.heap.size + 1 ≠ g; omega) (.slice A8 (rs.length + 1) c8)
    exact ⟨A8, c8, rfl, ⟨k1.reads.1, k1.reads.2.1, k1.reads.2.2.1⟩, ⟨⟨_, kg.reads.1⟩, kg.reads.2 0⟩, ⟨k0.far (by show w.heap.size ≠ g; omega) _, k2.far (by show w.heap.size + 1 + 1 ≠ g; omega) _, kg.set0 _, oa.keptT (by decide) (by decide) (but_set w8 g 0 _) (blk_type kg), hb8.setCell (by show w.heap.size ≤ g; omega) _⟩, n1.reads.1, n1.reads.2.1, n1.reads.2.2.1⟩
  clear hr3 hr3d ha3 hp3 o3 x0 x1 x2 CR
  refine wp_region_held_drew (S := fun x => x.cell? ⟨w.heap.size + 1, 0, none⟩ = some (.int .i64 r.k) ∧ x.cell? ⟨w.heap.size + 1, 1, none⟩ = some (.int .i64 r.t) ∧ x.cell? ⟨w.heap.size + 1, 2, none⟩ = some (.slice A3 r.us.length c3)) (by kernel_rfl) (HKP.out _ NB).1 (fun hHeld => ?_)
  try simp only [Act.put, List.getElem_toArray, List.getElem_cons_succ, List.getElem_cons_zero, List.setIfInBounds_toArray, List.set_cons_zero, List.set_cons_succ]
  refine wpAnyH_take (i := 0) (oi := _) (v := ?_) rfl (by kernel_rfl) (by kernel_rfl) (by kernel_rfl) (fun _ _ _ h => h) (Or.inl ⟨by rfl, ?_⟩) hHeld ?_
  rotate_left
  · (intro w' hSw; (try dsimp only at hSw); go_simp <;> with_reducible rfl)
  try simp only [Act.put, List.getElem_toArray, List.getElem_cons_succ, List.getElem_cons_zero, List.setIfInBounds_toArray, List.set_cons_zero, List.set_cons_succ]
  refine wpAnyH_take (i := 2) (oi := _) (v := ?_) rfl (by kernel_rfl) (by kernel_rfl) (by kernel_rfl) (fun _ _ _ h => h) (Or.inl ⟨by rfl, ?_⟩) hHeld ?_
  rotate_left
  · (intro w' hSw; (try dsimp only at hSw); go_simp <;> with_reducible rfl)
  try simp only [Act.put, List.getElem_toArray, List.getElem_cons_succ, List.getElem_cons_zero, List.setIfInBounds_toArray, List.set_cons_zero, List.set_cons_succ]
  refine wpAnyH_ready (rs := [1, 3]) (by kernel_rfl) (by simp) (AllReadyH.cons (o := _) rfl (fun K hK => ?_) (AllReadyH.cons (o := _) rfl (fun K hK => ?_) AllReadyH.nil))
  · skip
    try simp only [Act.put, List.getElem_toArray, List.getElem_cons_succ, List.getElem_cons_zero, List.setIfInBounds_toArray, List.set_cons_zero, List.set_cons_succ]
    go_simp
    refine hK.out _ _ (HKP.out _ NB).1 (fun hHeld => ?_)
    clear hK K
    try simp only [Act.put, List.getElem_toArray, List.getElem_cons_succ, List.getElem_cons_zero, List.setIfInBounds_toArray, List.set_cons_zero, List.set_cons_succ]
    refine wpAnyH_ready (rs := [3]) (by kernel_rfl) (by simp) (AllReadyH.cons (o := _) rfl (fun K hK => ?_) AllReadyH.nil)
    try simp only [Act.put, List.getElem_toArray, List.getElem_cons_succ, List.getElem_cons_zero, List.setIfInBounds_toArray, List.set_cons_zero, List.set_cons_succ]
    go_simp
    go_at_call 87
    refine (CRc.out _ NB).mono ?_
    rintro e w4 ⟨A5, c5, rfl, hc5, o5, d4⟩
    have NB4 := NB.trans (d4.mono NB.size)
    have y4 := (HKP.out _ NB4).2
    refine hK.out _ _ (HKP.out _ NB4).1 (fun hHeld => ?_)
    clear hK K
    try simp only [Act.put, List.getElem_toArray, List.getElem_cons_succ, List.getElem_cons_zero, List.setIfInBounds_toArray, List.set_cons_zero, List.set_cons_succ]
    refine wpAnyH_ready (rs := [4]) (by kernel_rfl) (by simp) (AllReadyH.cons (o := _) rfl (fun K hK => ?_) AllReadyH.nil)
    try simp only [Act.put, List.getElem_toArray, List.getElem_cons_succ, List.getElem_cons_zero, List.setIfInBounds_toArray, List.set_cons_zero, List.set_cons_succ]
    go_simp
    have al5 := (Below.refl w4.heap.size w4).alloc (Nat.le_refl _) (.cells #[.int .i64 r.k, .int .i64 r.t, .slice A5 r.us.length c5] 33)
    have NB5 := NB4.trans (al5.mono NB4.size)
    have y5 := (HKP.out _ NB5).2
    refine hK.out _ _ (HKP.out _ NB5).1 (fun hHeld => ?_)
    clear hK K
    try simp only [Act.put, List.getElem_toArray, List.getElem_cons_succ, List.getElem_cons_zero, List.setIfInBounds_toArray, List.set_cons_zero, List.set_cons_succ]
    refine wpAnyH_ready (rs := [5]) (by kernel_rfl) (by simp) (AllReadyH.cons (o := _) rfl (fun K hK => ?_) AllReadyH.nil)
    try simp only [Act.put, List.getElem_toArray, List.getElem_cons_succ, List.getElem_cons_zero, List.setIfInBounds_toArray, List.set_cons_zero, List.set_cons_succ]
    rw [if_pos (by rfl)]
    refine op_append_row1 _ (by rfl) _ _ 23 (by rfl) w.heap.size 33 i0 (.agg #[.int .i64 0, .int .i64 0, .slice none 0 0]) 3 40 Tryd.underlying23 hi hz0 hz1 hz2 rfl (by decide) (.slice A2 rs.length c2) rs.length xs3 (by rfl) (World.ownsRow.alloc (HRW.out _ NB4) _) _ (some ⟨w4.heap.size, 0, none⟩) 1 1 [.int .i64 r.k, .int .i64 r.t, .slice A5 r.us.length c5] (by rfl) (row_threeR w4 _ _ _ _) rfl (rec_cells _ _ _ _ _) (by unfold maxLen; omega) (by omega) (HZW.out _ NB5) ?_
    intro v8 w8 hown8 hg8
    obtain ⟨A8, c8, rfl, S8, ⟨⟨_, u0⟩, uf⟩, E8, S9⟩ := HP.out w4 w8 A5 c5 v8 NB4 o5 hc5 hown8 hg8
    clear hown8 hg8 y4 y5 al5 NB5 NB4 o5 d4
    refine hK.out _ _ S8 (fun hHeld => ?_)
    clear hK K
    try simp only [Act.put, List.getElem_toArray, List.getElem_cons_succ, List.getElem_cons_zero, List.setIfInBounds_toArray, List.set_cons_zero, List.set_cons_succ]
    refine wpAnyH_take (i := 6) (oi := _) (v := ?_) rfl (by kernel_rfl) (by kernel_rfl) (by kernel_rfl) (fun _ _ _ h => h) (Or.inl ⟨by rfl, ?_⟩) hHeld ?_
    rotate_left
    · (intro w' hSw; (try dsimp only at hSw); go_simp <;> with_reducible rfl)
    try simp only [Act.put, List.getElem_toArray, List.getElem_cons_succ, List.getElem_cons_zero, List.setIfInBounds_toArray, List.set_cons_zero, List.set_cons_succ]
    refine wpAnyH_ready (rs := [7]) (by kernel_rfl) (by simp) (AllReadyH.cons (o := _) rfl (fun K hK => ?_) AllReadyH.nil)
    try simp only [Act.put, List.getElem_toArray, List.getElem_cons_succ, List.getElem_cons_zero, List.setIfInBounds_toArray, List.set_cons_zero, List.set_cons_succ]
    go_simp
    refine hK.out _ _ S9 (fun hHeld => ?_)
    clear hK K
    try simp only [Act.put, List.getElem_toArray, List.getElem_cons_succ, List.getElem_cons_zero, List.setIfInBounds_toArray, List.set_cons_zero, List.set_cons_succ]
    refine wpAnyH_done (by kernel_rfl) ?_ _
    clear S8 S9 u0 uf hHeld HP HKP CRc HRW HZW
    obtain ⟨W9, hW9⟩ : ∃ x, w8.setCell ⟨g, 0, none⟩ (.slice A8 (rs.length + 1) c8) = x := ⟨_, rfl⟩
    rw [hW9] at E8 ⊢
    clear hW9
    obtain ⟨e0, e2, eg, oe, be⟩ := E8
    have hle : (rs ++ [r]).length = rs.length + 1 := by simp
    have HSH : Hid (Shd W9 W9.heap.size (.agg #[.slice A8 (rs.length + 1) c8]) (rs ++ [r])) := by
      have := (OwnShF.mk_ oe).own.shd
      exact this
    have OE := hid oe
    clear oe hle
    obtain ⟨y0, -⟩ := id e0.reads
    obtain ⟨yg, -⟩ := id eg.reads
    go_wp2_with fail
    refine (CV.out _ _ be HSH.out).mono ?_
    rintro e W10 ⟨rfl, d10⟩
    have be2 := be.trans (d10.mono be.size)
    have f0 := e0.later d10
    have f2 := e2.later d10
    have fg := eg.later d10
    have OE2 := hid (OE.out.below d10)
    clear y0 yg OE HSH CV e0 e2 eg be
    obtain ⟨y0, -⟩ := id f0.reads
    obtain ⟨yg, -⟩ := id fg.reads
    cases b with
    | true =>
      have ex : xs = rs ++ [r] := by rw [HXS.out]; rfl
      obtain ⟨t0, tf⟩ := id f2.reads
      have tf0 := tf 0
      clear tf
      have o9 := OE2.out.keptT (by decide) (by decide) (but_set W10 (w.heap.size + 1 + 1) 0 (.slice A8 (rs.length + 1) c8)) (blk_type f2)
      have b9 := be2.setCell (p := ⟨w.heap.size + 1 + 1, 0, none⟩) (by show w.heap.size ≤ w.heap.size + 1 + 1; omega) (.slice A8 (rs.length + 1) c8)
      obtain ⟨p0, -⟩ := (f2.set0 (.slice A8 (rs.length + 1) c8)).reads
      clear CC f0 f2 fg
      go_wp2
      refine bodyPost_ret (v := .tuple #[.agg #[.slice A8 (rs.length + 1) c8], .bool true]) (by simp [results, Tryd.results63, go_sem, p0]) rfl ?_
      rw [ex]
      exact ⟨_, rfl, OwnShF.mk_ o9, b9⟩
    | false =>
      have ex : xs = rs := by rw [HXS.out]; rfl
      go_wp2_with fail
      refine (CC.out _ be2).mono ?_
      rintro e W11 ⟨v11, rfl, ⟨A11, c11, rfl, o11, hc11⟩, d11⟩
      unfold shV
      have be3 := be2.trans (d11.mono be2.size)
      have h2 := f2.later d11
      obtain ⟨t0, tf⟩ := id h2.reads
      have tf0 := tf 0
      clear tf
      have o9 := (o11.base (B' := w.heap.size) be2.size).keptT (by decide) (by decide) (but_set W11 (w.heap.size + 1 + 1) 0 (.slice A11 rs.length c11)) (blk_type h2)
      have b9 := be3.setCell (p := ⟨w.heap.size + 1 + 1, 0, none⟩) (by show w.heap.size ≤ w.heap.size + 1 + 1; omega) (.slice A11 rs.length c11)
      obtain ⟨p0, -⟩ := (h2.set0 (.slice A11 rs.length c11)).reads
      clear CC f0 f2 fg h2 o11 d11 y0 yg
      go_wp2
      refine bodyPost_ret (v := .tuple #[.agg #[.slice A11 rs.length c11], .bool false]) (by simp [results, Tryd.results63, go_sem, p0]) rfl ?_
      rw [ex]
      exact ⟨_, rfl, OwnShF.mk_ o9, b9⟩
  · skip
    try simp only [Act.put, List.getElem_toArray, List.getElem_cons_succ, List.getElem_cons_zero, List.setIfInBounds_toArray, List.set_cons_zero, List.set_cons_succ]
    go_simp
    go_at_call 87
    refine (CRc.out _ NB).mono ?_
    rintro e w4 ⟨A5, c5, rfl, hc5, o5, d4⟩
    have NB4 := NB.trans (d4.mono NB.size)
    have y4 := (HKP.out _ NB4).2
    refine hK.out _ _ (HKP.out _ NB4).1 (fun hHeld => ?_)
    clear hK K
    try simp only [Act.put, List.getElem_toArray, List.getElem_cons_succ, List.getElem_cons_zero, List.setIfInBounds_toArray, List.set_cons_zero, List.set_cons_succ]
    refine wpAnyH_ready (rs := [1, 4]) (by kernel_rfl) (by simp) (AllReadyH.cons (o := _) rfl (fun K hK => ?_) (AllReadyH.cons (o := _) rfl (fun K hK => ?_) AllReadyH.nil))
    · skip
      try simp only [Act.put, List.getElem_toArray, List.getElem_cons_succ, List.getElem_cons_zero, List.setIfInBounds_toArray, List.set_cons_zero, List.set_cons_succ]
      go_simp
      refine hK.out _ _ (HKP.out _ NB4).1 (fun hHeld => ?_)
      clear hK K
      try simp only [Act.put, List.getElem_toArray, List.getElem_cons_succ, List.getElem_cons_zero, List.setIfInBounds_toArray, List.set_cons_zero, List.set_cons_succ]
      refine wpAnyH_ready (rs := [4]) (by kernel_rfl) (by simp) (AllReadyH.cons (o := _) rfl (fun K hK => ?_) AllReadyH.nil)
      try simp only [Act.put, List.getElem_toArray, List.getElem_cons_succ, List.getElem_cons_zero, List.setIfInBounds_toArray, List.set_cons_zero, List.set_cons_succ]
      go_simp
      have al5 := (Below.refl w4.heap.size w4).alloc (Nat.le_refl _) (.cells #[.int .i64 r.k, .int .i64 r.t, .slice A5 r.us.length c5] 33)
      have NB5 := NB4.trans (al5.mono NB4.size)
      have y5 := (HKP.out _ NB5).2
      refine hK.out _ _ (HKP.out _ NB5).1 (fun hHeld => ?_)
      clear hK K
      try simp only [Act.put, List.getElem_toArray, List.getElem_cons_succ, List.getElem_cons_zero, List.setIfInBounds_toArray, List.set_cons_zero, List.set_cons_succ]
      refine wpAnyH_ready (rs := [5]) (by kernel_rfl) (by simp) (AllReadyH.cons (o := _) rfl (fun K hK => ?_) AllReadyH.nil)
      try simp only [Act.put, List.getElem_toArray, List.getElem_cons_succ, List.getElem_cons_zero, List.setIfInBounds_toArray, List.set_cons_zero, List.set_cons_succ]
      rw [if_pos (by rfl)]
      refine op_append_row1 _ (by rfl) _ _ 23 (by rfl) w.heap.size 33 i0 (.agg #[.int .i64 0, .int .i64 0, .slice none 0 0]) 3 40 Tryd.underlying23 hi hz0 hz1 hz2 rfl (by decide) (.slice A2 rs.length c2) rs.length xs3 (by rfl) (World.ownsRow.alloc (HRW.out _ NB4) _) _ (some ⟨w4.heap.size, 0, none⟩) 1 1 [.int .i64 r.k, .int .i64 r.t, .slice A5 r.us.length c5] (by rfl) (row_threeR w4 _ _ _ _) rfl (rec_cells _ _ _ _ _) (by unfold maxLen; omega) (by omega) (HZW.out _ NB5) ?_
      intro v8 w8 hown8 hg8
      obtain ⟨A8, c8, rfl, S8, ⟨⟨_, u0⟩, uf⟩, E8, S9⟩ := HP.out w4 w8 A5 c5 v8 NB4 o5 hc5 hown8 hg8
      clear hown8 hg8 y4 y5 al5 NB5 NB4 o5 d4
      refine hK.out _ _ S8 (fun hHeld => ?_)
      clear hK K
      try simp only [Act.put, List.getElem_toArray, List.getElem_cons_succ, List.getElem_cons_zero, List.setIfInBounds_toArray, List.set_cons_zero, List.set_cons_succ]
      refine wpAnyH_take (i := 6) (oi := _) (v := ?_) rfl (by kernel_rfl) (by kernel_rfl) (by kernel_rfl) (fun _ _ _ h => h) (Or.inl ⟨by rfl, ?_⟩) hHeld ?_
      rotate_left
      · (intro w' hSw; (try dsimp only at hSw); go_simp <;> with_reducible rfl)
      try simp only [Act.put, List.getElem_toArray, List.getElem_cons_succ, List.getElem_cons_zero, List.setIfInBounds_toArray, List.set_cons_zero, List.set_cons_succ]
      refine wpAnyH_ready (rs := [7]) (by kernel_rfl) (by simp) (AllReadyH.cons (o := _) rfl (fun K hK => ?_) AllReadyH.nil)
      try simp only [Act.put, List.getElem_toArray, List.getElem_cons_succ, List.getElem_cons_zero, List.setIfInBounds_toArray, List.set_cons_zero, List.set_cons_succ]
      go_simp
      refine hK.out _ _ S9 (fun hHeld => ?_)
      clear hK K
      try simp only [Act.put, List.getElem_toArray, List.getElem_cons_succ, List.getElem_cons_zero, List.setIfInBounds_toArray, List.set_cons_zero, List.set_cons_succ]
      refine wpAnyH_done (by kernel_rfl) ?_ _
      clear S8 S9 u0 uf hHeld HP HKP CRc HRW HZW
      obtain ⟨W9, hW9⟩ : ∃ x, w8.setCell ⟨g, 0, none⟩ (.slice A8 (rs.length + 1) c8) = x := ⟨_, rfl⟩
      rw [hW9] at E8 ⊢
      clear hW9
      obtain ⟨e0, e2, eg, oe, be⟩ := E8
      have hle : (rs ++ [r]).length = rs.length + 1 := by simp
      have HSH : Hid (Shd W9 W9.heap.size (.agg #[.slice A8 (rs.length + 1) c8]) (rs ++ [r])) := by
        have := (OwnShF.mk_ oe).own.shd
        exact this
      have OE := hid oe
      clear oe hle
      obtain ⟨y0, -⟩ := id e0.reads
      obtain ⟨yg, -⟩ := id eg.reads
      go_wp2_with fail
      refine (CV.out _ _ be HSH.out).mono ?_
      rintro e W10 ⟨rfl, d10⟩
      have be2 := be.trans (d10.mono be.size)
      have f0 := e0.later d10
      have f2 := e2.later d10
      have fg := eg.later d10
      have OE2 := hid (OE.out.below d10)
      clear y0 yg OE HSH CV e0 e2 eg be
      obtain ⟨y0, -⟩ := id f0.reads
      obtain ⟨yg, -⟩ := id fg.reads
      cases b with
      | true =>
        have ex : xs = rs ++ [r] := by rw [HXS.out]; rfl
        obtain ⟨t0, tf⟩ := id f2.reads
        have tf0 := tf 0
        clear tf
        have o9 := OE2.out.keptT (by decide) (by decide) (but_set W10 (w.heap.size + 1 + 1) 0 (.slice A8 (rs.length + 1) c8)) (blk_type f2)
        have b9 := be2.setCell (p := ⟨w.heap.size + 1 + 1, 0, none⟩) (by show w.heap.size ≤ w.heap.size + 1 + 1; omega) (.slice A8 (rs.length + 1) c8)
        obtain ⟨p0, -⟩ := (f2.set0 (.slice A8 (rs.length + 1) c8)).reads
        clear CC f0 f2 fg
        go_wp2
        refine bodyPost_ret (v := .tuple #[.agg #[.slice A8 (rs.length + 1) c8], .bool true]) (by simp [results, Tryd.results63, go_sem, p0]) rfl ?_
        rw [ex]
        exact ⟨_, rfl, OwnShF.mk_ o9, b9⟩
      | false =>
        have ex : xs = rs := by rw [HXS.out]; rfl
        go_wp2_with fail
        refine (CC.out _ be2).mono ?_
        rintro e W11 ⟨v11, rfl, ⟨A11, c11, rfl, o11, hc11⟩, d11⟩
        unfold shV
        have be3 := be2.trans (d11.mono be2.size)
        have h2 := f2.later d11
        obtain ⟨t0, tf⟩ := id h2.reads
        have tf0 := tf 0
        clear tf
        have o9 := (o11.base (B' := w.heap.size) be2.size).keptT (by decide) (by decide) (but_set W11 (w.heap.size + 1 + 1) 0 (.slice A11 rs.length c11)) (blk_type h2)
        have b9 := be3.setCell (p := ⟨w.heap.size + 1 + 1, 0, none⟩) (by show w.heap.size ≤ w.heap.size + 1 + 1; omega) (.slice A11 rs.length c11)
        obtain ⟨p0, -⟩ := (h2.set0 (.slice A11 rs.length c11)).reads
        clear CC f0 f2 fg h2 o11 d11 y0 yg
        go_wp2
        refine bodyPost_ret (v := .tuple #[.agg #[.slice A11 rs.length c11], .bool false]) (by simp [results, Tryd.results63, go_sem, p0]) rfl ?_
        rw [ex]
        exact ⟨_, rfl, OwnShF.mk_ o9, b9⟩
    · skip
      try simp only [Act.put, List.getElem_toArray, List.getElem_cons_succ, List.getElem_cons_zero, List.setIfInBounds_toArray, List.set_cons_zero, List.set_cons_succ]
      go_simp
      have al5 := (Below.refl w4.heap.size w4).alloc (Nat.le_refl _) (.cells #[.int .i64 r.k, .int .i64 r.t, .slice A5 r.us.length c5] 33)
      have NB5 := NB4.trans (al5.mono NB4.size)
      have y5 := (HKP.out _ NB5).2
      refine hK.out _ _ (HKP.out _ NB5).1 (fun hHeld => ?_)
      clear hK K
      try simp only [Act.put, List.getElem_toArray, List.getElem_cons_succ, List.getElem_cons_zero, List.setIfInBounds_toArray, List.set_cons_zero, List.set_cons_succ]
      refine wpAnyH_ready (rs := [1]) (by kernel_rfl) (by simp) (AllReadyH.cons (o := _) rfl (fun K hK => ?_) AllReadyH.nil)
      try simp only [Act.put, List.getElem_toArray, List.getElem_cons_succ, List.getElem_cons_zero, List.setIfInBounds_toArray, List.set_cons_zero, List.set_cons_succ]
      go_simp
      refine hK.out _ _ (HKP.out _ NB5).1 (fun hHeld => ?_)
      clear hK K
      try simp only [Act.put, List.getElem_toArray, List.getElem_cons_succ, List.getElem_cons_zero, List.setIfInBounds_toArray, List.set_cons_zero, List.set_cons_succ]
      refine wpAnyH_ready (rs := [5]) (by kernel_rfl) (by simp) (AllReadyH.cons (o := _) rfl (fun K hK => ?_) AllReadyH.nil)
      try simp only [Act.put, List.getElem_toArray, List.getElem_cons_succ, List.getElem_cons_zero, List.setIfInBounds_toArray, List.set_cons_zero, List.set_cons_succ]
      rw [if_pos (by rfl)]
      refine op_append_row1 _ (by rfl) _ _ 23 (by rfl) w.heap.size 33 i0 (.agg #[.int .i64 0, .int .i64 0, .slice none 0 0]) 3 40 Tryd.underlying23 hi hz0 hz1 hz2 rfl (by decide) (.slice A2 rs.length c2) rs.length xs3 (by rfl) (World.ownsRow.alloc (HRW.out _ NB4) _) _ (some ⟨w4.heap.size, 0, none⟩) 1 1 [.int .i64 r.k, .int .i64 r.t, .slice A5 r.us.length c5] (by rfl) (row_threeR w4 _ _ _ _) rfl (rec_cells _ _ _ _ _) (by unfold maxLen; omega) (by omega) (HZW.out _ NB5) ?_
      intro v8 w8 hown8 hg8
      obtain ⟨A8, c8, rfl, S8, ⟨⟨_, u0⟩, uf⟩, E8, S9⟩ := HP.out w4 w8 A5 c5 v8 NB4 o5 hc5 hown8 hg8
      clear hown8 hg8 y4 y5 al5 NB5 NB4 o5 d4
      refine hK.out _ _ S8 (fun hHeld => ?_)
      clear hK K
      try simp only [Act.put, List.getElem_toArray, List.getElem_cons_succ, List.getElem_cons_zero, List.setIfInBounds_toArray, List.set_cons_zero, List.set_cons_succ]
      refine wpAnyH_take (i := 6) (oi := _) (v := ?_) rfl (by kernel_rfl) (by kernel_rfl) (by kernel_rfl) (fun _ _ _ h => h) (Or.inl ⟨by rfl, ?_⟩) hHeld ?_
      rotate_left
      · (intro w' hSw; (try dsimp only at hSw); go_simp <;> with_reducible rfl)
      try simp only [Act.put, List.getElem_toArray, List.getElem_cons_succ, List.getElem_cons_zero, List.setIfInBounds_toArray, List.set_cons_zero, List.set_cons_succ]
      refine wpAnyH_ready (rs := [7]) (by kernel_rfl) (by simp) (AllReadyH.cons (o := _) rfl (fun K hK => ?_) AllReadyH.nil)
      try simp only [Act.put, List.getElem_toArray, List.getElem_cons_succ, List.getElem_cons_zero, List.setIfInBounds_toArray, List.set_cons_zero, List.set_cons_succ]
      go_simp
      refine hK.out _ _ S9 (fun hHeld => ?_)
      clear hK K
      try simp only [Act.put, List.getElem_toArray, List.getElem_cons_succ, List.getElem_cons_zero, List.setIfInBounds_toArray, List.set_cons_zero, List.set_cons_succ]
      refine wpAnyH_done (by kernel_rfl) ?_ _
      clear S8 S9 u0 uf hHeld HP HKP CRc HRW HZW
      obtain ⟨W9, hW9⟩ : ∃ x, w8.setCell ⟨g, 0, none⟩ (.slice A8 (rs.length + 1) c8) = x := ⟨_, rfl⟩
      rw [hW9] at E8 ⊢
      clear hW9
      obtain ⟨e0, e2, eg, oe, be⟩ := E8
      have hle : (rs ++ [r]).length = rs.length + 1 := by simp
      have HSH : Hid (Shd W9 W9.heap.size (.agg #[.slice A8 (rs.length + 1) c8]) (rs ++ [r])) := by
        have := (OwnShF.mk_ oe).own.shd
        exact this
      have OE := hid oe
      clear oe hle
      obtain ⟨y0, -⟩ := id e0.reads
      obtain ⟨yg, -⟩ := id eg.reads
      go_wp2_with fail
      refine (CV.out _ _ be HSH.out).mono ?_
      rintro e W10 ⟨rfl, d10⟩
      have be2 := be.trans (d10.mono be.size)
      have f0 := e0.later d10
      have f2 := e2.later d10
      have fg := eg.later d10
      have OE2 := hid (OE.out.below d10)
      clear y0 yg OE HSH CV e0 e2 eg be
      obtain ⟨y0, -⟩ := id f0.reads
      obtain ⟨yg, -⟩ := id fg.reads
      cases b with
      | true =>
        have ex : xs = rs ++ [r] := by rw [HXS.out]; rfl
        obtain ⟨t0, tf⟩ := id f2.reads
        have tf0 := tf 0
        clear tf
        have o9 := OE2.out.keptT (by decide) (by decide) (but_set W10 (w.heap.size + 1 + 1) 0 (.slice A8 (rs.length + 1) c8)) (blk_type f2)
        have b9 := be2.setCell (p := ⟨w.heap.size + 1 + 1, 0, none⟩) (by show w.heap.size ≤ w.heap.size + 1 + 1; omega) (.slice A8 (rs.length + 1) c8)
        obtain ⟨p0, -⟩ := (f2.set0 (.slice A8 (rs.length + 1) c8)).reads
        clear CC f0 f2 fg
        go_wp2
        refine bodyPost_ret (v := .tuple #[.agg #[.slice A8 (rs.length + 1) c8], .bool true]) (by simp [results, Tryd.results63, go_sem, p0]) rfl ?_
        rw [ex]
        exact ⟨_, rfl, OwnShF.mk_ o9, b9⟩
      | false =>
        have ex : xs = rs := by rw [HXS.out]; rfl
        go_wp2_with fail
        refine (CC.out _ be2).mono ?_
        rintro e W11 ⟨v11, rfl, ⟨A11, c11, rfl, o11, hc11⟩, d11⟩
        unfold shV
        have be3 := be2.trans (d11.mono be2.size)
        have h2 := f2.later d11
        obtain ⟨t0, tf⟩ := id h2.reads
        have tf0 := tf 0
        clear tf
        have o9 := (o11.base (B' := w.heap.size) be2.size).keptT (by decide) (by decide) (but_set W11 (w.heap.size + 1 + 1) 0 (.slice A11 rs.length c11)) (blk_type h2)
        have b9 := be3.setCell (p := ⟨w.heap.size + 1 + 1, 0, none⟩) (by show w.heap.size ≤ w.heap.size + 1 + 1; omega) (.slice A11 rs.length c11)
        obtain ⟨p0, -⟩ := (h2.set0 (.slice A11 rs.length c11)).reads
        clear CC f0 f2 fg h2 o11 d11 y0 yg
        go_wp2
        refine bodyPost_ret (v := .tuple #[.agg #[.slice A11 rs.length c11], .bool false]) (by simp [results, Tryd.results63, go_sem, p0]) rfl ?_
        rw [ex]
        exact ⟨_, rfl, OwnShF.mk_ o9, b9⟩
end Go.Proofs.YteeffchnbkkpfabDoor
