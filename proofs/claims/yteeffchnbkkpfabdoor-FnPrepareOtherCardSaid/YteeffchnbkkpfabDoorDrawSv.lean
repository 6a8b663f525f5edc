/- The coordinator with the slices $SA and $SB is stored as the answer, with the word $BB. -/
/-
  Walks: what the laws on shards draw.
-/
import Derived.Test.YteeffchnbkkpfabDoorDrawSh
namespace Go.Proofs.YteeffchnbkkpfabDoor
open Go.RowKit Wo Pu Rf Lk Sh

theorem DrSh.keptT {w w' : World} {B : Nat} {v : Value} {rs : List Rec} {T : TypeId} {row : Option Nat} (h : DrSh w B v rs) (t1 : 33 ≠ T) (t2 : 100 ≠ T) (hg : w.grownBy w' row) (hr : ∀ g, row = some g → ∃ cur fr, w.heap[g]? = some (.cells cur T fr)) : DrSh w' B v rs := by
  obtain ⟨A, c, rs0, h1, h2, h3⟩ := h
  exact ⟨A, c, rs0, h1.keptT t1 t2 hg hr, h2, h3⟩
/-- A drawn shard. -/
def ShMade (w : World) (e : Ending) (w' : World) : Prop := ∃ v rs, e = .returned v ∧ Shd w' w'.heap.size v rs ∧ rs.length ≤ 31 ∧ SmR rs ∧ Below w.heap.size w w'
/-- A drawn shard, a transaction, updates. -/
def ShUps (w : World) (e : Ending) (w' : World) : Prop := ∃ v rs t A c us, e = .returned (.tuple #[v, .int .i64 t, .slice A (List.length us) c]) ∧ Shd w' w'.heap.size v rs ∧ rs.length ≤ 31 ∧ SmR rs ∧ -1 ≤ t ∧ t ≤ 12 ∧ Row w' w'.heap.size A (upsV us) ∧ us.length ≤ 4 ∧ us.length ≤ c ∧ Below w.heap.size w w'
/-- A drawn shard, a transaction, a word. -/
def ShDec (w : World) (e : Ending) (w' : World) : Prop := ∃ v rs t b, e = .returned (.tuple #[v, .int .i64 t, .bool b]) ∧ Shd w' w'.heap.size v rs ∧ rs.length ≤ 31 ∧ SmR rs ∧ -1 ≤ t ∧ t ≤ 12 ∧ Below w.heap.size w w'
set_option linter.unusedSimpArgs false in
set_option maxRecDepth 100000 in
set_option maxHeartbeats 4000000 in
theorem DrawShardRecover_any (A : Option Addr) (c : Nat) (bs : List Int) (w : World) (h : Code_ w A c bs) :
    Calls Tryd.prog 29 #[.slice A bs.length c] w (ShMade w) := by
  have al := (Below.refl w.heap.size w).alloc (Nat.le_refl _) (.cells #[.slice none 0 0] 25)
  have x0 := Blk1.new_ w 25 (.slice none 0 0)
  obtain ⟨w0, hw0⟩ : ∃ w0, w.alloc (.cells #[.slice none 0 0] 25) = w0 := ⟨_, rfl⟩
  have h0 := h.below al
  rw [hw0] at al x0 h0
  go_enter Tryd.func29, Tryd.ntmps29
  go_wp2_with fail
  clear hw0
  refine (l6Open_any A c bs w0 h0).mono ?_
  rintro e w1 ⟨rfl, R1, b1⟩
  have hwz : w.heap.size < w0.heap.size := x0.lt
  replace x0 := x0.later b1
  replace al := al.trans (b1.mono al.size)
  go_wp2_with fail
  refine (l92Shard_any w0.heap.size 0 w1 R1 (by omega)).mono ?_
  rintro e w2 ⟨v, rs, rfl, D2, hl, hs, R2, T2⟩
  obtain ⟨A2, c2, rfl, -⟩ := D2.shd
  unfold shV at *
  replace x0 := x0.but T2 (by omega)
  have b2 := al.trans (T2.below (B := w.heap.size) al.size (by omega))
  have HS := hid hs
  have z1 := al.size
  have hD := R1.lt
  clear al b1 h0 T2 R1 hs
  obtain ⟨t0, tf⟩ := id x0.reads
  have tf0 := tf 0
  obtain ⟨p0, -⟩ := (x0.set0 (.slice A2 rs.length c2)).reads
  have D9 := D2.keptT (by decide) (by decide) (but_set w2 w.heap.size 0 (.slice A2 rs.length c2)) (blk_type x0)
  have b9 := b2.setCell (p := ⟨w.heap.size, 0, none⟩) (Nat.le_refl _) (.slice A2 rs.length c2)
  clear tf
  go_wp2
  exact bodyPost_ret (v := .agg #[.slice A2 rs.length c2]) (by simp [results, Tryd.results29, go_sem, p0]) rfl ⟨_, rs, rfl, D9.shd, hl, HS.out, b9⟩
set_option linter.unusedSimpArgs false in
set_option maxRecDepth 100000 in
set_option maxHeartbeats 4000000 in
theorem DrawShardCommitted_any (A : Option Addr) (c : Nat) (bs : List Int) (w : World) (h : Code_ w A c bs) :
    Calls Tryd.prog 14 #[.slice A bs.length c] w (ShMade w) := by
  have al := (Below.refl w.heap.size w).alloc (Nat.le_refl _) (.cells #[.slice none 0 0] 25)
  have x0 := Blk1.new_ w 25 (.slice none 0 0)
  obtain ⟨w0, hw0⟩ : ∃ w0, w.alloc (.cells #[.slice none 0 0] 25) = w0 := ⟨_, rfl⟩
  have h0 := h.below al
  rw [hw0] at al x0 h0
  go_enter Tryd.func14, Tryd.ntmps14
  go_wp2_with fail
  clear hw0
  refine (l6Open_any A c bs w0 h0).mono ?_
  rintro e w1 ⟨rfl, R1, b1⟩
  have hwz : w.heap.size < w0.heap.size := x0.lt
  replace x0 := x0.later b1
  replace al := al.trans (b1.mono al.size)
  go_wp2_with fail
  refine (l92Shard_any w0.heap.size 0 w1 R1 (by omega)).mono ?_
  rintro e w2 ⟨v, rs, rfl, D2, hl, hs, R2, T2⟩
  obtain ⟨A2, c2, rfl, -⟩ := D2.shd
  unfold shV at *
  replace x0 := x0.but T2 (by omega)
  have b2 := al.trans (T2.below (B := w.heap.size) al.size (by omega))
  have HS := hid hs
  have z1 := al.size
  have hD := R1.lt
  clear al b1 h0 T2 R1 hs
  obtain ⟨t0, tf⟩ := id x0.reads
  have tf0 := tf 0
  obtain ⟨p0, -⟩ := (x0.set0 (.slice A2 rs.length c2)).reads
  have D9 := D2.keptT (by decide) (by decide) (but_set w2 w.heap.size 0 (.slice A2 rs.length c2)) (blk_type x0)
  have b9 := b2.setCell (p := ⟨w.heap.size, 0, none⟩) (Nat.le_refl _) (.slice A2 rs.length c2)
  clear tf
  go_wp2
  exact bodyPost_ret (v := .agg #[.slice A2 rs.length c2]) (by simp [results, Tryd.results14, go_sem, p0]) rfl ⟨_, rs, rfl, D9.shd, hl, HS.out, b9⟩
theorem Sh.shd_recs {w : World} {B n c : Nat} {A : Option Addr} {rs : List Rec} (h : Shd w B (.agg #[.slice A n c]) rs) : Recs w B A rs ∧ rs.length ≤ c := by
  obtain ⟨A', c', e, h1, h2⟩ := h
  unfold shV at e
  injection e with e
  simp only [Array.mk.injEq, List.cons.injEq, and_true] at e
  injection e with e1 _ e3
  subst e1 e3
  exact ⟨h1, h2⟩
set_option linter.unusedSimpArgs false in
set_option maxRecDepth 100000 in
set_option maxHeartbeats 4000000 in
theorem DrawShardDecide_any (A : Option Addr) (c : Nat) (bs : List Int) (w : World) (h : Code_ w A c bs) :
    Calls Tryd.prog 26 #[.slice A bs.length c] w (ShDec w) := by
  have al := (Below.refl w.heap.size w).alloc (Nat.le_refl _) (.cells #[.slice none 0 0] 25)
  have x0 := Blk1.new_ w 25 (.slice none 0 0)
  obtain ⟨w0, hw0⟩ : ∃ w0, w.alloc (.cells #[.slice none 0 0] 25) = w0 := ⟨_, rfl⟩
  have h0 := h.below al
  rw [hw0] at al x0 h0
  go_enter Tryd.func26, Tryd.ntmps26
  go_wp2_with fail
  clear hw0
  refine (l6Open_any A c bs w0 h0).mono ?_
  rintro e w1 ⟨rfl, R1, b1⟩
  have hwz : w.heap.size < w0.heap.size := x0.lt
  replace x0 := x0.later b1
  replace al := al.trans (b1.mono al.size)
  go_wp2_with fail
  refine (l92Shard_any w0.heap.size 0 w1 R1 (by omega)).mono ?_
  rintro e w2 ⟨v, rs, rfl, D2, hl, hs, R2, T2⟩
  obtain ⟨A2, c2, rfl, -⟩ := D2.shd
  unfold shV at *
  replace x0 := x0.but T2 (by omega)
  have b2 := al.trans (T2.below (B := w.heap.size) al.size (by omega))
  have HS := hid hs
  have z1 := al.size
  have hD := R1.lt
  clear al b1 h0 T2 R1 hs
  have al2 := (Below.refl w2.heap.size w2).alloc (Nat.le_refl _) (.cells #[.slice A2 rs.length c2] 25)
  have xs := Blk1.new_ w2 25 (.slice A2 rs.length c2)
  go_upto_region 3 with fail
  obtain ⟨w3, hw3⟩ : ∃ w3, w2.alloc (.cells #[.slice A2 rs.length c2] 25) = w3 := ⟨_, rfl⟩
  rw [hw3] at al2 xs ⊢
  have hR2 := R2.lt
  replace x0 := x0.later al2
  replace D2 := D2.below al2
  replace b2 := b2.trans (al2.mono b2.size)
  replace R2 := R2.below al2 R2.lt
  clear al2 hw3
  go_wp2_with fail
  refine (l92Txn_any w0.heap.size _ w3 R2 (by omega)).mono ?_
  rintro e w4 ⟨t, rfl, t0, t1, R4, T4⟩
  replace xs := xs.but T4 (by omega)
  replace x0 := x0.but T4 (by omega)
  replace D2 := D2.but T4 hD
  replace b2 := b2.trans ((T4).below (B := w.heap.size) b2.size (by omega))
  go_wp2_with fail
  have HKP : Hid (∀ x, But w0.heap.size w4 x → x.cell? ⟨w2.heap.size, 0, none⟩ = some (.slice A2 rs.length c2)) := fun x hx => (xs.but hx (by omega)).reads.1
  have Bd := (Below.refl w4.heap.size w4).drew
  refine wp_region_held_drew (S := fun x => x.cell? ⟨w2.heap.size, 0, none⟩ = some (.slice A2 rs.length c2)) (by kernel_rfl) (HKP.out _ (.of_below Bd)) (fun hHeld => ?_)
  obtain ⟨wd, hwd⟩ : ∃ wd, w4.drew = wd := ⟨_, rfl⟩
  rw [hwd] at hHeld Bd ⊢
  clear hwd
  refine wpAnyH_take (i := 0) (oi := _) (v := ?_) rfl (by kernel_rfl) (by kernel_rfl) (by kernel_rfl) (fun _ _ _ h => h) (Or.inl ⟨by rfl, ?_⟩) hHeld ?_
  rotate_left
  · (intro w' hSw; (try dsimp only at hSw); go_simp <;> with_reducible rfl)
  try simp only [Act.put, List.getElem_toArray, List.getElem_cons_succ, List.getElem_cons_zero, List.setIfInBounds_toArray, List.set_cons_zero, List.set_cons_succ]
  refine wpAnyH_take (i := 1) (oi := _) (v := ?_) rfl (by kernel_rfl) (by kernel_rfl) (by kernel_rfl) (fun _ _ _ h => h) (Or.inl ⟨by rfl, ?_⟩) hHeld ?_
  rotate_left
  · (intro w' hSw; (try dsimp only at hSw); go_simp <;> with_reducible rfl)
  try simp only [Act.put, List.getElem_toArray, List.getElem_cons_succ, List.getElem_cons_zero, List.setIfInBounds_toArray, List.set_cons_zero, List.set_cons_succ]
  refine wpAnyH_take (i := 2) (oi := _) (v := ?_) rfl (by kernel_rfl) (by kernel_rfl) (by kernel_rfl) (fun _ _ _ h => h) (Or.inl ⟨by rfl, ?_⟩) hHeld ?_
  rotate_left
  · (intro w' hSw; (try dsimp only at hSw); go_simp <;> with_reducible rfl)
  try simp only [Act.put, List.getElem_toArray, List.getElem_cons_succ, List.getElem_cons_zero, List.setIfInBounds_toArray, List.set_cons_zero, List.set_cons_succ]
  refine wpAnyH_ready (rs := [3]) (by kernel_rfl) (by simp) (AllReadyH.cons (o := _) rfl (fun K hK => ?_) AllReadyH.nil)
  try simp only [Act.put, List.getElem_toArray, List.getElem_cons_succ, List.getElem_cons_zero, List.setIfInBounds_toArray, List.set_cons_zero, List.set_cons_succ]
  go_simp
  go_at_call 59
  refine (pick_any w0.heap.size _ 3 wd (R4.below Bd R4.lt) (by omega) (by omega) (by omega)).mono ?_
  rintro e we ⟨d4, rfl, d40, d41, Re, Te⟩
  have De := (But.of_below Bd (R := w0.heap.size)).trans Te
  refine hK.out _ _ (HKP.out _ De) (fun hHeld => ?_)
  clear hK K
  try simp only [Act.put, List.getElem_toArray, List.getElem_cons_succ, List.getElem_cons_zero, List.setIfInBounds_toArray, List.set_cons_zero, List.set_cons_succ]
  replace x0 := x0.but De (by omega)
  replace D2 := D2.but De hD
  replace b2 := b2.trans (De.below (B := w.heap.size) b2.size (by omega))
  have xsf := (xs.but De (by omega)).far (p := ⟨w.heap.size, 0, none⟩) (by show w2.heap.size ≠ w.heap.size; omega) (.slice A2 rs.length c2)
  have HS9 := hid xsf.reads.1
  obtain ⟨t0', tf⟩ := id x0.reads
  have tf0 := tf 0
  clear tf xsf
  refine wpAnyH_take (i := 4) (oi := _) (v := ?_) rfl (by kernel_rfl) (by kernel_rfl) (by kernel_rfl) (fun _ _ _ h => h) (Or.inl ⟨by rfl, ?_⟩) hHeld ?_
  rotate_left
  · (intro w' hSw; (try dsimp only at hSw); go_simp <;> with_reducible rfl)
  try simp only [Act.put, List.getElem_toArray, List.getElem_cons_succ, List.getElem_cons_zero, List.setIfInBounds_toArray, List.set_cons_zero, List.set_cons_succ]
  refine wpAnyH_ready (rs := [5]) (by kernel_rfl) (by simp) (AllReadyH.cons (o := _) rfl (fun K hK => ?_) AllReadyH.nil)
  try simp only [Act.put, List.getElem_toArray, List.getElem_cons_succ, List.getElem_cons_zero, List.setIfInBounds_toArray, List.set_cons_zero, List.set_cons_succ]
  go_simp
  refine hK.out _ _ HS9.out (fun hHeld => ?_)
  clear hK K
  try simp only [Act.put, List.getElem_toArray, List.getElem_cons_succ, List.getElem_cons_zero, List.setIfInBounds_toArray, List.set_cons_zero, List.set_cons_succ]
  refine wpAnyH_take (i := 6) (oi := _) (v := ?_) rfl (by kernel_rfl) (by kernel_rfl) (by kernel_rfl) (fun _ _ _ h => h) (Or.inl ⟨by rfl, ?_⟩) hHeld ?_
  rotate_left
  · (intro w' hSw; (try dsimp only at hSw); go_simp <;> with_reducible rfl)
  try simp only [Act.put, List.getElem_toArray, List.getElem_cons_succ, List.getElem_cons_zero, List.setIfInBounds_toArray, List.set_cons_zero, List.set_cons_succ]
  refine wpAnyH_take (i := 7) (oi := _) (v := ?_) rfl (by kernel_rfl) (by kernel_rfl) (by kernel_rfl) (fun _ _ _ h => h) (Or.inl ⟨by rfl, ?_⟩) hHeld ?_
  rotate_left
  · (intro w' hSw; (try dsimp only at hSw); go_simp <;> with_reducible rfl)
  try simp only [Act.put, List.getElem_toArray, List.getElem_cons_succ, List.getElem_cons_zero, List.setIfInBounds_toArray, List.set_cons_zero, List.set_cons_succ]
  refine wpAnyH_done (by kernel_rfl) ?_ _
  obtain ⟨p0, -⟩ := (x0.set0 (.slice A2 rs.length c2)).reads
  have D9 := D2.keptT (by decide) (by decide) (but_set we w.heap.size 0 (.slice A2 rs.length c2)) (blk_type x0)
  have b9 := b2.setCell (p := ⟨w.heap.size, 0, none⟩) (Nat.le_refl _) (.slice A2 rs.length c2)
  clear hHeld t0' tf0
  go_wp2
  exact bodyPost_ret (v := .tuple #[.agg #[.slice A2 rs.length c2], .int .i64 t, .bool (decide (0 < d4))]) (by simp [results, Tryd.results26, go_sem, p0]) rfl ⟨_, rs, t, _, rfl, D9.shd, hl, HS.out, t0, t1, b9⟩
set_option linter.unusedSimpArgs false in
set_option maxRecDepth 100000 in
set_option maxHeartbeats 4000000 in
theorem DrawShardPrepare_any (A : Option Addr) (c : Nat) (bs : List Int) (w : World) (h : Code_ w A c bs) :
    Calls Tryd.prog 21 #[.slice A bs.length c] w (ShUps w) := by
  have al := (Below.refl w.heap.size w).alloc (Nat.le_refl _) (.cells #[.slice none 0 0] 25)
  have x0 := Blk1.new_ w 25 (.slice none 0 0)
  obtain ⟨w0, hw0⟩ : ∃ w0, w.alloc (.cells #[.slice none 0 0] 25) = w0 := ⟨_, rfl⟩
  have h0 := h.below al
  rw [hw0] at al x0 h0
  go_enter Tryd.func21, Tryd.ntmps21
  go_wp2_with fail
  clear hw0
  refine (l6Open_any A c bs w0 h0).mono ?_
  rintro e w1 ⟨rfl, R1, b1⟩
  have hwz : w.heap.size < w0.heap.size := x0.lt
  replace x0 := x0.later b1
  replace al := al.trans (b1.mono al.size)
  go_wp2_with fail
  refine (l92Shard_any w0.heap.size 0 w1 R1 (by omega)).mono ?_
  rintro e w2 ⟨v, rs, rfl, D2, hl, hs, R2, T2⟩
  obtain ⟨A2, c2, rfl, -⟩ := D2.shd
  unfold shV at *
  replace x0 := x0.but T2 (by omega)
  have b2 := al.trans (T2.below (B := w.heap.size) al.size (by omega))
  have HS := hid hs
  have z1 := al.size
  have hD := R1.lt
  clear al b1 h0 T2 R1 hs
  have al2 := (Below.refl w2.heap.size w2).alloc (Nat.le_refl _) (.cells #[.slice A2 rs.length c2] 25)
  have xs := Blk1.new_ w2 25 (.slice A2 rs.length c2)
  go_upto_region 3 with fail
  obtain ⟨w3, hw3⟩ : ∃ w3, w2.alloc (.cells #[.slice A2 rs.length c2] 25) = w3 := ⟨_, rfl⟩
  rw [hw3] at al2 xs ⊢
  have hR2 := R2.lt
  replace x0 := x0.later al2
  replace D2 := D2.below al2
  replace b2 := b2.trans (al2.mono b2.size)
  replace R2 := R2.below al2 R2.lt
  clear al2 hw3
  obtain ⟨hr3, hc3⟩ := Sh.shd_recs D2.shd
  have y0 := xs.reads.1
  go_wp2_with fail
  refine (l21Recover_any A2 c2 rs w3 hr3 hc3 (HS.out.fit (by omega))).mono ?_
  rintro e w4 ⟨st, b1, HR, v4, rfl, s4, d4⟩
  obtain ⟨A6, c6, A7, c7, rfl, r6, -⟩ := s4
  unfold stV
  replace R2 := R2.below d4 R2.lt
  have ne6 := row4_ne r6 HR.1.len.1 R2
  have al := (Below.refl w4.heap.size w4).alloc (Nat.le_refl _) (.cells #[.slice A6 st.refs.length c6, .slice A7 st.locks.length c7] 37)
  have xb := Blk2s.new_ w4 37 (.slice A6 st.refs.length c6) (.slice A7 st.locks.length c7)
  replace xs := (xs.later d4).later al
  replace x0 := (x0.later d4).later al
  replace D2 := (D2.below d4).below al
  have b4 := b2.trans (d4.mono b2.size)
  replace b2 := b4.trans (al.mono b4.size)
  have hR4 := R2.lt
  replace R2 := R2.below al R2.lt
  replace r6 := r6.below al (Nat.le_refl _)
  clear HR d4 hr3 y0 b4
  go_upto_region 4 with fail
  obtain ⟨w5, hw5⟩ : ∃ w5, w4.alloc (.cells #[.slice A6 st.refs.length c6, .slice A7 st.locks.length c7] 37) = w5 := ⟨_, rfl⟩
  rw [hw5] at al xb xs x0 D2 b2 R2 r6 ⊢
  clear hw5 al
  go_wp2_with fail
  refine (l92Txn_any w0.heap.size _ w5 R2 (by omega)).mono ?_
  rintro e w6 ⟨t, rfl, t0, t1, R6, T6⟩
  replace xs := xs.but T6 (by omega)
  replace x0 := x0.but T6 (by omega)
  replace D2 := D2.but T6 hD
  replace b2 := b2.trans ((T6).below (B := w.heap.size) b2.size (by omega))
  replace r6 := row_but4 r6 T6 (Nat.le_of_lt xb.lt) ne6
  replace xb := xb.but T6 (by omega)
  go_wp2_with fail
  refine (pick_any w0.heap.size _ 2 w6 R6 (by omega) (by omega) (by omega)).mono ?_
  rintro e w7 ⟨d2, rfl, d20, d21, R7, T7⟩
  replace xs := xs.but T7 (by omega)
  replace x0 := x0.but T7 (by omega)
  replace D2 := D2.but T7 hD
  replace b2 := b2.trans ((T7).below (B := w.heap.size) b2.size (by omega))
  replace r6 := row_but4 r6 T7 (Nat.le_of_lt xb.lt) ne6
  replace xb := xb.but T7 (by omega)
  clear R6 T6 T7 R2
  by_cases h2 : d2 = 0
  · have e2 : (d2 == 0) = true := by rw [h2]; rfl
    clear h2
    go_wp2_with fail
    refine (pick_any w0.heap.size _ 12 w7 R7 (by omega) (by omega) (by omega)).mono ?_
    rintro e w8 ⟨t', rfl, t0', t1', R8, T8⟩
    replace xs := xs.but T8 (by omega)
    replace x0 := x0.but T8 (by omega)
    replace D2 := D2.but T8 hD
    replace b2 := b2.trans ((T8).below (B := w.heap.size) b2.size (by omega))
    replace r6 := row_but4 r6 T8 (Nat.le_of_lt xb.lt) ne6
    replace xb := xb.but T8 (by omega)
    clear T8 R7
    go_wp2_with fail
    have HKP : Hid (∀ x, But w0.heap.size w8 x → x.cell? ⟨w2.heap.size, 0, none⟩ = some (.slice A2 rs.length c2) ∧ x.cell? ⟨w4.heap.size, 0, none⟩ = some (.slice A6 st.refs.length c6)) := fun x hx => ⟨(xs.but hx (by omega)).reads.1, (xb.but hx (by omega)).reads.1⟩
    have Bd := (Below.refl w8.heap.size w8).drew
    refine wp_region_held_drew (S := fun x => x.cell? ⟨w2.heap.size, 0, none⟩ = some (.slice A2 rs.length c2) ∧ x.cell? ⟨w4.heap.size, 0, none⟩ = some (.slice A6 st.refs.length c6)) (by kernel_rfl) (HKP.out _ (.of_below Bd)) (fun hHeld => ?_)
    replace r6 := r6.below Bd (Nat.le_of_lt xb.lt)
    have zd : w4.heap.size < w8.drew.heap.size := xb.lt
    obtain ⟨wd, hwd⟩ : ∃ wd, w8.drew = wd := ⟨_, rfl⟩
    rw [hwd] at hHeld Bd r6 zd ⊢
    clear hwd
    refine wpAnyH_take (i := 0) (oi := _) (v := ?_) rfl (by kernel_rfl) (by kernel_rfl) (by kernel_rfl) (fun _ _ _ h => h) (Or.inl ⟨by rfl, ?_⟩) hHeld ?_
    rotate_left
    · (intro w' hSw; (try dsimp only at hSw); go_simp <;> with_reducible rfl)
    try simp only [Act.put, List.getElem_toArray, List.getElem_cons_succ, List.getElem_cons_zero, List.setIfInBounds_toArray, List.set_cons_zero, List.set_cons_succ]
    refine wpAnyH_take (i := 1) (oi := _) (v := ?_) rfl (by kernel_rfl) (by kernel_rfl) (by kernel_rfl) (fun _ _ _ h => h) (Or.inl ⟨by rfl, ?_⟩) hHeld ?_
    rotate_left
    · (intro w' hSw; (try dsimp only at hSw); go_simp <;> with_reducible rfl)
    try simp only [Act.put, List.getElem_toArray, List.getElem_cons_succ, List.getElem_cons_zero, List.setIfInBounds_toArray, List.set_cons_zero, List.set_cons_succ]
    refine wpAnyH_take (i := 2) (oi := _) (v := ?_) rfl (by kernel_rfl) (by kernel_rfl) (by kernel_rfl) (fun _ _ _ h => h) (Or.inl ⟨by rfl, ?_⟩) hHeld ?_
    rotate_left
    · (intro w' hSw; (try dsimp only at hSw); go_simp <;> with_reducible rfl)
    try simp only [Act.put, List.getElem_toArray, List.getElem_cons_succ, List.getElem_cons_zero, List.setIfInBounds_toArray, List.set_cons_zero, List.set_cons_succ]
    refine wpAnyH_take (i := 3) (oi := _) (v := ?_) rfl (by kernel_rfl) (by kernel_rfl) (by kernel_rfl) (fun _ _ _ h => h) (Or.inl ⟨by rfl, ?_⟩) hHeld ?_
    rotate_left
    · (intro w' hSw; (try dsimp only at hSw); go_simp <;> with_reducible rfl)
    try simp only [Act.put, List.getElem_toArray, List.getElem_cons_succ, List.getElem_cons_zero, List.setIfInBounds_toArray, List.set_cons_zero, List.set_cons_succ]
    refine wpAnyH_take (i := 4) (oi := _) (v := ?_) rfl (by kernel_rfl) (by kernel_rfl) (by kernel_rfl) (fun _ _ _ h => h) (Or.inl ⟨by rfl, ?_⟩) hHeld ?_
    rotate_left
    · (intro w' hSw; (try dsimp only at hSw); go_simp <;> with_reducible rfl)
    try simp only [Act.put, List.getElem_toArray, List.getElem_cons_succ, List.getElem_cons_zero, List.setIfInBounds_toArray, List.set_cons_zero, List.set_cons_succ]
    refine wpAnyH_ready (rs := [5]) (by kernel_rfl) (by simp) (AllReadyH.cons (o := _) rfl (fun K hK => ?_) AllReadyH.nil)
    try simp only [Act.put, List.getElem_toArray, List.getElem_cons_succ, List.getElem_cons_zero, List.setIfInBounds_toArray, List.set_cons_zero, List.set_cons_succ]
    go_simp
    go_at_call 60
    refine (l92Updates_any w0.heap.size _ A6 c6 st.refs wd (R8.below Bd R8.lt) (by omega) (r6.more (Nat.le_of_lt zd)) ne6).mono ?_
    rintro e we ⟨vu, us, rfl, ou, hu4, Re, Te⟩
    have De := (But.of_below Bd (R := w0.heap.size)).trans Te
    obtain ⟨Au, cu, rfl, ru, hcu⟩ := ou.form
    refine hK.out _ _ (HKP.out _ De) (fun hHeld => ?_)
    clear hK K
    try simp only [Act.put, List.getElem_toArray, List.getElem_cons_succ, List.getElem_cons_zero, List.setIfInBounds_toArray, List.set_cons_zero, List.set_cons_succ]
    replace x0 := x0.but De (by omega)
    replace D2 := D2.but De hD
    replace b2 := b2.trans (De.below (B := w.heap.size) b2.size (by omega))
    have xsf := (xs.but De (by omega)).far (p := ⟨w.heap.size, 0, none⟩) (by show w2.heap.size ≠ w.heap.size; omega) (.slice A2 rs.length c2)
    have xbf := (xb.but De (by omega)).far (p := ⟨w.heap.size, 0, none⟩) (by show w4.heap.size ≠ w.heap.size; omega) (.slice A2 rs.length c2)
    have HS9 := hid (⟨xsf.reads.1, xbf.reads.1⟩ : _ ∧ _)
    obtain ⟨t0', tf⟩ := id x0.reads
    have tf0 := tf 0
    clear tf xsf xbf
    refine wpAnyH_ready (rs := [6]) (by kernel_rfl) (by simp) (AllReadyH.cons (o := _) rfl (fun K hK => ?_) AllReadyH.nil)
    try simp only [Act.put, List.getElem_toArray, List.getElem_cons_succ, List.getElem_cons_zero, List.setIfInBounds_toArray, List.set_cons_zero, List.set_cons_succ]
    go_simp
    refine hK.out _ _ HS9.out (fun hHeld => ?_)
    clear hK K
    try simp only [Act.put, List.getElem_toArray, List.getElem_cons_succ, List.getElem_cons_zero, List.setIfInBounds_toArray, List.set_cons_zero, List.set_cons_succ]
    refine wpAnyH_take (i := 7) (oi := _) (v := ?_) rfl (by kernel_rfl) (by kernel_rfl) (by kernel_rfl) (fun _ _ _ h => h) (Or.inl ⟨by rfl, ?_⟩) hHeld ?_
    rotate_left
    · (intro w' hSw; (try dsimp only at hSw); go_simp <;> with_reducible rfl)
    try simp only [Act.put, List.getElem_toArray, List.getElem_cons_succ, List.getElem_cons_zero, List.setIfInBounds_toArray, List.set_cons_zero, List.set_cons_succ]
    refine wpAnyH_take (i := 8) (oi := _) (v := ?_) rfl (by kernel_rfl) (by kernel_rfl) (by kernel_rfl) (fun _ _ _ h => h) (Or.inl ⟨by rfl, ?_⟩) hHeld ?_
    rotate_left
    · (intro w' hSw; (try dsimp only at hSw); go_simp <;> with_reducible rfl)
    try simp only [Act.put, List.getElem_toArray, List.getElem_cons_succ, List.getElem_cons_zero, List.setIfInBounds_toArray, List.set_cons_zero, List.set_cons_succ]
    refine wpAnyH_done (by kernel_rfl) ?_ _
    obtain ⟨p0, -⟩ := (x0.set0 (.slice A2 rs.length c2)).reads
    have D9 := D2.keptT (by decide) (by decide) (but_set we w.heap.size 0 (.slice A2 rs.length c2)) (blk_type x0)
    have b9 := b2.setCell (p := ⟨w.heap.size, 0, none⟩) (Nat.le_refl _) (.slice A2 rs.length c2)
    have r9 := (OwnUps.keptT ou (by decide) (but_set we w.heap.size 0 (.slice A2 rs.length c2)) (blk_type x0)).form
    obtain ⟨A', c', e', r9, -⟩ := r9
    injection e' with e1 _ e3
    subst e1 e3
    clear hHeld t0' tf0 ou ru
    go_wp2
    exact bodyPost_ret (v := .tuple #[.agg #[.slice A2 rs.length c2], .int .i64 t', .slice Au us.length cu]) (by simp [results, Tryd.results21, go_sem, p0]) rfl ⟨_, rs, t', Au, cu, us, rfl, D9.shd, hl, HS.out, by omega, by omega, r9, hu4, hcu, b9⟩
  · have e2 : (d2 == 0) = false := by rw [beq_eq_false_iff_ne]; exact h2
    clear h2
    have R8 := R7
    clear R7
    go_wp2_with fail
    have HKP : Hid (∀ x, But w0.heap.size w7 x → x.cell? ⟨w2.heap.size, 0, none⟩ = some (.slice A2 rs.length c2) ∧ x.cell? ⟨w4.heap.size, 0, none⟩ = some (.slice A6 st.refs.length c6)) := fun x hx => ⟨(xs.but hx (by omega)).reads.1, (xb.but hx (by omega)).reads.1⟩
    have Bd := (Below.refl w7.heap.size w7).drew
    refine wp_region_held_drew (S := fun x => x.cell? ⟨w2.heap.size, 0, none⟩ = some (.slice A2 rs.length c2) ∧ x.cell? ⟨w4.heap.size, 0, none⟩ = some (.slice A6 st.refs.length c6)) (by kernel_rfl) (HKP.out _ (.of_below Bd)) (fun hHeld => ?_)
    replace r6 := r6.below Bd (Nat.le_of_lt xb.lt)
    have zd : w4.heap.size < w7.drew.heap.size := xb.lt
    obtain ⟨wd, hwd⟩ : ∃ wd, w7.drew = wd := ⟨_, rfl⟩
    rw [hwd] at hHeld Bd r6 zd ⊢
    clear hwd
    refine wpAnyH_take (i := 0) (oi := _) (v := ?_) rfl (by kernel_rfl) (by kernel_rfl) (by kernel_rfl) (fun _ _ _ h => h) (Or.inl ⟨by rfl, ?_⟩) hHeld ?_
    rotate_left
    · (intro w' hSw; (try dsimp only at hSw); go_simp <;> with_reducible rfl)
    try simp only [Act.put, List.getElem_toArray, List.getElem_cons_succ, List.getElem_cons_zero, List.setIfInBounds_toArray, List.set_cons_zero, List.set_cons_succ]
    refine wpAnyH_take (i := 1) (oi := _) (v := ?_) rfl (by kernel_rfl) (by kernel_rfl) (by kernel_rfl) (fun _ _ _ h => h) (Or.inl ⟨by rfl, ?_⟩) hHeld ?_
    rotate_left
    · (intro w' hSw; (try dsimp only at hSw); go_simp <;> with_reducible rfl)
    try simp only [Act.put, List.getElem_toArray, List.getElem_cons_succ, List.getElem_cons_zero, List.setIfInBounds_toArray, List.set_cons_zero, List.set_cons_succ]
    refine wpAnyH_take (i := 2) (oi := _) (v := ?_) rfl (by kernel_rfl) (by kernel_rfl) (by kernel_rfl) (fun _ _ _ h => h) (Or.inl ⟨by rfl, ?_⟩) hHeld ?_
    rotate_left
    · (intro w' hSw; (try dsimp only at hSw); go_simp <;> with_reducible rfl)
    try simp only [Act.put, List.getElem_toArray, List.getElem_cons_succ, List.getElem_cons_zero, List.setIfInBounds_toArray, List.set_cons_zero, List.set_cons_succ]
    refine wpAnyH_take (i := 3) (oi := _) (v := ?_) rfl (by kernel_rfl) (by kernel_rfl) (by kernel_rfl) (fun _ _ _ h => h) (Or.inl ⟨by rfl, ?_⟩) hHeld ?_
    rotate_left
    · (intro w' hSw; (try dsimp only at hSw); go_simp <;> with_reducible rfl)
    try simp only [Act.put, List.getElem_toArray, List.getElem_cons_succ, List.getElem_cons_zero, List.setIfInBounds_toArray, List.set_cons_zero, List.set_cons_succ]
    refine wpAnyH_take (i := 4) (oi := _) (v := ?_) rfl (by kernel_rfl) (by kernel_rfl) (by kernel_rfl) (fun _ _ _ h => h) (Or.inl ⟨by rfl, ?_⟩) hHeld ?_
    rotate_left
    · (intro w' hSw; (try dsimp only at hSw); go_simp <;> with_reducible rfl)
    try simp only [Act.put, List.getElem_toArray, List.getElem_cons_succ, List.getElem_cons_zero, List.setIfInBounds_toArray, List.set_cons_zero, List.set_cons_succ]
    refine wpAnyH_ready (rs := [5]) (by kernel_rfl) (by simp) (AllReadyH.cons (o := _) rfl (fun K hK => ?_) AllReadyH.nil)
    try simp only [Act.put, List.getElem_toArray, List.getElem_cons_succ, List.getElem_cons_zero, List.setIfInBounds_toArray, List.set_cons_zero, List.set_cons_succ]
    go_simp
    go_at_call 60
    refine (l92Updates_any w0.heap.size _ A6 c6 st.refs wd (R8.below Bd R8.lt) (by omega) (r6.more (Nat.le_of_lt zd)) ne6).mono ?_
    rintro e we ⟨vu, us, rfl, ou, hu4, Re, Te⟩
    have De := (But.of_below Bd (R := w0.heap.size)).trans Te
    obtain ⟨Au, cu, rfl, ru, hcu⟩ := ou.form
    refine hK.out _ _ (HKP.out _ De) (fun hHeld => ?_)
    clear hK K
    try simp only [Act.put, List.getElem_toArray, List.getElem_cons_succ, List.getElem_cons_zero, List.setIfInBounds_toArray, List.set_cons_zero, List.set_cons_succ]
    replace x0 := x0.but De (by omega)
    replace D2 := D2.but De hD
    replace b2 := b2.trans (De.below (B := w.heap.size) b2.size (by omega))
    have xsf := (xs.but De (by omega)).far (p := ⟨w.heap.size, 0, none⟩) (by show w2.heap.size ≠ w.heap.size; omega) (.slice A2 rs.length c2)
    have xbf := (xb.but De (by omega)).far (p := ⟨w.heap.size, 0, none⟩) (by show w4.heap.size ≠ w.heap.size; omega) (.slice A2 rs.length c2)
    have HS9 := hid (⟨xsf.reads.1, xbf.reads.1⟩ : _ ∧ _)
    obtain ⟨t0', tf⟩ := id x0.reads
    have tf0 := tf 0
    clear tf xsf xbf
    refine wpAnyH_ready (rs := [6]) (by kernel_rfl) (by simp) (AllReadyH.cons (o := _) rfl (fun K hK => ?_) AllReadyH.nil)
    try simp only [Act.put, List.getElem_toArray, List.getElem_cons_succ, List.getElem_cons_zero, List.setIfInBounds_toArray, List.set_cons_zero, List.set_cons_succ]
    go_simp
    refine hK.out _ _ HS9.out (fun hHeld => ?_)
    clear hK K
    try simp only [Act.put, List.getElem_toArray, List.getElem_cons_succ, List.getElem_cons_zero, List.setIfInBounds_toArray, List.set_cons_zero, List.set_cons_succ]
    refine wpAnyH_take (i := 7) (oi := _) (v := ?_) rfl (by kernel_rfl) (by kernel_rfl) (by kernel_rfl) (fun _ _ _ h => h) (Or.inl ⟨by rfl, ?_⟩) hHeld ?_
    rotate_left
    · (intro w' hSw; (try dsimp only at hSw); go_simp <;> with_reducible rfl)
    try simp only [Act.put, List.getElem_toArray, List.getElem_cons_succ, List.getElem_cons_zero, List.setIfInBounds_toArray, List.set_cons_zero, List.set_cons_succ]
    refine wpAnyH_take (i := 8) (oi := _) (v := ?_) rfl (by kernel_rfl) (by kernel_rfl) (by kernel_rfl) (fun _ _ _ h => h) (Or.inl ⟨by rfl, ?_⟩) hHeld ?_
    rotate_left
    · (intro w' hSw; (try dsimp only at hSw); go_simp <;> with_reducible rfl)
    try simp only [Act.put, List.getElem_toArray, List.getElem_cons_succ, List.getElem_cons_zero, List.setIfInBounds_toArray, List.set_cons_zero, List.set_cons_succ]
    refine wpAnyH_done (by kernel_rfl) ?_ _
    obtain ⟨p0, -⟩ := (x0.set0 (.slice A2 rs.length c2)).reads
    have D9 := D2.keptT (by decide) (by decide) (but_set we w.heap.size 0 (.slice A2 rs.length c2)) (blk_type x0)
    have b9 := b2.setCell (p := ⟨w.heap.size, 0, none⟩) (Nat.le_refl _) (.slice A2 rs.length c2)
    have r9 := (OwnUps.keptT ou (by decide) (but_set we w.heap.size 0 (.slice A2 rs.length c2)) (blk_type x0)).form
    obtain ⟨A', c', e', r9, -⟩ := r9
    injection e' with e1 _ e3
    subst e1 e3
    clear hHeld t0' tf0 ou ru
    go_wp2
    exact bodyPost_ret (v := .tuple #[.agg #[.slice A2 rs.length c2], .int .i64 t, .slice Au us.length cu]) (by simp [results, Tryd.results21, go_sem, p0]) rfl ⟨_, rs, t, Au, cu, us, rfl, D9.shd, hl, HS.out, by omega, by omega, r9, hu4, hcu, b9⟩
end Go.Proofs.YteeffchnbkkpfabDoor
