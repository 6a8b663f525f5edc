/- The coordinator with the slices $SA and $SB is stored as the answer, with the word $BB. -/
/-
  Walks of the exact laws on ShardValid and ShardAsk.
-/
import Derived.Test.YteeffchnbkkpfabDoorMarkS
import Derived.Test.YteeffchnbkkpfabDoorShdH
import Derived.Test.YteeffchnbkkpfabDoorShdI
namespace Go.Proofs.YteeffchnbkkpfabDoor
open Go.RowKit Wo Pu Rf Lk Sh

theorem OwnShF.shd {w : World} {B : Nat} {v : Value} {rs : List Rec} (h : OwnShF w B v rs) : Shd w w.heap.size v rs := h.own.shd
set_option linter.unusedSimpArgs false in
set_option maxRecDepth 100000 in
set_option maxHeartbeats 8000000 in
theorem exactShardValid_any (v : Value) (rs : List Rec) (w : World) (h : Shd w w.heap.size v rs) (hq : WideR rs) (er0 er1 : Addr) (hE : Errs er0 er1 w) :
    Calls Tryd.prog 8 #[v] w (Ret (.bool true) w) := by
  have HEx : Hid (∀ y, Below w.heap.size w y → Errs er0 er1 y) := fun y hy => hE.below hy
  have HW := hid hq
  clear hq hE
  obtain ⟨A0, c0, rfl, -, -⟩ := id h
  unfold shV at *
  have x0 := Blk1.new_ w 54 (.slice A0 rs.length c0)
  have b1 := (Below.refl w.heap.size w).alloc (Nat.le_refl _) (.cells #[.slice A0 rs.length c0] 54)
  obtain ⟨w0, hw0⟩ : ∃ x, w.alloc (.cells #[.slice A0 rs.length c0] 54) = x := ⟨_, rfl⟩
  obtain ⟨g0, hg0⟩ : ∃ g, w.heap.size = g := ⟨_, rfl⟩
  rw [hw0] at x0 b1
  rw [hg0] at x0
  have HA : Hid (∀ y, Below w.heap.size w y → Shd y y.heap.size (.agg #[.slice A0 rs.length c0]) rs) := fun y hy => h.on hy hy.size
  obtain ⟨y00, -⟩ := id x0.reads
  go_enter Tryd.func8, Tryd.ntmps8
  go_wp2_with fail
  refine (szShard_any _ rs 1048576 w0 (HA.out _ b1) HW.out (by omega) (by omega)).mono ?_
  rintro e w1 ⟨r, rfl, hr, d⟩
  replace b1 := b1.trans (d.mono b1.size)
  replace x0 := x0.later d
  clear y00 d
  obtain ⟨y00, -⟩ := id x0.reads
  rcases hr with rfl | ⟨r0, hr⟩
  · go_wp2
    go_ret
    exact .mk_ b1
  · have hsz : allSzR rs ≤ 1048576 := by omega
    have HF := hid (allSzR_fit hsz (Nat.le_refl _))
    clear hr hsz
    obtain ⟨b, hb⟩ := bool_ofP (Vld rs)
    have CI : Hid (∀ x v, Below w.heap.size w x → Shd x x.heap.size v rs → Calls Tryd.prog 36 #[v] x (Ret (.bool b) x)) := fun x v hx hv => implShardValid_is er0 er1 b v rs x hv (HEx.out x hx) HF.out hb
    have CS : Hid (∀ x v, Shd x x.heap.size v rs → Calls Tryd.prog 18 #[v] x (Ret (.bool b) x)) := fun x v hv => specShardValid_is b v rs x hv HF.out hb
    clear hb
    go_wp2_with fail
    refine (toShard_any _ rs w1 (HA.out _ b1) HF.out).mono ?_
    rintro e w2 ⟨v2, rfl, o2, d⟩
    have p2 := o2.shd
    obtain ⟨A2, c2, rfl, -, -⟩ := id p2
    unfold shV at *
    replace b1 := b1.trans ((d).mono b1.size)
    replace x0 := x0.later d
    clear y00
    obtain ⟨y00, -⟩ := id x0.reads
    clear o2 d
    go_wp2_with fail
    refine (CS.out _ _ p2).mono ?_
    rintro e w3 ⟨rfl, d⟩
    replace b1 := b1.trans ((d).mono b1.size)
    replace x0 := x0.later d
    clear y00
    obtain ⟨y00, -⟩ := id x0.reads
    clear p2 d CS
    go_wp2_with fail
    refine (toShard_any _ rs w3 (HA.out _ b1) HF.out).mono ?_
    rintro e w4 ⟨v4, rfl, o4, d⟩
    have p4 := o4.shd
    obtain ⟨A4, c4, rfl, -, -⟩ := id p4
    unfold shV at *
    replace b1 := b1.trans ((d).mono b1.size)
    replace x0 := x0.later d
    clear y00
    obtain ⟨y00, -⟩ := id x0.reads
    clear o4 d
    obtain ⟨g5, hg⟩ : ∃ g, (w4).heap.size = g := ⟨_, rfl⟩
    have al := (Below.refl (w4).heap.size w4).alloc (Nat.le_refl _) (.cells #[.slice A4 rs.length c4] 25)
    have x5 := Blk1.new_ (w4) 25 (.slice A4 rs.length c4)
    obtain ⟨w5, hw'⟩ : ∃ x, (w4).alloc (.cells #[.slice A4 rs.length c4] 25) = x := ⟨_, rfl⟩
    rw [hw'] at al x5
    rw [hg] at x5
    replace b1 := b1.trans ((al).mono b1.size)
    replace x0 := x0.later al
    clear y00
    obtain ⟨y00, -⟩ := id x0.reads
    replace p4 := p4.on al al.size
    clear al
    obtain ⟨y50, -⟩ := id x5.reads
    go_wp2_with fail
    refine (CI.out _ _ b1 p4).mono ?_
    rintro e w6 ⟨rfl, d⟩
    replace b1 := b1.trans ((d).mono b1.size)
    replace x0 := x0.later d
    clear y00
    obtain ⟨y00, -⟩ := id x0.reads
    replace p4 := p4.on d d.size
    replace x5 := x5.later d
    clear d y50 CI
    go_wp2_with fail
    have b0 := (Below.refl w6.heap.size w6).drew
    have HX : Hid (∀ y, Below w6.heap.size w6 y → y.cell? ⟨g0, 0, none⟩ = some (.slice A0 rs.length c0) ∧ y.cell? ⟨g5, 0, none⟩ = some (.slice A4 rs.length c4)) := fun y hy => ⟨(x0.later hy).reads.1, (x5.later hy).reads.1⟩
    clear y00
    refine wp_region_held_drew (S := fun y => y.cell? ⟨g0, 0, none⟩ = some (.slice A0 rs.length c0) ∧ y.cell? ⟨g5, 0, none⟩ = some (.slice A4 rs.length c4)) (by kernel_rfl) (HX.out _ b0) (fun hHeld => ?_)
    refine wpAnyH_take (i := 0) (oi := _) (v := ?_) rfl (by kernel_rfl) (by kernel_rfl) (by kernel_rfl) (fun _ _ _ h => h) (Or.inl ⟨by rfl, ?_⟩) hHeld ?_
    rotate_left
    · (intro w' hSw; (try dsimp only at hSw); go_simp <;> with_reducible rfl)
    try simp only [Act.put, List.getElem_toArray, List.getElem_cons_succ, List.getElem_cons_zero, List.setIfInBounds_toArray, List.set_cons_zero, List.set_cons_succ]
    refine wpAnyH_take (i := 1) (oi := _) (v := ?_) rfl (by kernel_rfl) (by kernel_rfl) (by kernel_rfl) (fun _ _ _ h => h) (Or.inl ⟨by rfl, ?_⟩) hHeld ?_
    rotate_left
    · (intro w' hSw; (try dsimp only at hSw); go_simp <;> with_reducible rfl)
    try simp only [Act.put, List.getElem_toArray, List.getElem_cons_succ, List.getElem_cons_zero, List.setIfInBounds_toArray, List.set_cons_zero, List.set_cons_succ]
    refine wpAnyH_ready (rs := [2]) (by kernel_rfl) (by simp) (AllReadyH.cons (o := _) rfl (fun K hK => ?_) AllReadyH.nil)
    try simp only [Act.put, List.getElem_toArray, List.getElem_cons_succ, List.getElem_cons_zero, List.setIfInBounds_toArray, List.set_cons_zero, List.set_cons_succ]
    go_simp
    go_at_call 35
    refine (toShard_any _ rs _ (HA.out _ (b1.trans (b0.mono b1.size))) HF.out).mono ?_
    rintro e w7 ⟨v7, rfl, o7, d⟩
    have p7 := o7.shd
    have b7 := b0.trans (d.mono b0.size)
    refine hK.out _ _ (HX.out _ b7) (fun hHeld => ?_)
    clear hK K
    try simp only [Act.put, List.getElem_toArray, List.getElem_cons_succ, List.getElem_cons_zero, List.setIfInBounds_toArray, List.set_cons_zero, List.set_cons_succ]
    refine wpAnyH_ready (rs := [3]) (by kernel_rfl) (by simp) (AllReadyH.cons (o := _) rfl (fun K hK => ?_) AllReadyH.nil)
    try simp only [Act.put, List.getElem_toArray, List.getElem_cons_succ, List.getElem_cons_zero, List.setIfInBounds_toArray, List.set_cons_zero, List.set_cons_succ]
    go_simp
    go_at_call 37
    refine (eqShard_is _ _ rs _ (p4.on b7 b7.size) p7 HF.out).mono ?_
    rintro e w8 ⟨rfl, d8⟩
    have b8 := b7.trans (d8.mono b7.size)
    refine hK.out _ _ (HX.out _ b8) (fun hHeld => ?_)
    clear hK K
    try simp only [Act.put, List.getElem_toArray, List.getElem_cons_succ, List.getElem_cons_zero, List.setIfInBounds_toArray, List.set_cons_zero, List.set_cons_succ]
    refine wpAnyH_take (i := 4) (oi := _) (v := ?_) rfl (by kernel_rfl) (by kernel_rfl) (by kernel_rfl) (fun _ _ _ h => h) (Or.inl ⟨by rfl, ?_⟩) hHeld ?_
    rotate_left
    · (intro w' hSw; (try dsimp only at hSw); go_simp <;> with_reducible rfl)
    try simp only [Act.put, List.getElem_toArray, List.getElem_cons_succ, List.getElem_cons_zero, List.setIfInBounds_toArray, List.set_cons_zero, List.set_cons_succ]
    refine wpAnyH_done (by kernel_rfl) ?_ _
    replace b1 := b1.trans (b8.mono b1.size)
    go_wp2
    go_ret
    exact .mk_ b1
theorem ask_ex (rs : List Rec) (t : Int) : ∃ z, (Vld rs ∧ TV t ∧ z = Sh.ask rs t) ∨ (¬ (Vld rs ∧ TV t) ∧ z = -1) := by
  by_cases h : Vld rs ∧ TV t
  · exact ⟨_, .inl ⟨h.1, h.2, rfl⟩⟩
  · exact ⟨_, .inr ⟨h, rfl⟩⟩
set_option linter.unusedSimpArgs false in
set_option maxRecDepth 100000 in
set_option maxHeartbeats 8000000 in
theorem exactShardAsk_any (v : Value) (rs : List Rec) (t : Int) (w : World) (h : Shd w w.heap.size v rs) (hq : WideR rs) (_wt : (Lit.int .i64 t).wf = true) (er0 er1 : Addr) (hE : Errs er0 er1 w) :
    Calls Tryd.prog 10 #[v, .int .i64 t] w (Ret (.bool true) w) := by
  have HEx : Hid (∀ y, Below w.heap.size w y → Errs er0 er1 y) := fun y hy => hE.below hy
  have HW := hid hq
  clear hq hE
  obtain ⟨A0, c0, rfl, -, -⟩ := id h
  unfold shV at *
  have x0 := Blk1.new_ w 54 (.slice A0 rs.length c0)
  have b1 := (Below.refl w.heap.size w).alloc (Nat.le_refl _) (.cells #[.slice A0 rs.length c0] 54)
  obtain ⟨w0, hw0⟩ : ∃ x, w.alloc (.cells #[.slice A0 rs.length c0] 54) = x := ⟨_, rfl⟩
  obtain ⟨g0, hg0⟩ : ∃ g, w.heap.size = g := ⟨_, rfl⟩
  rw [hw0] at x0 b1
  rw [hg0] at x0
  have HA : Hid (∀ y, Below w.heap.size w y → Shd y y.heap.size (.agg #[.slice A0 rs.length c0]) rs) := fun y hy => h.on hy hy.size
  obtain ⟨y00, -⟩ := id x0.reads
  go_enter Tryd.func10, Tryd.ntmps10
  go_wp2_with fail
  refine (szShard_any _ rs 1048576 w0 (HA.out _ b1) HW.out (by omega) (by omega)).mono ?_
  rintro e w1 ⟨r, rfl, hr, d⟩
  replace b1 := b1.trans (d.mono b1.size)
  replace x0 := x0.later d
  clear y00 d
  obtain ⟨y00, -⟩ := id x0.reads
  rcases hr with rfl | ⟨r0, hr⟩
  · go_wp2
    go_ret
    exact .mk_ b1
  · have hsz : allSzR rs ≤ 1048576 := by omega
    have HF := hid (allSzR_fit hsz (Nat.le_refl _))
    clear hr hsz
    obtain ⟨z, hz⟩ := ask_ex rs t
    have CI : Hid (∀ x v, Below w.heap.size w x → Shd x x.heap.size v rs → Calls Tryd.prog 25 #[v, .int .i64 t] x (Ret (.int .i64 z) x)) := fun x v hx hv => implShardAsk_is er0 er1 z v rs t x hv (HEx.out x hx) HF.out hz
    have CS : Hid (∀ x v, Shd x x.heap.size v rs → Calls Tryd.prog 33 #[v, .int .i64 t] x (Ret (.int .i64 z) x)) := fun x v hv => specShardAsk_is z v rs t x hv HF.out hz
    clear hz
    go_wp2_with fail
    refine (toShard_any _ rs w1 (HA.out _ b1) HF.out).mono ?_
    rintro e w2 ⟨v2, rfl, o2, d⟩
    have p2 := o2.shd
    obtain ⟨A2, c2, rfl, -, -⟩ := id p2
    unfold shV at *
    replace b1 := b1.trans ((d).mono b1.size)
    replace x0 := x0.later d
    clear y00
    obtain ⟨y00, -⟩ := id x0.reads
    clear o2 d
    go_wp2_with fail
    refine (CS.out _ _ p2).mono ?_
    rintro e w3 ⟨rfl, d⟩
    replace b1 := b1.trans ((d).mono b1.size)
    replace x0 := x0.later d
    clear y00
    obtain ⟨y00, -⟩ := id x0.reads
    clear p2 d CS
    go_wp2_with fail
    refine (toShard_any _ rs w3 (HA.out _ b1) HF.out).mono ?_
    rintro e w4 ⟨v4, rfl, o4, d⟩
    have p4 := o4.shd
    obtain ⟨A4, c4, rfl, -, -⟩ := id p4
    unfold shV at *
    replace b1 := b1.trans ((d).mono b1.size)
    replace x0 := x0.later d
    clear y00
    obtain ⟨y00, -⟩ := id x0.reads
    clear o4 d
    obtain ⟨g5, hg⟩ : ∃ g, (w4).heap.size = g := ⟨_, rfl⟩
    have al := (Below.refl (w4).heap.size w4).alloc (Nat.le_refl _) (.cells #[.slice A4 rs.length c4] 25)
    have x5 := Blk1.new_ (w4) 25 (.slice A4 rs.length c4)
    obtain ⟨w5, hw'⟩ : ∃ x, (w4).alloc (.cells #[.slice A4 rs.length c4] 25) = x := ⟨_, rfl⟩
    rw [hw'] at al x5
    rw [hg] at x5
    replace b1 := b1.trans ((al).mono b1.size)
    replace x0 := x0.later al
    clear y00
    obtain ⟨y00, -⟩ := id x0.reads
    replace p4 := p4.on al al.size
    clear al
    obtain ⟨y50, -⟩ := id x5.reads
    go_wp2_with fail
    refine (CI.out _ _ b1 p4).mono ?_
    rintro e w6 ⟨rfl, d⟩
    replace b1 := b1.trans ((d).mono b1.size)
    replace x0 := x0.later d
    clear y00
    obtain ⟨y00, -⟩ := id x0.reads
    replace p4 := p4.on d d.size
    replace x5 := x5.later d
    clear d y50 CI
    go_wp2_with fail
    have b0 := (Below.refl w6.heap.size w6).drew
    have HX : Hid (∀ y, Below w6.heap.size w6 y → y.cell? ⟨g0, 0, none⟩ = some (.slice A0 rs.length c0) ∧ y.cell? ⟨g5, 0, none⟩ = some (.slice A4 rs.length c4)) := fun y hy => ⟨(x0.later hy).reads.1, (x5.later hy).reads.1⟩
    clear y00
    refine wp_region_held_drew (S := fun y => y.cell? ⟨g0, 0, none⟩ = some (.slice A0 rs.length c0) ∧ y.cell? ⟨g5, 0, none⟩ = some (.slice A4 rs.length c4)) (by kernel_rfl) (HX.out _ b0) (fun hHeld => ?_)
    refine wpAnyH_take (i := 0) (oi := _) (v := ?_) rfl (by kernel_rfl) (by kernel_rfl) (by kernel_rfl) (fun _ _ _ h => h) (Or.inl ⟨by rfl, ?_⟩) hHeld ?_
    rotate_left
    · (intro w' hSw; (try dsimp only at hSw); go_simp <;> with_reducible rfl)
    try simp only [Act.put, List.getElem_toArray, List.getElem_cons_succ, List.getElem_cons_zero, List.setIfInBounds_toArray, List.set_cons_zero, List.set_cons_succ]
    refine wpAnyH_take (i := 1) (oi := _) (v := ?_) rfl (by kernel_rfl) (by kernel_rfl) (by kernel_rfl) (fun _ _ _ h => h) (Or.inl ⟨by rfl, ?_⟩) hHeld ?_
    rotate_left
    · (intro w' hSw; (try dsimp only at hSw); go_simp <;> with_reducible rfl)
    try simp only [Act.put, List.getElem_toArray, List.getElem_cons_succ, List.getElem_cons_zero, List.setIfInBounds_toArray, List.set_cons_zero, List.set_cons_succ]
    refine wpAnyH_ready (rs := [2]) (by kernel_rfl) (by simp) (AllReadyH.cons (o := _) rfl (fun K hK => ?_) AllReadyH.nil)
    try simp only [Act.put, List.getElem_toArray, List.getElem_cons_succ, List.getElem_cons_zero, List.setIfInBounds_toArray, List.set_cons_zero, List.set_cons_succ]
    go_simp
    go_at_call 35
    refine (toShard_any _ rs _ (HA.out _ (b1.trans (b0.mono b1.size))) HF.out).mono ?_
    rintro e w7 ⟨v7, rfl, o7, d⟩
    have p7 := o7.shd
    have b7 := b0.trans (d.mono b0.size)
    refine hK.out _ _ (HX.out _ b7) (fun hHeld => ?_)
    clear hK K
    try simp only [Act.put, List.getElem_toArray, List.getElem_cons_succ, List.getElem_cons_zero, List.setIfInBounds_toArray, List.set_cons_zero, List.set_cons_succ]
    refine wpAnyH_ready (rs := [3]) (by kernel_rfl) (by simp) (AllReadyH.cons (o := _) rfl (fun K hK => ?_) AllReadyH.nil)
    try simp only [Act.put, List.getElem_toArray, List.getElem_cons_succ, List.getElem_cons_zero, List.setIfInBounds_toArray, List.set_cons_zero, List.set_cons_succ]
    go_simp
    go_at_call 37
    refine (eqShard_is _ _ rs _ (p4.on b7 b7.size) p7 HF.out).mono ?_
    rintro e w8 ⟨rfl, d8⟩
    have b8 := b7.trans (d8.mono b7.size)
    refine hK.out _ _ (HX.out _ b8) (fun hHeld => ?_)
    clear hK K
    try simp only [Act.put, List.getElem_toArray, List.getElem_cons_succ, List.getElem_cons_zero, List.setIfInBounds_toArray, List.set_cons_zero, List.set_cons_succ]
    refine wpAnyH_take (i := 4) (oi := _) (v := ?_) rfl (by kernel_rfl) (by kernel_rfl) (by kernel_rfl) (fun _ _ _ h => h) (Or.inl ⟨by rfl, ?_⟩) hHeld ?_
    rotate_left
    · (intro w' hSw; (try dsimp only at hSw); go_simp <;> with_reducible rfl)
    try simp only [Act.put, List.getElem_toArray, List.getElem_cons_succ, List.getElem_cons_zero, List.setIfInBounds_toArray, List.set_cons_zero, List.set_cons_succ]
    refine wpAnyH_done (by kernel_rfl) ?_ _
    replace b1 := b1.trans (b8.mono b1.size)
    go_wp2
    go_ret
    exact .mk_ b1
end Go.Proofs.YteeffchnbkkpfabDoor
