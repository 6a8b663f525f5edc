/- The coordinator with the slices $SA and $SB is stored as the answer, with the word $BB. -/
/-
  Walks: the program's ShardValid, ShardAsk, ShardRecover.
-/
import Derived.Test.YteeffchnbkkpfabDoorLedG
import Derived.Test.YteeffchnbkkpfabDoorRefI
import Derived.Test.YteeffchnbkkpfabDoorG1C
namespace Go.Proofs.YteeffchnbkkpfabDoor
open Go.RowKit Wo Pu Rf Lk Sh

/-- A premise that the walks leave alone. -/
def IfB (b : Bool) (p : Prop) : Prop := b = true → p
set_option maxRecDepth 100000 in
set_option maxHeartbeats 4000000 in
theorem implShardValid_is (er0 er1 : Addr) (b : Bool) (v : Value) (rs : List Rec) (w : World) (h : Shd w w.heap.size v rs) (hE : Errs er0 er1 w) (hf : FitR rs) (hb : b = true ↔ Vld rs) :
    Calls Tryd.prog 36 #[v] w (Ret (.bool b) w) := by
  have CR : Hid (∀ x, Below w.heap.size w x → Calls Tryd.prog 57 #[v] x (ReadO rs b x)) := fun x hx => readShard_is b v rs x er0 er1 (h.on hx hx.size) (hE.below hx) hf hb
  obtain ⟨A, c, rfl, h0, hc⟩ := h
  unfold shV at *
  clear hb hE
  have b0 := (Below.refl w.heap.size w).alloc (Nat.le_refl _) (.cells #[.slice A rs.length c] 25)
  have x0 := Blk1.new_ w 25 (.slice A rs.length c)
  go_enter Tryd.func36, Tryd.ntmps36
  go_upto_region 1 with fail
  obtain ⟨w1, hw1⟩ : ∃ x, w.alloc (.cells #[.slice A rs.length c] 25) = x := ⟨_, rfl⟩
  rw [hw1] at b0 x0 ⊢
  clear hw1
  obtain ⟨y0, -⟩ := id x0.reads
  go_wp2_with fail
  refine (CR.out _ b0).mono ?_
  rintro e w2 ⟨X, rfl, hX, -, d2⟩
  have HX := hid hX
  have hg := heap_alloc_new w2 (.cells led0.toArray 82)
  have b2 := b0.trans (d2.mono b0.size)
  have b3 := below_setRow (g := w2.heap.size) (b2.alloc b2.size (.cells led0.toArray 82)) b2.size X.toArray
  clear d2 hX b0 x0 CR y0 b2
  go_wp2_with (refine wpList_store_rowTo rfl 82 _ _ rfl rfl w2.heap.size X.toArray rfl rfl 82 led0.toArray hg HX.out.info (led0_led.size.trans HX.out.size.symm) HX.out.2 ?_)
  go_ret
  exact .mk_ b3
set_option maxRecDepth 100000 in
set_option maxHeartbeats 4000000 in
theorem implShardAsk_is (er0 er1 : Addr) (z : Int) (v : Value) (rs : List Rec) (t : Int) (w : World) (h : Shd w w.heap.size v rs) (hE : Errs er0 er1 w) (hf : FitR rs) (hz : (Vld rs ∧ TV t ∧ z = Sh.ask rs t) ∨ (¬ (Vld rs ∧ TV t) ∧ z = -1)) :
    Calls Tryd.prog 25 #[v, .int .i64 t] w (Ret (.int .i64 z) w) := by
  obtain ⟨b, hb⟩ := bool_ofP (Vld rs)
  obtain ⟨vt, hvt⟩ := bool_of (TV t)
  have HZ := hid hz
  have HB := hid hb
  have HVT := hid hvt
  have CT : Hid (∀ x, Calls Tryd.prog 61 #[.int .i64 t] x (Same (.bool vt) x)) := fun x => txnValid_is vt t x hvt
  obtain ⟨A, c, rfl, h0, hc⟩ := h
  have CR : Hid (∀ x, Below w.heap.size w x → Calls Tryd.prog 57 #[shV A rs.length c] x (ReadO rs b x)) := fun x hx => readShard_is b _ rs x er0 er1 (Shd.on ⟨A, c, rfl, h0, hc⟩ hx hx.size) (hE.below hx) hf hb
  unfold shV at *
  clear hb hE
  clear hz hvt
  have b0 := (Below.refl w.heap.size w).alloc (Nat.le_refl _) (.cells #[.slice A rs.length c] 25)
  have x0 := Blk1.new_ w 25 (.slice A rs.length c)
  go_enter Tryd.func25, Tryd.ntmps25
  go_upto_region 1 with fail
  obtain ⟨w1, hw1⟩ : ∃ x, w.alloc (.cells #[.slice A rs.length c] 25) = x := ⟨_, rfl⟩
  rw [hw1] at b0 x0 ⊢
  clear hw1
  obtain ⟨y0, -⟩ := id x0.reads
  go_wp2_with fail
  refine (CR.out _ b0).mono ?_
  rintro e w2 ⟨X, rfl, hX, hXX, d2⟩
  have HX := hid hX
  have HXX := hid hXX
  have hg := heap_alloc_new w2 (.cells led0.toArray 82)
  have b2 := b0.trans (d2.mono b0.size)
  have al := (Below.refl w2.heap.size w2).alloc (Nat.le_refl _) (.cells led0.toArray 82)
  have d3 : Below w1.heap.size w1 ((w2.alloc (.cells led0.toArray 82)).setRow w2.heap.size X.toArray) := below_setRow (d2.trans (al.mono d2.size)) d2.size X.toArray
  have z1 : w1.heap.size ≤ w2.heap.size := d2.size
  have HV3 : Hid (IfB b (∃ s, Rcv rs s ∧ LdV ((w2.alloc (.cells led0.toArray 82)).setRow w2.heap.size X.toArray) w1.heap.size X rs s)) := fun e => by
    obtain ⟨s, q1, q2⟩ := HXX.out e
    exact ⟨s, q1, (q2.below d2.size al).but (Nat.le_trans d2.size al.size) (but_setRow _ w2.heap.size X.toArray) d2.size hg (by decide)⟩
  have a3 : Arr4 ((w2.alloc (.cells led0.toArray 82)).setRow w2.heap.size X.toArray) w2.heap.size 82 X := setRow_heap _ _ _ X.toArray _ _ hg
  clear d2 hX hXX HXX CR y0 b2 al
  go_upto_region 2 with (refine wpList_store_rowTo rfl 82 _ _ rfl rfl w2.heap.size X.toArray rfl rfl 82 led0.toArray hg HX.out.info (led0_led.size.trans HX.out.size.symm) HX.out.2 ?_)
  change Code.wp _ _ _ _ ((w2.alloc (.cells led0.toArray 82)).setRow w2.heap.size X.toArray)
  obtain ⟨g, hgg⟩ : ∃ g, w2.heap.size = g := ⟨_, rfl⟩
  obtain ⟨w3, hw3⟩ : ∃ x, (w2.alloc (.cells led0.toArray 82)).setRow w2.heap.size X.toArray = x := ⟨_, rfl⟩
  rw [hw3] at d3 HV3 a3 ⊢
  rw [hgg] at a3 z1 ⊢
  clear hw3 hg hgg
  have b3 := b0.trans (d3.mono b0.size)
  replace x0 := x0.later d3
  cases b with
  | false =>
    have ez : z = -1 := by
      rcases HZ.out with ⟨h3, -⟩ | ⟨-, h3⟩
      · have := HB.out.2 h3; cases this
      · exact h3
    subst ez
    clear CT
    go_wp2
    go_ret
    exact .mk_ b3
  | true =>
    have HVld := hid (HB.out.1 rfl)
    go_wp2_with fail
    refine (CT.out _).mono ?_
    rintro e w4 ⟨rfl, rfl⟩
    cases vt with
    | false =>
      have ez : z = -1 := by
        rcases HZ.out with ⟨-, h3, -⟩ | ⟨-, h3⟩
        · have := HVT.out.2 h3; cases this
        · exact h3
      subst ez
      clear CT
      go_wp2
      go_ret
      exact .mk_ b3
    | true =>
      have tv := HVT.out.1 rfl
      have ez : z = Sh.ask rs t := by
        rcases HZ.out with ⟨-, -, h3⟩ | ⟨h3, -⟩
        · exact h3
        · exact absurd ⟨HVld.out, tv⟩ h3
      obtain ⟨m, rfl⟩ := Int.eq_ofNat_of_zero_le tv.1
      have hm12 : m < 12 := by have := tv.2; omega
      obtain ⟨s, q1, A5, c5, us, hX, h5, -⟩ := HV3.out rfl
      have y5 : w3.cell? ⟨g, 5 + m, none⟩ = some (.int .i64 z) := a3.get_ (by
        rw [hX, ledC_state q1.inv.refs.1 (stL_length rs) hm12]
        have := stL_get (rs := rs) hm12
        rw [List.getElem?_eq_getElem (by rw [stL_length]; exact hm12)] at this
        injection this with this
        rw [this, ez])
      have k0 : (0 : Int) ≤ (m : Int) := by omega
      have k1 : (m : Int) < 12 := by omega
      clear CT ez hX h5 q1 tv
      go_wp2
      go_ret
      exact .mk_ b3
/-- Behind it: a state of the call's own, and whether. -/
def NewStF (s : St) (b : Bool) (w : World) (e : Ending) (w' : World) : Prop :=
  ∃ A c A2 c2, e = .returned (.tuple #[stV A s.refs.length c A2 s.locks.length c2, .bool b]) ∧ OwnI w' w.heap.size (.slice A s.refs.length c) s.refs ∧ OwnI w' w.heap.size (.slice A2 s.locks.length c2) s.locks ∧
    (∀ g, (Value.slice A s.refs.length c).ownBlock = some g → (Value.slice A2 s.locks.length c2).ownBlock ≠ some g) ∧ Below w.heap.size w w'
theorem NewStF.weak {s : St} {b : Bool} {w w' : World} {e : Ending} (h : NewStF s b w e w') : NewStB s b w e w' := by
  obtain ⟨A, c, A2, c2, rfl, h1, h2, -, h4⟩ := h
  obtain ⟨_, _, e1, -, q1⟩ := id h1.form
  obtain ⟨_, _, e2, -, q2⟩ := id h2.form
  injection e1 with _ _ e1
  injection e2 with _ _ e2
  exact ⟨_, rfl, ⟨A, c, A2, c2, rfl, h1.row, by omega, h2.row, by omega⟩, h4⟩
set_option linter.unusedSimpArgs false in
set_option maxRecDepth 100000 in
set_option maxHeartbeats 4000000 in
theorem implShardRecover_F (er0 er1 : Addr) (b : Bool) (s : St) (v : Value) (rs : List Rec) (w : World) (h : Shd w w.heap.size v rs) (hE : Errs er0 er1 w) (hf : FitR rs) (hs : Rcvd rs s b) :
    Calls Tryd.prog 20 #[v] w (NewStF s b w) := by
  have hb := hs.valid
  have HS := hid hs
  obtain ⟨A, c, rfl, h0, hc⟩ := h
  have CR : Hid (∀ x, Below w.heap.size w x → Calls Tryd.prog 57 #[shV A rs.length c] x (ReadO rs b x)) := fun x hx => readShard_is b _ rs x er0 er1 (Shd.on ⟨A, c, rfl, h0, hc⟩ hx hx.size) (hE.below hx) hf hb
  unfold shV at *
  clear hb hE
  clear hs
  have b0 := ((Below.refl w.heap.size w).alloc (Nat.le_refl _) (.cells #[.slice A rs.length c] 25)).alloc (by simp) (.cells #[.slice none 0 0, .slice none 0 0] 37)
  have x0 := (Blk1.new_ w 25 (.slice A rs.length c)).alloc (.cells #[.slice none 0 0, .slice none 0 0] 37)
  have s0 := Blk2s.new_ (w.alloc (.cells #[.slice A rs.length c] 25)) 37 (.slice none 0 0) (.slice none 0 0)
  rw [World.size_alloc] at s0
  go_enter Tryd.func20, Tryd.ntmps20
  go_upto_region 1 with fail
  obtain ⟨w1, hw1⟩ : ∃ x, (w.alloc (.cells #[.slice A rs.length c] 25)).alloc (.cells #[.slice none 0 0, .slice none 0 0] 37) = x := ⟨_, rfl⟩
  rw [hw1] at b0 x0 s0 ⊢
  clear hw1
  obtain ⟨y0, -⟩ := id x0.reads
  have z0 : w.heap.size + 1 < w1.heap.size := s0.lt
  go_wp2_with fail
  refine (CR.out _ b0).mono ?_
  rintro e w2 ⟨X, rfl, hX, hXX, d2⟩
  have HX := hid hX
  have HXX := hid hXX
  have hg := heap_alloc_new w2 (.cells led0.toArray 82)
  have b2 := b0.trans (d2.mono b0.size)
  have al := (Below.refl w2.heap.size w2).alloc (Nat.le_refl _) (.cells led0.toArray 82)
  have d3 : Below w1.heap.size w1 ((w2.alloc (.cells led0.toArray 82)).setRow w2.heap.size X.toArray) := below_setRow (d2.trans (al.mono d2.size)) d2.size X.toArray
  have z1 : w1.heap.size ≤ w2.heap.size := d2.size
  have HV3 : Hid (IfB b (∃ s, Rcv rs s ∧ LdV ((w2.alloc (.cells led0.toArray 82)).setRow w2.heap.size X.toArray) w1.heap.size X rs s)) := fun e => by
    obtain ⟨s, q1, q2⟩ := HXX.out e
    exact ⟨s, q1, (q2.below d2.size al).but (Nat.le_trans d2.size al.size) (but_setRow _ w2.heap.size X.toArray) d2.size hg (by decide)⟩
  have a3 : Arr4 ((w2.alloc (.cells led0.toArray 82)).setRow w2.heap.size X.toArray) w2.heap.size 82 X := setRow_heap _ _ _ X.toArray _ _ hg
  clear d2 hX hXX HXX CR y0 b2 al
  go_upto_region 2 with (refine wpList_store_rowTo rfl 82 _ _ rfl rfl w2.heap.size X.toArray rfl rfl 82 led0.toArray hg HX.out.info (led0_led.size.trans HX.out.size.symm) HX.out.2 ?_)
  change Code.wp _ _ _ _ ((w2.alloc (.cells led0.toArray 82)).setRow w2.heap.size X.toArray)
  obtain ⟨g, hgg⟩ : ∃ g, w2.heap.size = g := ⟨_, rfl⟩
  obtain ⟨w3, hw3⟩ : ∃ x, (w2.alloc (.cells led0.toArray 82)).setRow w2.heap.size X.toArray = x := ⟨_, rfl⟩
  rw [hw3] at d3 HV3 a3 ⊢
  rw [hgg] at a3 z1 ⊢
  clear hw3 hg hgg
  have b3 := b0.trans (d3.mono b0.size)
  replace x0 := x0.later d3
  replace s0 := s0.later d3
  obtain ⟨t0, t1, tf⟩ := id s0.reads
  have tf0 := tf 0
  have tf1 := tf 1
  clear tf
  cases b with
  | false =>
    have hs : s = ⟨[], []⟩ := by
      rcases HS.out with ⟨h3, -⟩ | ⟨-, -, h3⟩
      · cases h3
      · exact h3
    subst hs
    obtain ⟨p0, p1, -⟩ := ((s0.set0 (.slice none 0 0)).set1 (.slice none 0 0)).reads
    have b7 := (b3.setCell (p := ⟨w.heap.size + 1, 0, none⟩) (Nat.le_succ _) (.slice none 0 0)).setCell (p := ⟨w.heap.size + 1, 1, none⟩) (Nat.le_succ _) (.slice none 0 0)
    go_wp2
    exact bodyPost_ret (v := .tuple #[.agg #[.slice none 0 0, .slice none 0 0], .bool false]) (by simp [results, Tryd.results20, go_sem, p0, p1]) rfl ⟨none, 0, none, 0, rfl, ⟨rfl, .inl ⟨rfl, rfl⟩⟩, ⟨rfl, .inl ⟨rfl, rfl⟩⟩, (fun g h => by cases h), b7⟩
  | true =>
    obtain ⟨s', q1, A5, c5, us, hX, h5, -, o5, -⟩ := HV3.out rfl
    have es : s' = s := by
      rcases HS.out with ⟨-, h3, -⟩ | ⟨h3, -⟩
      · exact q1.one h3
      · cases h3
    subst es
    have H4 := hid q1.inv.refs.1
    have hr4 : Row w3 w3.heap.size (some ⟨g, 0, none⟩) (ints s'.refs) := .inr ⟨_, rfl, a3.lt, fun j v hj => by
      rw [add_lit]
      exact a3.get_ (by rw [hX]; exact ledC_range hj)⟩
    have y4 : w3.cell? ⟨g, 4, none⟩ = some (.slice A5 s'.locks.length c5) := a3.get_ (by rw [hX]; exact ledC_locks q1.inv.refs.1)
    have HY4 : Hid (X[4]? = some (.slice A5 s'.locks.length c5)) := by show _ = _; rw [hX]; exact ledC_locks q1.inv.refs.1
    have CN : Hid (∀ x, Below w3.heap.size w3 x → Calls Tryd.prog 56 #[.slice (some ⟨g, 0, none⟩) 4 4] x (IntsOf s'.refs x)) := fun x hx => copyNumbers_of _ 4 4 s'.refs x (row_on hr4 hx) H4.out (by omega)
    clear hX h5 q1
    go_upto_region 4 with fail
    refine wp_region_held_drew (S := fun y => y.cell? ⟨g, 4, none⟩ = some (.slice A5 s'.locks.length c5)) (by kernel_rfl) y4 (fun hHeld => ?_)
    try simp only [Act.put, List.getElem_toArray, List.getElem_cons_succ, List.getElem_cons_zero, List.setIfInBounds_toArray, List.set_cons_zero, List.set_cons_succ]
    refine wpAnyH_take (i := 0) (oi := _) (v := ?_) rfl (by kernel_rfl) (by kernel_rfl) (by kernel_rfl) (fun _ _ _ h => h) (Or.inl ⟨by rfl, ?_⟩) hHeld ?_
    rotate_left
    · (intro w' hSw; (try dsimp only at hSw); go_simp <;> with_reducible rfl)
    try simp only [Act.put, List.getElem_toArray, List.getElem_cons_succ, List.getElem_cons_zero, List.setIfInBounds_toArray, List.set_cons_zero, List.set_cons_succ]
    refine wpAnyH_take (i := 1) (oi := _) (v := ?_) rfl (by kernel_rfl) (by kernel_rfl) (by kernel_rfl) (fun _ _ _ h => h) (Or.inl ⟨by rfl, ?_⟩) hHeld ?_
    rotate_left
    · (intro w' hSw; (try dsimp only at hSw); go_simp <;> with_reducible rfl)
    try simp only [Act.put, List.getElem_toArray, List.getElem_cons_succ, List.getElem_cons_zero, List.setIfInBounds_toArray, List.set_cons_zero, List.set_cons_succ]
    refine wpAnyH_take (i := 3) (oi := _) (v := ?_) rfl (by kernel_rfl) (by kernel_rfl) (by kernel_rfl) (fun _ _ _ h => h) (Or.inl ⟨by rfl, ?_⟩) hHeld ?_
    rotate_left
    · (intro w' hSw; (try dsimp only at hSw); go_simp <;> with_reducible rfl)
    try simp only [Act.put, List.getElem_toArray, List.getElem_cons_succ, List.getElem_cons_zero, List.setIfInBounds_toArray, List.set_cons_zero, List.set_cons_succ]
    refine wpAnyH_take (i := 4) (oi := _) (v := ?_) rfl (by kernel_rfl) (by kernel_rfl) (by kernel_rfl) (fun _ _ _ h => h) (Or.inl ⟨by rfl, ?_⟩) hHeld ?_
    rotate_left
    · (intro w' hSw; (try dsimp only at hSw); go_simp <;> with_reducible rfl)
    try simp only [Act.put, List.getElem_toArray, List.getElem_cons_succ, List.getElem_cons_zero, List.setIfInBounds_toArray, List.set_cons_zero, List.set_cons_succ]
    refine wpAnyH_ready (rs := [2]) (by kernel_rfl) (by simp) (AllReadyH.cons (o := _) rfl (fun K hK => ?_) AllReadyH.nil)
    try simp only [Act.put, List.getElem_toArray, List.getElem_cons_succ, List.getElem_cons_zero, List.setIfInBounds_toArray, List.set_cons_zero, List.set_cons_succ]
    go_simp
    go_at_call 56
    refine (CN.out _ (Wo.Below.drewN (Below.refl _ _) 1)).mono ?_
    rintro e w4 ⟨A4, c4, rfl, o4, d4⟩
    have b4d := Wo.Below.drewN b3 1
    have b4 := b4d.trans (d4.mono b4d.size)
    have s0d : Blk2s (w3.drewN 1) (w.heap.size + 1) 37 (.slice none 0 0) (.slice none 0 0) := s0
    have a3d : Arr4 (w3.drewN 1) g 82 X := a3
    have o5d : OwnI (w3.drewN 1) w1.heap.size (.slice A5 s'.locks.length c5) s'.locks := o5
    have s4 := s0d.later d4
    have a4 := a3d.below d4 a3d.lt
    have o5' := (o5d.below d4 (Nat.le_refl _)).base (B' := w.heap.size) b0.size
    have o4' := o4.base (B' := w.heap.size) b4d.size
    have hap : ∀ q, (Value.slice A4 s'.refs.length c4).ownBlock = some q → (Value.slice A5 s'.locks.length c5).ownBlock ≠ some q := fun q h1 h2 => by
      have e1 := (World.ownsRow.lt o4 q h1).1
      have e2 := (World.ownsRow.lt o5d q h2).2
      omega
    have HAP := hid hap
    have hgw : Hid (g ≠ w.heap.size + 1) := by show g ≠ _; omega
    clear t0 t1 tf0 tf1 hap
    have y4' : w4.cell? ⟨g, 4, none⟩ = some (.slice A5 s'.locks.length c5) := a4.get_ HY4.out
    obtain ⟨t0, t1, tf⟩ := id s4.reads
    have tf0 := tf 0
    have tf1 := tf 1
    clear tf
    refine hK.out _ _ y4' (fun hHeld => ?_)
    clear hK K
    try simp only [Act.put, List.getElem_toArray, List.getElem_cons_succ, List.getElem_cons_zero, List.setIfInBounds_toArray, List.set_cons_zero, List.set_cons_succ]
    refine wpAnyH_take (i := 5) (oi := _) (v := ?_) rfl (by kernel_rfl) (by kernel_rfl) (by kernel_rfl) (fun _ _ _ h => h) (Or.inl ⟨by rfl, ?_⟩) hHeld ?_
    rotate_left
    · (intro w' hSw; (try dsimp only at hSw); go_simp <;> with_reducible rfl)
    try simp only [Act.put, List.getElem_toArray, List.getElem_cons_succ, List.getElem_cons_zero, List.setIfInBounds_toArray, List.set_cons_zero, List.set_cons_succ]
    refine wpAnyH_ready (rs := [6]) (by kernel_rfl) (by simp) (AllReadyH.cons (o := _) rfl (fun K hK => ?_) AllReadyH.nil)
    try simp only [Act.put, List.getElem_toArray, List.getElem_cons_succ, List.getElem_cons_zero, List.setIfInBounds_toArray, List.set_cons_zero, List.set_cons_succ]
    go_simp
    have y9 := ((a4.far (p := ⟨w.heap.size + 1, 0, none⟩) hgw.out (.slice A4 s'.refs.length c4)).far (p := ⟨w.heap.size + 1, 1, none⟩) hgw.out (.slice A5 s'.locks.length c5)).get_ HY4.out
    refine hK.out _ _ y9 (fun hHeld => ?_)
    clear hK K
    try simp only [Act.put, List.getElem_toArray, List.getElem_cons_succ, List.getElem_cons_zero, List.setIfInBounds_toArray, List.set_cons_zero, List.set_cons_succ]
    refine wpAnyH_take (i := 7) (oi := _) (v := ?_) rfl (by kernel_rfl) (by kernel_rfl) (by kernel_rfl) (fun _ _ _ h => h) (Or.inl ⟨by rfl, ?_⟩) hHeld ?_
    rotate_left
    · (intro w' hSw; (try dsimp only at hSw); go_simp <;> with_reducible rfl)
    try simp only [Act.put, List.getElem_toArray, List.getElem_cons_succ, List.getElem_cons_zero, List.setIfInBounds_toArray, List.set_cons_zero, List.set_cons_succ]
    refine wpAnyH_done (by kernel_rfl) ?_ _
    have o4'' := (o4'.keptT (by decide) (but_set w4 (w.heap.size + 1) 0 (.slice A4 s'.refs.length c4)) (blk_type s4)).keptT (by decide) (but_set _ (w.heap.size + 1) 1 (.slice A5 s'.locks.length c5)) (blk_type (s4.set0 _))
    have o5'' := (o5'.keptT (by decide) (but_set w4 (w.heap.size + 1) 0 (.slice A4 s'.refs.length c4)) (blk_type s4)).keptT (by decide) (but_set _ (w.heap.size + 1) 1 (.slice A5 s'.locks.length c5)) (blk_type (s4.set0 _))
    obtain ⟨p0, p1, -⟩ := ((s4.set0 (.slice A4 s'.refs.length c4)).set1 (.slice A5 s'.locks.length c5)).reads
    have b7 := (b4.setCell (p := ⟨w.heap.size + 1, 0, none⟩) (Nat.le_succ _) (.slice A4 s'.refs.length c4)).setCell (p := ⟨w.heap.size + 1, 1, none⟩) (Nat.le_succ _) (.slice A5 s'.locks.length c5)
    clear hHeld y9 y4' t0 t1 tf0 tf1 a4 a3d s4 s0d
    go_wp2
    exact bodyPost_ret (v := .tuple #[.agg #[.slice A4 s'.refs.length c4, .slice A5 s'.locks.length c5], .bool true]) (by simp [results, Tryd.results20, go_sem, p0, p1]) rfl ⟨A4, c4, A5, c5, rfl, o4'', o5'', HAP.out, b7⟩
theorem implShardRecover_is (er0 er1 : Addr) (b : Bool) (s : St) (v : Value) (rs : List Rec) (w : World) (h : Shd w w.heap.size v rs) (hE : Errs er0 er1 w) (hf : FitR rs) (hs : Rcvd rs s b) :
    Calls Tryd.prog 20 #[v] w (NewStB s b w) := (implShardRecover_F er0 er1 b s v rs w h hE hf hs).mono fun _ _ h => h.weak
end Go.Proofs.YteeffchnbkkpfabDoor
