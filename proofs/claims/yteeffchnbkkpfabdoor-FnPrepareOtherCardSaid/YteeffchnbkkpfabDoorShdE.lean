/- The coordinator with the slices $SA and $SB is stored as the answer, with the word $BB. -/
/-
  Walks: which shards are valid, their states, and what they say of a transaction, by the model.
-/
import Derived.Test.YteeffchnbkkpfabDoorShdD
namespace Go.Proofs.YteeffchnbkkpfabDoor
open Go.RowKit Wo Pu Rf Lk Sh

theorem RecTo.valid {rs : List Rec} {st : St} {b : Bool} (h : RecTo rs st b) : b = true ↔ Vld rs := by
  obtain ⟨-, h2, h3⟩ := h
  cases b with
  | true => exact ⟨fun _ => ⟨⟨_, (h2 rfl).1⟩, (h2 rfl).2⟩, fun _ => rfl⟩
  | false => exact ⟨fun e => (by cases e), fun e => absurd e (h3 rfl)⟩
theorem bool_ofP (p : Prop) : ∃ b : Bool, b = true ↔ p := by
  by_cases h : p
  · exact ⟨true, fun _ => h, fun _ => rfl⟩
  · exact ⟨false, fun e => (by cases e), fun e => absurd e h⟩
/-- The state of a valid shard, or none. -/
def Rcvd (rs : List Rec) (s : St) (b : Bool) : Prop := (b = true ∧ Rcv rs s ∧ rs.length ≤ 30) ∨ (b = false ∧ ¬ Vld rs ∧ s = ⟨[], []⟩)
theorem rcvd_ex (rs : List Rec) : ∃ s b, Rcvd rs s b := by
  by_cases h : Vld rs
  · obtain ⟨⟨s, hs⟩, hl⟩ := h
    exact ⟨s, true, .inl ⟨rfl, hs, hl⟩⟩
  · exact ⟨_, false, .inr ⟨rfl, h, rfl⟩⟩
theorem Rcvd.valid {rs : List Rec} {s : St} {b : Bool} (h : Rcvd rs s b) : b = true ↔ Vld rs := by
  rcases h with ⟨rfl, h1, h2⟩ | ⟨rfl, h1, -⟩
  · exact ⟨fun _ => ⟨⟨_, h1⟩, h2⟩, fun _ => rfl⟩
  · exact ⟨fun e => (by cases e), fun e => absurd e h1⟩
theorem Rcvd.of {rs : List Rec} {s x : St} {b b' : Bool} (h : Rcvd rs s b) (hx : RecTo rs x b') : b' = b ∧ (b = true → s = x) := by
  have e : b' = b := by rw [Bool.eq_iff_iff, hx.valid, h.valid]
  refine ⟨e, fun e2 => ?_⟩
  subst e
  rcases h with ⟨-, h1, -⟩ | ⟨h1, -⟩
  · exact h1.one (hx.2.1 e2).1
  · rw [h1] at e2; cases e2
set_option linter.unusedSimpArgs false in
set_option maxRecDepth 100000 in
set_option maxHeartbeats 4000000 in
theorem specShardValid_is (b : Bool) (v : Value) (rs : List Rec) (w : World) (h : Shd w w.heap.size v rs) (hf : FitR rs) (hb : b = true ↔ Vld rs) :
    Calls Tryd.prog 18 #[v] w (Ret (.bool b) w) := by
  have HB := hid hb
  clear hb
  obtain ⟨A, c, rfl, h0, hc⟩ := h
  unfold shV
  have b0 := (Below.refl w.heap.size w).alloc (Nat.le_refl _) (.cells #[.slice A rs.length c] 25)
  have x0 := Blk1.new_ w 25 (.slice A rs.length c)
  have h1 := h0.on b0
  go_enter Tryd.func18, Tryd.ntmps18
  go_wp2_with fail
  generalize w.alloc (.cells #[.slice A rs.length c] 25) = w1 at *
  refine (l21Recover_any A c rs w1 h1 hc hf).mono ?_
  rintro e w2 ⟨st, b', HR, v2, rfl, s2, d2⟩
  have eb : b' = b := by rw [Bool.eq_iff_iff, HR.valid, HB.out]
  subst eb
  obtain ⟨A1, c1, A2, c2, rfl, -⟩ := s2
  unfold stV
  have b2 := b0.trans (d2.mono b0.size)
  have b3 := b2.alloc b2.size (.cells #[.slice A1 st.refs.length c1, .slice A2 st.locks.length c2] 37)
  go_wp2
  go_ret
  exact ⟨rfl, b3⟩
set_option linter.unusedSimpArgs false in
set_option maxRecDepth 100000 in
set_option maxHeartbeats 4000000 in
theorem specShardAsk_is (z : Int) (v : Value) (rs : List Rec) (t : Int) (w : World) (h : Shd w w.heap.size v rs) (hf : FitR rs) (hz : (Vld rs ∧ TV t ∧ z = Sh.ask rs t) ∨ (¬ (Vld rs ∧ TV t) ∧ z = -1)) :
    Calls Tryd.prog 33 #[v, .int .i64 t] w (Ret (.int .i64 z) w) := by
  have HZ := hid hz
  clear hz
  obtain ⟨vs, hvs⟩ := bool_ofP (Vld rs)
  obtain ⟨vt, hvt⟩ := bool_of (TV t)
  have CV := hid (specShardValid_is vs v rs · · hf hvs)
  obtain ⟨A, c, rfl, h0, hc⟩ := h
  have CT : Hid (∀ x, Calls Tryd.prog 64 #[.int .i64 t] x (Same (.bool vt) x)) := fun x => l12Txn_is vt t x hvt
  unfold shV at *
  have b0 := (Below.refl w.heap.size w).alloc (Nat.le_refl _) (.cells #[.slice A rs.length c] 25)
  have x0 := Blk1.new_ w 25 (.slice A rs.length c)
  have h1 := h0.on b0
  go_enter Tryd.func33, Tryd.ntmps33
  go_wp2_with fail
  generalize w.alloc (.cells #[.slice A rs.length c] 25) = w1 at *
  obtain ⟨y0, -⟩ := id x0.reads
  go_wp2_with fail
  refine (CV.out w1 ⟨A, c, rfl, h1, hc⟩).mono ?_
  rintro e w2 ⟨rfl, d2⟩
  have b2 := b0.trans (d2.mono b0.size)
  have h2 := h0.on b2
  have x2 := x0.later d2
  clear b0 x0 h1 y0 d2 CV
  obtain ⟨y0, -⟩ := id x2.reads
  cases vs with
  | false =>
    have ez : z = -1 := by
      rcases HZ.out with ⟨h3, -⟩ | ⟨-, h3⟩
      · have := hvs.2 h3; cases this
      · exact h3
    subst ez
    clear hvs hvt CT
    go_wp2
    go_ret
    exact ⟨rfl, b2⟩
  | true =>
    have HV := hid (hvs.1 rfl)
    clear hvs
    go_wp2_with fail
    refine (CT.out _).mono ?_
    rintro e w3 ⟨rfl, rfl⟩
    cases vt with
    | false =>
      have ez : z = -1 := by
        rcases HZ.out with ⟨-, h3, -⟩ | ⟨-, h3⟩
        · have := hvt.2 h3; cases this
        · exact h3
      subst ez
      clear hvt CT
      go_wp2
      go_ret
      exact ⟨rfl, b2⟩
    | true =>
      have ez : Sh.ask rs t = z := by
        rcases HZ.out with ⟨-, -, h3⟩ | ⟨h3, -⟩
        · exact h3.symm
        · exact absurd ⟨HV.out, hvt.1 rfl⟩ h3
      have CA := hid (l21Ask_is z A c rs t w2 w2.heap.size h2 (by have := hf.1; omega) ez)
      clear hvt CT HZ ez
      go_wp2_with fail
      refine CA.out.mono ?_
      rintro e w3 ⟨rfl, rfl⟩
      go_wp2
      go_ret
      exact ⟨rfl, b2⟩
/-- An append as one operation of a region. -/
theorem op_append_row1 {P : Program} (w : World) {o : Oper} {a : Act} {K : Act → World → Prop} {Q : Exit → Act → World → Prop} (hgd : o.guard = none) (s x : Operand) (t : TypeId)
    (ho : o.op = .call { callee := .builtin .append, args := #[s, x], argTypes := #[t, t] })
    (base : Nat) (e : TypeId) (i : TypeInfo) (z : Value) (size bytes : Nat) (ht : P.underlying t = some (.slice e)) (hi : P.info? e = some i) (hz : i.zero = some z)
    (hsize : i.size = size) (hby : i.bytes = bytes) (hzs : z.cells.size = size) (hsz : 0 < size)
    (v : Value) (n : Nat) (xs : List Value) (hs : a.eval s = v) (hown : w.ownsRow base e size v n xs)
    (B : Nat) (A : Option Addr) (m c : Nat) (news : List Value) (hx : a.eval x = .slice A m c) (hr : Row w B A news) (hl : news.length = m * size) (h1 : ∀ u ∈ news, u.oneCell' = true)
    (h63 : n + m ≤ maxLen) (hbytes : (n + m) * bytes ≤ 140737488355328) (hbase : base ≤ w.heap.size)
    (h : ∀ v' w', w'.ownsRow base e size v' (n + m) (xs ++ news) → w.grownBy w' v.ownBlock → K (a.put o.dst v') w') : Oper.wp P o a w K Q := by
  have hw : Region.wanted o (yielded #[] a.tmps) = true := by simp [Region.wanted, hgd]
  have := step_append_row (ops := #[]) (E := False) (Q := Q) w hgd s x t ho base e i z size bytes ht hi hz hsize hby hzs hsz v n xs hs hown B A m c news hx hr hl h1 h63 hbytes hbase h
  rwa [if_pos hw] at this
/-- A row of numbers is not touched where an empty block grows. -/
theorem row_far_nil {w w' : World} {g : Nat} {T : TypeId} {fr : Nat × Nat} {A : Option Addr} {zs : List Int} (h : Row w w.heap.size A (ints zs)) (hn : w.heap[g]? = some (.cells #[] T fr)) (hg : w.grownBy w' (some g)) : Row w' w'.heap.size A (ints zs) := by
  rcases h with h | ⟨ad, e, hb, hc⟩
  · exact .inl h
  · cases zs with
    | nil => exact .inl rfl
    | cons z zs =>
      have hne : ad.block ≠ g := fun e2 => by
        have h0 := hc 0 (.int .i64 z) rfl
        rw [add_zero] at h0
        unfold World.cell? at h0
        rw [e2, hn] at h0
        simp only at h0
        split at h0
        · cases h0
        · simp at h0
      refine .inr ⟨ad, e, Nat.lt_of_lt_of_le hb hg.size, fun j v hj => ?_⟩
      rw [← hc j v hj]
      exact World.cell?_of_block (by rw [add_block]; exact hg.block ad.block hb fun e2 => hne (by injection e2))
/- An empty slice is made. -/
/- The row at PA is appended to the empty slice of PX's block PG. -/
/- The state is stored as the answer. -/
/- The second append, where the first row lies in wc and the empty slice is of block PG. -/
/- Both empty slices lie in wb: those of the refs in block PG, those of the locks in PH. -/
set_option linter.unusedSimpArgs false in
set_option maxRecDepth 100000 in
set_option maxHeartbeats 4000000 in
theorem specShardRecover_is (b : Bool) (s : St) (v : Value) (rs : List Rec) (w : World) (h : Shd w w.heap.size v rs) (hf : FitR rs) (hs : Rcvd rs s b) :
    Calls Tryd.prog 30 #[v] w (NewStB s b w) := by
  obtain ⟨i0, hi, hz0, hz1, hz2⟩ := info_of info_int
  have HS := hid hs
  clear hs
  obtain ⟨A, c, rfl, h0, hc⟩ := h
  unfold shV
  have b0 := ((Below.refl w.heap.size w).alloc (Nat.le_refl _) (.cells #[.slice A rs.length c] 25)).alloc (by simp) (.cells #[.slice none 0 0, .slice none 0 0] 37)
  have x0 := (Blk1.new_ w 25 (.slice A rs.length c)).alloc (.cells #[.slice none 0 0, .slice none 0 0] 37)
  have x1 := Blk2s.new_ (w.alloc (.cells #[.slice A rs.length c] 25)) 37 (.slice none 0 0) (.slice none 0 0)
  rw [World.size_alloc] at x1
  have h1 := h0.on b0
  go_enter Tryd.func30, Tryd.ntmps30
  go_wp2_with fail
  generalize (w.alloc (.cells #[.slice A rs.length c] 25)).alloc (.cells #[.slice none 0 0, .slice none 0 0] 37) = w1 at *
  obtain ⟨y0, -⟩ := id x0.reads
  go_wp2_with fail
  refine (l21Recover_any A c rs w1 h1 hc hf).mono ?_
  rintro e w2 ⟨st, b', HR, v2, rfl, s2, d2⟩
  obtain ⟨rfl, HE⟩ := HS.out.of HR
  obtain ⟨A1, c1, A2, c2, rfl, r1, hc1, r2, hc2⟩ := s2
  unfold stV
  have b2 := b0.trans (d2.mono b0.size)
  have al := (Below.refl w2.heap.size w2).alloc (Nat.le_refl _) (.cells #[.slice A1 st.refs.length c1, .slice A2 st.locks.length c2] 37)
  have x2 := (x1.later d2).alloc (.cells #[.slice A1 st.refs.length c1, .slice A2 st.locks.length c2] 37)
  have x3 := Blk2s.new_ w2 37 (.slice A1 st.refs.length c1) (.slice A2 st.locks.length c2)
  have b3 := b2.trans (al.mono b2.size)
  have r1' := (r1.below al (Nat.le_refl _)).more al.size
  have r2' := (r2.below al (Nat.le_refl _)).more al.size
  obtain ⟨t0, t1, tf⟩ := id x2.reads
  obtain ⟨u0, u1, -⟩ := id x3.reads
  have tf0 := tf 0
  have tf1 := tf 1
  have hw : Hid (w.heap.size + 1 ≠ w2.heap.size) := by have := x1.lt; have := d2.size; show _ ≠ _; omega
  clear tf
  cases b' with
  | false =>
    have hs : s = ⟨[], []⟩ := by
      rcases HS.out with ⟨h3, -⟩ | ⟨-, -, h3⟩
      · cases h3
      · exact h3
    subst hs
    obtain ⟨p0, p1, -⟩ := ((x2.set0 (.slice none 0 0)).set1 (.slice none 0 0)).reads
    have b7 := (b3.setCell (p := ⟨w.heap.size + 1, 0, none⟩) (Nat.le_succ _) (.slice none 0 0)).setCell (p := ⟨w.heap.size + 1, 1, none⟩) (Nat.le_succ _) (.slice none 0 0)
    clear HE HR HS x0 x1 x2 x3 r1 r2 r1' r2' h1 y0
    go_wp2
    exact bodyPost_ret (v := .tuple #[.agg #[.slice none 0 0, .slice none 0 0], .bool false]) (by simp [results, Tryd.results30, go_sem, p0, p1]) rfl ⟨_, rfl, ⟨none, 0, none, 0, rfl, .inl rfl, Nat.le_refl _, .inl rfl, Nat.le_refl _⟩, b7⟩
  | true =>
    obtain rfl := HE rfl
    have F := hid HR.1
    clear HE HR HS
    clear t0 t1 tf0 tf1 u0 u1
    go_wp2_with fail
    obtain ⟨w3, hw3⟩ : ∃ w3, w2.alloc (.cells #[.slice A1 s.refs.length c1, .slice A2 s.locks.length c2] 37) = w3 := ⟨_, rfl⟩
    rw [hw3] at al x2 x3 b3 r1' r2' ⊢
    clear al hw3 d2 b2 r1 r2 x0 x1 y0 b0 h1
    have HKP : Hid (∀ x, Below w3.heap.size w3 x → x.cell? ⟨w2.heap.size, 0, none⟩ = some (.slice A1 s.refs.length c1) ∧ x.cell? ⟨w2.heap.size, 1, none⟩ = some (.slice A2 s.locks.length c2)) := fun x hx => ⟨(x3.later hx).reads.1, (x3.later hx).reads.2.1⟩
    have HRow : Hid ((∀ x, Below w3.heap.size w3 x → Row x w3.heap.size A1 (ints s.refs)) ∧ ∀ x, Below w3.heap.size w3 x → Row x w3.heap.size A2 (ints s.locks)) := ⟨fun x hx => r1'.below hx (Nat.le_refl _), fun x hx => r2'.below hx (Nat.le_refl _)⟩
    have HL1 := F.out.len.1
    have HL2 := F.out.len.2
    have zw3 : w.heap.size ≤ w3.heap.size := b3.size
    have Dwd := (Below.refl w3.heap.size w3).drew
    clear r1' r2'
    refine wp_region_held_drew (S := fun x => x.cell? ⟨w2.heap.size, 0, none⟩ = some (.slice A1 s.refs.length c1) ∧ x.cell? ⟨w2.heap.size, 1, none⟩ = some (.slice A2 s.locks.length c2)) (by kernel_rfl) (HKP.out _ Dwd) (fun hHeld => ?_)
    obtain ⟨wd, hwd⟩ : ∃ wd, w3.drew = wd := ⟨_, rfl⟩
    rw [hwd] at hHeld Dwd ⊢
    clear hwd
    refine wpAnyH_take (i := 1) (oi := _) (v := ?_) rfl (by kernel_rfl) (by kernel_rfl) (by kernel_rfl) (fun _ _ _ h => h) (Or.inl ⟨by rfl, ?_⟩) hHeld ?_
    rotate_left
    · (intro w' hSw; (try dsimp only at hSw); go_simp <;> with_reducible rfl)
    try simp only [Act.put, List.getElem_toArray, List.getElem_cons_succ, List.getElem_cons_zero, List.setIfInBounds_toArray, List.set_cons_zero, List.set_cons_succ]
    refine wpAnyH_take (i := 2) (oi := _) (v := ?_) rfl (by kernel_rfl) (by kernel_rfl) (by kernel_rfl) (fun _ _ _ h => h) (Or.inl ⟨by rfl, ?_⟩) hHeld ?_
    rotate_left
    · (intro w' hSw; (try dsimp only at hSw); go_simp <;> with_reducible rfl)
    try simp only [Act.put, List.getElem_toArray, List.getElem_cons_succ, List.getElem_cons_zero, List.setIfInBounds_toArray, List.set_cons_zero, List.set_cons_succ]
    refine wpAnyH_take (i := 5) (oi := _) (v := ?_) rfl (by kernel_rfl) (by kernel_rfl) (by kernel_rfl) (fun _ _ _ h => h) (Or.inl ⟨by rfl, ?_⟩) hHeld ?_
    rotate_left
    · (intro w' hSw; (try dsimp only at hSw); go_simp <;> with_reducible rfl)
    try simp only [Act.put, List.getElem_toArray, List.getElem_cons_succ, List.getElem_cons_zero, List.setIfInBounds_toArray, List.set_cons_zero, List.set_cons_succ]
    refine wpAnyH_take (i := 6) (oi := _) (v := ?_) rfl (by kernel_rfl) (by kernel_rfl) (by kernel_rfl) (fun _ _ _ h => h) (Or.inl ⟨by rfl, ?_⟩) hHeld ?_
    rotate_left
    · (intro w' hSw; (try dsimp only at hSw); go_simp <;> with_reducible rfl)
    try simp only [Act.put, List.getElem_toArray, List.getElem_cons_succ, List.getElem_cons_zero, List.setIfInBounds_toArray, List.set_cons_zero, List.set_cons_succ]
    refine wpAnyH_ready (rs := [0, 4]) (by kernel_rfl) (by simp) (AllReadyH.cons (o := _) rfl (fun K hK => ?_) (AllReadyH.cons (o := _) rfl (fun K hK => ?_) AllReadyH.nil))
    · skip
      try simp only [Act.put, List.getElem_toArray, List.getElem_cons_succ, List.getElem_cons_zero, List.setIfInBounds_toArray, List.set_cons_zero, List.set_cons_succ]
      go_simp
      have al9 := (Below.refl wd.heap.size wd).alloc (Nat.le_refl _) (.cells #[] 3)
      have D9 := Dwd.trans (al9.mono Dwd.size)
      have oa : OwnI _ w.heap.size (.slice (some ⟨wd.heap.size, 0, none⟩) 0 0) [] := OwnI.nil_new (w := wd) (Nat.le_trans zw3 Dwd.size)
      have na := heap_alloc_new wd (.cells #[] 3)
      obtain ⟨wa, hY⟩ : ∃ y, wd.alloc (.cells #[] 3) = y := ⟨_, rfl⟩
      have zwa : (wd.alloc (.cells #[] 3)).heap.size = wd.heap.size + 1 := World.size_alloc _ _
      rw [hY] at al9 D9 oa na zwa ⊢
      replace zwa := hid zwa
      have Dwa := D9
      refine hK.out _ _ (HKP.out _ D9) (fun hHeld => ?_)
      clear hK K
      try simp only [Act.put, List.getElem_toArray, List.getElem_cons_succ, List.getElem_cons_zero, List.setIfInBounds_toArray, List.set_cons_zero, List.set_cons_succ]
      clear hY D9
      refine wpAnyH_ready (rs := [3, 4]) (by kernel_rfl) (by simp) (AllReadyH.cons (o := _) rfl (fun K hK => ?_) (AllReadyH.cons (o := _) rfl (fun K hK => ?_) AllReadyH.nil))
      · skip
        try simp only [Act.put, List.getElem_toArray, List.getElem_cons_succ, List.getElem_cons_zero, List.setIfInBounds_toArray, List.set_cons_zero, List.set_cons_succ]
        rw [if_pos (by rfl)]
        refine op_append_row1 _ (by rfl) _ _ 27 (by rfl) w.heap.size 3 i0 (.int .i64 0) 1 8 Tryd.underlying27 hi hz0 hz1 hz2 rfl (by decide) (.slice (some ⟨wd.heap.size, 0, none⟩) 0 0) 0 [] (by rfl) oa w3.heap.size A1 _ c1 (ints s.refs) (by rfl) (HRow.out.1 _ Dwa) (by rw [ints_length]; omega) (by intro u hu; obtain ⟨x, _, rfl⟩ := List.mem_map.1 hu; rfl) (by unfold maxLen; omega) (by omega) (Nat.le_trans zw3 Dwa.size) ?_
        intro v9 wb hown hg
        have Dwb := Dwa.grown hg Dwa.size (fun j hj => by have hj : wd.heap.size = j := (by simpa [Value.ownBlock] using hj); have := Dwd.size; omega)
        have o9 : OwnI wb w.heap.size v9 (s.refs) := by
          rw [Nat.zero_add, List.nil_append] at hown
          unfold OwnI
          rw [HL1]
          exact hown
        have zg := hg.size
        obtain ⟨A5, c5, e9, pa, h5⟩ := o9.form
        rw [HL1] at e9
        subst e9
        refine hK.out _ _ (HKP.out _ Dwb) (fun hHeld => ?_)
        clear hK K
        try simp only [Act.put, List.getElem_toArray, List.getElem_cons_succ, List.getElem_cons_zero, List.setIfInBounds_toArray, List.set_cons_zero, List.set_cons_succ]
        clear hown hg o9 al9
        refine wpAnyH_ready (rs := [4]) (by kernel_rfl) (by simp) (AllReadyH.cons (o := _) rfl (fun K hK => ?_) AllReadyH.nil)
        try simp only [Act.put, List.getElem_toArray, List.getElem_cons_succ, List.getElem_cons_zero, List.setIfInBounds_toArray, List.set_cons_zero, List.set_cons_succ]
        go_simp
        have al9 := (Below.refl wb.heap.size wb).alloc (Nat.le_refl _) (.cells #[] 3)
        have D9 := Dwb.trans (al9.mono Dwb.size)
        have ob : OwnI _ w.heap.size (.slice (some ⟨wb.heap.size, 0, none⟩) 0 0) [] := OwnI.nil_new (w := wb) (Nat.le_trans zw3 Dwb.size)
        have nb := heap_alloc_new wb (.cells #[] 3)
        obtain ⟨wc, hY⟩ : ∃ y, wb.alloc (.cells #[] 3) = y := ⟨_, rfl⟩
        have zwc : (wb.alloc (.cells #[] 3)).heap.size = wb.heap.size + 1 := World.size_alloc _ _
        rw [hY] at al9 D9 ob nb zwc ⊢
        replace zwc := hid zwc
        have Dwc := D9
        refine hK.out _ _ (HKP.out _ D9) (fun hHeld => ?_)
        clear hK K
        try simp only [Act.put, List.getElem_toArray, List.getElem_cons_succ, List.getElem_cons_zero, List.setIfInBounds_toArray, List.set_cons_zero, List.set_cons_succ]
        clear hY D9
        replace pa := (pa.below al9 (Nat.le_refl _)).more al9.size
        clear al9
        refine wpAnyH_ready (rs := [7]) (by kernel_rfl) (by simp) (AllReadyH.cons (o := _) rfl (fun K hK => ?_) AllReadyH.nil)
        try simp only [Act.put, List.getElem_toArray, List.getElem_cons_succ, List.getElem_cons_zero, List.setIfInBounds_toArray, List.set_cons_zero, List.set_cons_succ]
        rw [if_pos (by rfl)]
        refine op_append_row1 _ (by rfl) _ _ 27 (by rfl) w.heap.size 3 i0 (.int .i64 0) 1 8 Tryd.underlying27 hi hz0 hz1 hz2 rfl (by decide) (.slice (some ⟨wb.heap.size, 0, none⟩) 0 0) 0 [] (by rfl) ob w3.heap.size A2 _ c2 (ints s.locks) (by rfl) (HRow.out.2 _ Dwc) (by rw [ints_length]; omega) (by intro u hu; obtain ⟨x, _, rfl⟩ := List.mem_map.1 hu; rfl) (by unfold maxLen; omega) (by omega) (Nat.le_trans zw3 Dwc.size) ?_
        intro v9 we hown hg
        have Dwe := Dwc.grown hg Dwc.size (fun j hj => by have hj : wb.heap.size = j := (by simpa [Value.ownBlock] using hj); have := Dwb.size; omega)
        have o9 : OwnI we w.heap.size v9 (s.locks) := by
          rw [Nat.zero_add, List.nil_append] at hown
          unfold OwnI
          rw [HL2]
          exact hown
        have zg := hg.size
        obtain ⟨A6, c6, e9, pb, h6⟩ := o9.form
        rw [HL2] at e9
        subst e9
        replace pa := row_far_nil pa nb hg
        refine hK.out _ _ (HKP.out _ Dwe) (fun hHeld => ?_)
        clear hK K
        try simp only [Act.put, List.getElem_toArray, List.getElem_cons_succ, List.getElem_cons_zero, List.setIfInBounds_toArray, List.set_cons_zero, List.set_cons_succ]
        refine wpAnyH_take (i := 8) (oi := _) (v := ?_) rfl (by kernel_rfl) (by kernel_rfl) (by kernel_rfl) (fun _ _ _ h => h) (Or.inl ⟨by rfl, ?_⟩) hHeld ?_
        rotate_left
        · (intro w' hSw; (try dsimp only at hSw); go_simp <;> with_reducible rfl)
        try simp only [Act.put, List.getElem_toArray, List.getElem_cons_succ, List.getElem_cons_zero, List.setIfInBounds_toArray, List.set_cons_zero, List.set_cons_succ]
        have y2 := x2.later Dwe
        obtain ⟨t0, t1, tf⟩ := id y2.reads
        have tf0 := tf 0
        have tf1 := tf 1
        clear tf
        refine wpAnyH_ready (rs := [9]) (by kernel_rfl) (by simp) (AllReadyH.cons (o := _) rfl (fun K hK => ?_) AllReadyH.nil)
        try simp only [Act.put, List.getElem_toArray, List.getElem_cons_succ, List.getElem_cons_zero, List.setIfInBounds_toArray, List.set_cons_zero, List.set_cons_succ]
        go_simp
        have y3 := ((x3.later Dwe).far (p := ⟨w.heap.size + 1, 0, none⟩) hw.out.symm (.slice A5 4 c5)).far (p := ⟨w.heap.size + 1, 1, none⟩) hw.out.symm (.slice A6 4 c6)
        refine hK.out _ _ ⟨y3.reads.1, y3.reads.2.1⟩ (fun hHeld => ?_)
        clear hK K
        try simp only [Act.put, List.getElem_toArray, List.getElem_cons_succ, List.getElem_cons_zero, List.setIfInBounds_toArray, List.set_cons_zero, List.set_cons_succ]
        refine wpAnyH_take (i := 10) (oi := _) (v := ?_) rfl (by kernel_rfl) (by kernel_rfl) (by kernel_rfl) (fun _ _ _ h => h) (Or.inl ⟨by rfl, ?_⟩) hHeld ?_
        rotate_left
        · (intro w' hSw; (try dsimp only at hSw); go_simp <;> with_reducible rfl)
        try simp only [Act.put, List.getElem_toArray, List.getElem_cons_succ, List.getElem_cons_zero, List.setIfInBounds_toArray, List.set_cons_zero, List.set_cons_succ]
        refine wpAnyH_done (by kernel_rfl) ?_ _
        obtain ⟨p0, p1, -⟩ := ((y2.set0 (.slice A5 4 c5)).set1 (.slice A6 4 c6)).reads
        have bwe := b3.trans (Dwe.mono zw3)
        have b7 := (bwe.setCell (p := ⟨w.heap.size + 1, 0, none⟩) (Nat.le_succ _) (.slice A5 4 c5)).setCell (p := ⟨w.heap.size + 1, 1, none⟩) (Nat.le_succ _) (.slice A6 4 c6)
        have S7 : Stt we we.heap.size (.agg #[.slice A5 4 c5, .slice A6 4 c6]) s := ⟨A5, c5, A6, c6, by rw [HL1, HL2]; rfl, pa, h5, pb, h6⟩
        have S8 := (S7.far y2 0 (.slice A5 4 c5)).far (y2.set0 (.slice A5 4 c5)) 1 (.slice A6 4 c6)
        clear hHeld t0 t1 tf0 tf1 S7 y3 HKP HRow
        go_wp2
        exact bodyPost_ret (v := .tuple #[.agg #[.slice A5 4 c5, .slice A6 4 c6], .bool true]) (by simp [results, Tryd.results30, go_sem, p0, p1]) rfl ⟨_, rfl, S8, b7⟩
      · skip
        try simp only [Act.put, List.getElem_toArray, List.getElem_cons_succ, List.getElem_cons_zero, List.setIfInBounds_toArray, List.set_cons_zero, List.set_cons_succ]
        clear al9
        go_simp
        have al9 := (Below.refl wa.heap.size wa).alloc (Nat.le_refl _) (.cells #[] 3)
        have D9 := Dwa.trans (al9.mono Dwa.size)
        have ob : OwnI _ w.heap.size (.slice (some ⟨wa.heap.size, 0, none⟩) 0 0) [] := OwnI.nil_new (w := wa) (Nat.le_trans zw3 Dwa.size)
        have nb := heap_alloc_new wa (.cells #[] 3)
        obtain ⟨wb, hY⟩ : ∃ y, wa.alloc (.cells #[] 3) = y := ⟨_, rfl⟩
        have zwb : (wa.alloc (.cells #[] 3)).heap.size = wa.heap.size + 1 := World.size_alloc _ _
        rw [hY] at al9 D9 ob nb zwb ⊢
        replace zwb := hid zwb
        have Dwb := D9
        refine hK.out _ _ (HKP.out _ D9) (fun hHeld => ?_)
        clear hK K
        try simp only [Act.put, List.getElem_toArray, List.getElem_cons_succ, List.getElem_cons_zero, List.setIfInBounds_toArray, List.set_cons_zero, List.set_cons_succ]
        clear hY D9
        replace oa := oa.below al9 (Nat.le_refl _)
        replace na := (al9.block _ (blk_lt na)).trans na
        clear al9
        refine wpAnyH_ready (rs := [3]) (by kernel_rfl) (by simp) (AllReadyH.cons (o := _) rfl (fun K hK => ?_) AllReadyH.nil)
        try simp only [Act.put, List.getElem_toArray, List.getElem_cons_succ, List.getElem_cons_zero, List.setIfInBounds_toArray, List.set_cons_zero, List.set_cons_succ]
        rw [if_pos (by rfl)]
        refine op_append_row1 _ (by rfl) _ _ 27 (by rfl) w.heap.size 3 i0 (.int .i64 0) 1 8 Tryd.underlying27 hi hz0 hz1 hz2 rfl (by decide) (.slice (some ⟨wd.heap.size, 0, none⟩) 0 0) 0 [] (by rfl) oa w3.heap.size A1 _ c1 (ints s.refs) (by rfl) (HRow.out.1 _ Dwb) (by rw [ints_length]; omega) (by intro u hu; obtain ⟨x, _, rfl⟩ := List.mem_map.1 hu; rfl) (by unfold maxLen; omega) (by omega) (Nat.le_trans zw3 Dwb.size) ?_
        intro v9 wc hown hg
        have Dwc := Dwb.grown hg Dwb.size (fun j hj => by have hj : wd.heap.size = j := (by simpa [Value.ownBlock] using hj); have := Dwd.size; omega)
        have o9 : OwnI wc w.heap.size v9 (s.refs) := by
          rw [Nat.zero_add, List.nil_append] at hown
          unfold OwnI
          rw [HL1]
          exact hown
        have zg := hg.size
        obtain ⟨A5, c5, e9, pa, h5⟩ := o9.form
        rw [HL1] at e9
        subst e9
        have ne9 : wa.heap.size ≠ wd.heap.size := by have := zwa.out; omega
        replace ob : OwnI wc w.heap.size (.slice (some ⟨wa.heap.size, 0, none⟩) 0 0) [] := World.ownsRow.kept ob hg (.inr fun e => by injection e with e; exact ne9 e)
        replace nb := (hg.block _ (blk_lt nb) (fun e => by injection e with e; exact ne9 e)).trans nb
        refine hK.out _ _ (HKP.out _ Dwc) (fun hHeld => ?_)
        clear hK K
        try simp only [Act.put, List.getElem_toArray, List.getElem_cons_succ, List.getElem_cons_zero, List.setIfInBounds_toArray, List.set_cons_zero, List.set_cons_succ]
        clear hown hg o9
        refine wpAnyH_ready (rs := [7]) (by kernel_rfl) (by simp) (AllReadyH.cons (o := _) rfl (fun K hK => ?_) AllReadyH.nil)
        try simp only [Act.put, List.getElem_toArray, List.getElem_cons_succ, List.getElem_cons_zero, List.setIfInBounds_toArray, List.set_cons_zero, List.set_cons_succ]
        rw [if_pos (by rfl)]
        refine op_append_row1 _ (by rfl) _ _ 27 (by rfl) w.heap.size 3 i0 (.int .i64 0) 1 8 Tryd.underlying27 hi hz0 hz1 hz2 rfl (by decide) (.slice (some ⟨wa.heap.size, 0, none⟩) 0 0) 0 [] (by rfl) ob w3.heap.size A2 _ c2 (ints s.locks) (by rfl) (HRow.out.2 _ Dwc) (by rw [ints_length]; omega) (by intro u hu; obtain ⟨x, _, rfl⟩ := List.mem_map.1 hu; rfl) (by unfold maxLen; omega) (by omega) (Nat.le_trans zw3 Dwc.size) ?_
        intro v9 we hown hg
        have Dwe := Dwc.grown hg Dwc.size (fun j hj => by have hj : wa.heap.size = j := (by simpa [Value.ownBlock] using hj); have := Dwa.size; omega)
        have o9 : OwnI we w.heap.size v9 (s.locks) := by
          rw [Nat.zero_add, List.nil_append] at hown
          unfold OwnI
          rw [HL2]
          exact hown
        have zg := hg.size
        obtain ⟨A6, c6, e9, pb, h6⟩ := o9.form
        rw [HL2] at e9
        subst e9
        replace pa := row_far_nil pa nb hg
        refine hK.out _ _ (HKP.out _ Dwe) (fun hHeld => ?_)
        clear hK K
        try simp only [Act.put, List.getElem_toArray, List.getElem_cons_succ, List.getElem_cons_zero, List.setIfInBounds_toArray, List.set_cons_zero, List.set_cons_succ]
        refine wpAnyH_take (i := 8) (oi := _) (v := ?_) rfl (by kernel_rfl) (by kernel_rfl) (by kernel_rfl) (fun _ _ _ h => h) (Or.inl ⟨by rfl, ?_⟩) hHeld ?_
        rotate_left
        · (intro w' hSw; (try dsimp only at hSw); go_simp <;> with_reducible rfl)
        try simp only [Act.put, List.getElem_toArray, List.getElem_cons_succ, List.getElem_cons_zero, List.setIfInBounds_toArray, List.set_cons_zero, List.set_cons_succ]
        have y2 := x2.later Dwe
        obtain ⟨t0, t1, tf⟩ := id y2.reads
        have tf0 := tf 0
        have tf1 := tf 1
        clear tf
        refine wpAnyH_ready (rs := [9]) (by kernel_rfl) (by simp) (AllReadyH.cons (o := _) rfl (fun K hK => ?_) AllReadyH.nil)
        try simp only [Act.put, List.getElem_toArray, List.getElem_cons_succ, List.getElem_cons_zero, List.setIfInBounds_toArray, List.set_cons_zero, List.set_cons_succ]
        go_simp
        have y3 := ((x3.later Dwe).far (p := ⟨w.heap.size + 1, 0, none⟩) hw.out.symm (.slice A5 4 c5)).far (p := ⟨w.heap.size + 1, 1, none⟩) hw.out.symm (.slice A6 4 c6)
        refine hK.out _ _ ⟨y3.reads.1, y3.reads.2.1⟩ (fun hHeld => ?_)
        clear hK K
        try simp only [Act.put, List.getElem_toArray, List.getElem_cons_succ, List.getElem_cons_zero, List.setIfInBounds_toArray, List.set_cons_zero, List.set_cons_succ]
        refine wpAnyH_take (i := 10) (oi := _) (v := ?_) rfl (by kernel_rfl) (by kernel_rfl) (by kernel_rfl) (fun _ _ _ h => h) (Or.inl ⟨by rfl, ?_⟩) hHeld ?_
        rotate_left
        · (intro w' hSw; (try dsimp only at hSw); go_simp <;> with_reducible rfl)
        try simp only [Act.put, List.getElem_toArray, List.getElem_cons_succ, List.getElem_cons_zero, List.setIfInBounds_toArray, List.set_cons_zero, List.set_cons_succ]
        refine wpAnyH_done (by kernel_rfl) ?_ _
        obtain ⟨p0, p1, -⟩ := ((y2.set0 (.slice A5 4 c5)).set1 (.slice A6 4 c6)).reads
        have bwe := b3.trans (Dwe.mono zw3)
        have b7 := (bwe.setCell (p := ⟨w.heap.size + 1, 0, none⟩) (Nat.le_succ _) (.slice A5 4 c5)).setCell (p := ⟨w.heap.size + 1, 1, none⟩) (Nat.le_succ _) (.slice A6 4 c6)
        have S7 : Stt we we.heap.size (.agg #[.slice A5 4 c5, .slice A6 4 c6]) s := ⟨A5, c5, A6, c6, by rw [HL1, HL2]; rfl, pa, h5, pb, h6⟩
        have S8 := (S7.far y2 0 (.slice A5 4 c5)).far (y2.set0 (.slice A5 4 c5)) 1 (.slice A6 4 c6)
        clear hHeld t0 t1 tf0 tf1 S7 y3 HKP HRow
        go_wp2
        exact bodyPost_ret (v := .tuple #[.agg #[.slice A5 4 c5, .slice A6 4 c6], .bool true]) (by simp [results, Tryd.results30, go_sem, p0, p1]) rfl ⟨_, rfl, S8, b7⟩
    · skip
      try simp only [Act.put, List.getElem_toArray, List.getElem_cons_succ, List.getElem_cons_zero, List.setIfInBounds_toArray, List.set_cons_zero, List.set_cons_succ]
      go_simp
      have al9 := (Below.refl wd.heap.size wd).alloc (Nat.le_refl _) (.cells #[] 3)
      have D9 := Dwd.trans (al9.mono Dwd.size)
      have ob : OwnI _ w.heap.size (.slice (some ⟨wd.heap.size, 0, none⟩) 0 0) [] := OwnI.nil_new (w := wd) (Nat.le_trans zw3 Dwd.size)
      have nb := heap_alloc_new wd (.cells #[] 3)
      obtain ⟨wa, hY⟩ : ∃ y, wd.alloc (.cells #[] 3) = y := ⟨_, rfl⟩
      have zwa : (wd.alloc (.cells #[] 3)).heap.size = wd.heap.size + 1 := World.size_alloc _ _
      rw [hY] at al9 D9 ob nb zwa ⊢
      replace zwa := hid zwa
      have Dwa := D9
      refine hK.out _ _ (HKP.out _ D9) (fun hHeld => ?_)
      clear hK K
      try simp only [Act.put, List.getElem_toArray, List.getElem_cons_succ, List.getElem_cons_zero, List.setIfInBounds_toArray, List.set_cons_zero, List.set_cons_succ]
      clear hY D9
      clear al9
      refine wpAnyH_ready (rs := [0]) (by kernel_rfl) (by simp) (AllReadyH.cons (o := _) rfl (fun K hK => ?_) AllReadyH.nil)
      try simp only [Act.put, List.getElem_toArray, List.getElem_cons_succ, List.getElem_cons_zero, List.setIfInBounds_toArray, List.set_cons_zero, List.set_cons_succ]
      go_simp
      have al9 := (Below.refl wa.heap.size wa).alloc (Nat.le_refl _) (.cells #[] 3)
      have D9 := Dwa.trans (al9.mono Dwa.size)
      have oa : OwnI _ w.heap.size (.slice (some ⟨wa.heap.size, 0, none⟩) 0 0) [] := OwnI.nil_new (w := wa) (Nat.le_trans zw3 Dwa.size)
      have na := heap_alloc_new wa (.cells #[] 3)
      obtain ⟨wb, hY⟩ : ∃ y, wa.alloc (.cells #[] 3) = y := ⟨_, rfl⟩
      have zwb : (wa.alloc (.cells #[] 3)).heap.size = wa.heap.size + 1 := World.size_alloc _ _
      rw [hY] at al9 D9 oa na zwb ⊢
      replace zwb := hid zwb
      have Dwb := D9
      refine hK.out _ _ (HKP.out _ D9) (fun hHeld => ?_)
      clear hK K
      try simp only [Act.put, List.getElem_toArray, List.getElem_cons_succ, List.getElem_cons_zero, List.setIfInBounds_toArray, List.set_cons_zero, List.set_cons_succ]
      clear hY D9
      replace ob := ob.below al9 (Nat.le_refl _)
      replace nb := (al9.block _ (blk_lt nb)).trans nb
      clear al9
      refine wpAnyH_ready (rs := [3]) (by kernel_rfl) (by simp) (AllReadyH.cons (o := _) rfl (fun K hK => ?_) AllReadyH.nil)
      try simp only [Act.put, List.getElem_toArray, List.getElem_cons_succ, List.getElem_cons_zero, List.setIfInBounds_toArray, List.set_cons_zero, List.set_cons_succ]
      rw [if_pos (by rfl)]
      refine op_append_row1 _ (by rfl) _ _ 27 (by rfl) w.heap.size 3 i0 (.int .i64 0) 1 8 Tryd.underlying27 hi hz0 hz1 hz2 rfl (by decide) (.slice (some ⟨wa.heap.size, 0, none⟩) 0 0) 0 [] (by rfl) oa w3.heap.size A1 _ c1 (ints s.refs) (by rfl) (HRow.out.1 _ Dwb) (by rw [ints_length]; omega) (by intro u hu; obtain ⟨x, _, rfl⟩ := List.mem_map.1 hu; rfl) (by unfold maxLen; omega) (by omega) (Nat.le_trans zw3 Dwb.size) ?_
      intro v9 wc hown hg
      have Dwc := Dwb.grown hg Dwb.size (fun j hj => by have hj : wa.heap.size = j := (by simpa [Value.ownBlock] using hj); have := Dwa.size; omega)
      have o9 : OwnI wc w.heap.size v9 (s.refs) := by
        rw [Nat.zero_add, List.nil_append] at hown
        unfold OwnI
        rw [HL1]
        exact hown
      have zg := hg.size
      obtain ⟨A5, c5, e9, pa, h5⟩ := o9.form
      rw [HL1] at e9
      subst e9
      have ne9 : wd.heap.size ≠ wa.heap.size := by have := zwa.out; omega
      replace ob : OwnI wc w.heap.size (.slice (some ⟨wd.heap.size, 0, none⟩) 0 0) [] := World.ownsRow.kept ob hg (.inr fun e => by injection e with e; exact ne9 e)
      replace nb := (hg.block _ (blk_lt nb) (fun e => by injection e with e; exact ne9 e)).trans nb
      refine hK.out _ _ (HKP.out _ Dwc) (fun hHeld => ?_)
      clear hK K
      try simp only [Act.put, List.getElem_toArray, List.getElem_cons_succ, List.getElem_cons_zero, List.setIfInBounds_toArray, List.set_cons_zero, List.set_cons_succ]
      clear hown hg o9
      refine wpAnyH_ready (rs := [7]) (by kernel_rfl) (by simp) (AllReadyH.cons (o := _) rfl (fun K hK => ?_) AllReadyH.nil)
      try simp only [Act.put, List.getElem_toArray, List.getElem_cons_succ, List.getElem_cons_zero, List.setIfInBounds_toArray, List.set_cons_zero, List.set_cons_succ]
      rw [if_pos (by rfl)]
      refine op_append_row1 _ (by rfl) _ _ 27 (by rfl) w.heap.size 3 i0 (.int .i64 0) 1 8 Tryd.underlying27 hi hz0 hz1 hz2 rfl (by decide) (.slice (some ⟨wd.heap.size, 0, none⟩) 0 0) 0 [] (by rfl) ob w3.heap.size A2 _ c2 (ints s.locks) (by rfl) (HRow.out.2 _ Dwc) (by rw [ints_length]; omega) (by intro u hu; obtain ⟨x, _, rfl⟩ := List.mem_map.1 hu; rfl) (by unfold maxLen; omega) (by omega) (Nat.le_trans zw3 Dwc.size) ?_
      intro v9 we hown hg
      have Dwe := Dwc.grown hg Dwc.size (fun j hj => by have hj : wd.heap.size = j := (by simpa [Value.ownBlock] using hj); have := Dwd.size; omega)
      have o9 : OwnI we w.heap.size v9 (s.locks) := by
        rw [Nat.zero_add, List.nil_append] at hown
        unfold OwnI
        rw [HL2]
        exact hown
      have zg := hg.size
      obtain ⟨A6, c6, e9, pb, h6⟩ := o9.form
      rw [HL2] at e9
      subst e9
      replace pa := row_far_nil pa nb hg
      refine hK.out _ _ (HKP.out _ Dwe) (fun hHeld => ?_)
      clear hK K
      try simp only [Act.put, List.getElem_toArray, List.getElem_cons_succ, List.getElem_cons_zero, List.setIfInBounds_toArray, List.set_cons_zero, List.set_cons_succ]
      refine wpAnyH_take (i := 8) (oi := _) (v := ?_) rfl (by kernel_rfl) (by kernel_rfl) (by kernel_rfl) (fun _ _ _ h => h) (Or.inl ⟨by rfl, ?_⟩) hHeld ?_
      rotate_left
      · (intro w' hSw; (try dsimp only at hSw); go_simp <;> with_reducible rfl)
      try simp only [Act.put, List.getElem_toArray, List.getElem_cons_succ, List.getElem_cons_zero, List.setIfInBounds_toArray, List.set_cons_zero, List.set_cons_succ]
      have y2 := x2.later Dwe
      obtain ⟨t0, t1, tf⟩ := id y2.reads
      have tf0 := tf 0
      have tf1 := tf 1
      clear tf
      refine wpAnyH_ready (rs := [9]) (by kernel_rfl) (by simp) (AllReadyH.cons (o := _) rfl (fun K hK => ?_) AllReadyH.nil)
      try simp only [Act.put, List.getElem_toArray, List.getElem_cons_succ, List.getElem_cons_zero, List.setIfInBounds_toArray, List.set_cons_zero, List.set_cons_succ]
      go_simp
      have y3 := ((x3.later Dwe).far (p := ⟨w.heap.size + 1, 0, none⟩) hw.out.symm (.slice A5 4 c5)).far (p := ⟨w.heap.size + 1, 1, none⟩) hw.out.symm (.slice A6 4 c6)
      refine hK.out _ _ ⟨y3.reads.1, y3.reads.2.1⟩ (fun hHeld => ?_)
      clear hK K
      try simp only [Act.put, List.getElem_toArray, List.getElem_cons_succ, List.getElem_cons_zero, List.setIfInBounds_toArray, List.set_cons_zero, List.set_cons_succ]
      refine wpAnyH_take (i := 10) (oi := _) (v := ?_) rfl (by kernel_rfl) (by kernel_rfl) (by kernel_rfl) (fun _ _ _ h => h) (Or.inl ⟨by rfl, ?_⟩) hHeld ?_
      rotate_left
      · (intro w' hSw; (try dsimp only at hSw); go_simp <;> with_reducible rfl)
      try simp only [Act.put, List.getElem_toArray, List.getElem_cons_succ, List.getElem_cons_zero, List.setIfInBounds_toArray, List.set_cons_zero, List.set_cons_succ]
      refine wpAnyH_done (by kernel_rfl) ?_ _
      obtain ⟨p0, p1, -⟩ := ((y2.set0 (.slice A5 4 c5)).set1 (.slice A6 4 c6)).reads
      have bwe := b3.trans (Dwe.mono zw3)
      have b7 := (bwe.setCell (p := ⟨w.heap.size + 1, 0, none⟩) (Nat.le_succ _) (.slice A5 4 c5)).setCell (p := ⟨w.heap.size + 1, 1, none⟩) (Nat.le_succ _) (.slice A6 4 c6)
      have S7 : Stt we we.heap.size (.agg #[.slice A5 4 c5, .slice A6 4 c6]) s := ⟨A5, c5, A6, c6, by rw [HL1, HL2]; rfl, pa, h5, pb, h6⟩
      have S8 := (S7.far y2 0 (.slice A5 4 c5)).far (y2.set0 (.slice A5 4 c5)) 1 (.slice A6 4 c6)
      clear hHeld t0 t1 tf0 tf1 S7 y3 HKP HRow
      go_wp2
      exact bodyPost_ret (v := .tuple #[.agg #[.slice A5 4 c5, .slice A6 4 c6], .bool true]) (by simp [results, Tryd.results30, go_sem, p0, p1]) rfl ⟨_, rfl, S8, b7⟩
end Go.Proofs.YteeffchnbkkpfabDoor
