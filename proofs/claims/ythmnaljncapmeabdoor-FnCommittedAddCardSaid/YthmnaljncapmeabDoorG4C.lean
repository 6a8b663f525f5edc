/-
  Walks: which shards are valid, their states, and what they say of a transaction, by the model.
  Walks: the program's ledger of all records of a shard.
  Walks: the program's ShardValid, ShardAsk, ShardRecover.
  Walks: copies of shards, records appended, by the model.
  Walks: the program's copies of records and shards, a record added.
  Walks: the program adds a record to a shard, if it may follow.
  Walks: votes and decisions of a shard, by the model.
  Walks: decisions of a shard, and what it has committed, by the model.
  Walks: the laws' own comparisons of records, shards and states.
-/
import Derived.Test.YthmnaljncapmeabDoorShdD
import Derived.Test.YthmnaljncapmeabDoorLedF
import Derived.Test.YthmnaljncapmeabDoorG2C
import Derived.Test.YthmnaljncapmeabDoorG1C
import Derived.Deep.Cut
namespace Go.Proofs.YthmnaljncapmeabDoor
open Go.RowKit Wo Pu Rf Lk Sh

theorem RecTo.valid {rs : List Rec} {st : St} {b : Bool} (h : RecTo rs st b) : b = true ↔ Vld rs := by
  obtain ⟨-, h2, h3⟩ := h
  cases b with
  | true => exact ⟨fun _ => ⟨⟨_, (h2 rfl).1⟩, (h2 rfl).2⟩, fun _ => rfl⟩
  | false => exact ⟨fun e => (by cases e), fun e => absurd e (h3 rfl)⟩
theorem bool_ofP (p : Prop) : ∃ b : Bool, b = true ↔ p := by
  by_cases h : p
  · exact ⟨true, fun _ => h, fun _ => rfl⟩
  · exact ⟨false, fun e => (by cases e), fun e => absurd e h⟩
/-- The state of a valid shard, or none. -/
def Rcvd (rs : List Rec) (s : St) (b : Bool) : Prop := (b = true ∧ Rcv rs s ∧ rs.length ≤ 30) ∨ (b = false ∧ ¬ Vld rs ∧ s = ⟨[], []⟩)
theorem rcvd_ex (rs : List Rec) : ∃ s b, Rcvd rs s b := by
  by_cases h : Vld rs
  · obtain ⟨⟨s, hs⟩, hl⟩ := h
    exact ⟨s, true, .inl ⟨rfl, hs, hl⟩⟩
  · exact ⟨_, false, .inr ⟨rfl, h, rfl⟩⟩
theorem Rcvd.valid {rs : List Rec} {s : St} {b : Bool} (h : Rcvd rs s b) : b = true ↔ Vld rs := by
  rcases h with ⟨rfl, h1, h2⟩ | ⟨rfl, h1, -⟩
  · exact ⟨fun _ => ⟨⟨_, h1⟩, h2⟩, fun _ => rfl⟩
  · exact ⟨fun e => (by cases e), fun e => absurd e h1⟩
theorem Rcvd.of {rs : List Rec} {s x : St} {b b' : Bool} (h : Rcvd rs s b) (hx : RecTo rs x b') : b' = b ∧ (b = true → s = x) := by
  have e : b' = b := by rw [Bool.eq_iff_iff, hx.valid, h.valid]
  refine ⟨e, fun e2 => ?_⟩
  subst e
  rcases h with ⟨-, h1, -⟩ | ⟨h1, -⟩
  · exact h1.one (hx.2.1 e2).1
  · rw [h1] at e2; cases e2
set_option linter.unusedSimpArgs false in
set_option maxRecDepth 100000 in
set_option maxHeartbeats 4000000 in
theorem specShardValid_is (b : Bool) (v : Value) (rs : List Rec) (w : World) (h : Shd w w.heap.size v rs) (hf : FitR rs) (hb : b = true ↔ Vld rs) :
    Calls Tryd.prog 16 #[v] w (Ret (.bool b) w) := by
  have HB := hid hb
  clear hb
  obtain ⟨A, c, rfl, h0, hc⟩ := h
  unfold shV
  have b0 := (Below.refl w.heap.size w).alloc (Nat.le_refl _) (.cells #[.slice A rs.length c] 25)
  have x0 := Blk1.new_ w 25 (.slice A rs.length c)
  have h1 := h0.on b0
  go_enter Tryd.func16, Tryd.ntmps16
  go_wp2_with fail
  generalize w.alloc (.cells #[.slice A rs.length c] 25) = w1 at *
  refine (l21Recover_any A c rs w1 h1 hc hf).mono ?_
  rintro e w2 ⟨st, b', HR, v2, rfl, s2, d2⟩
  have eb : b' = b := by rw [Bool.eq_iff_iff, HR.valid, HB.out]
  subst eb
  obtain ⟨A1, c1, A2, c2, rfl, -⟩ := s2
  unfold stV
  have b2 := b0.trans (d2.mono b0.size)
  have b3 := b2.alloc b2.size (.cells #[.slice A1 st.refs.length c1, .slice A2 st.locks.length c2] 30)
  go_wp2
  go_ret
  exact ⟨rfl, b3⟩
set_option linter.unusedSimpArgs false in
set_option maxRecDepth 100000 in
set_option maxHeartbeats 4000000 in
theorem specShardAsk_is (z : Int) (v : Value) (rs : List Rec) (t : Int) (w : World) (h : Shd w w.heap.size v rs) (hf : FitR rs) (hz : (Vld rs ∧ TV t ∧ z = Sh.ask rs t) ∨ (¬ (Vld rs ∧ TV t) ∧ z = -1)) :
    Calls Tryd.prog 32 #[v, .int .i64 t] w (Ret (.int .i64 z) w) := by
  have HZ := hid hz
  clear hz
  obtain ⟨vs, hvs⟩ := bool_ofP (Vld rs)
  obtain ⟨vt, hvt⟩ := bool_of (TV t)
  have CV := hid (specShardValid_is vs v rs · · hf hvs)
  obtain ⟨A, c, rfl, h0, hc⟩ := h
  have CT : Hid (∀ x, Calls Tryd.prog 63 #[.int .i64 t] x (Same (.bool vt) x)) := fun x => l12Txn_is vt t x hvt
  unfold shV at *
  have b0 := (Below.refl w.heap.size w).alloc (Nat.le_refl _) (.cells #[.slice A rs.length c] 25)
  have x0 := Blk1.new_ w 25 (.slice A rs.length c)
  have h1 := h0.on b0
  go_enter Tryd.func32, Tryd.ntmps32
  go_wp2_with fail
  generalize w.alloc (.cells #[.slice A rs.length c] 25) = w1 at *
  obtain ⟨y0, -⟩ := id x0.reads
  go_wp2_with fail
  refine (CV.out w1 ⟨A, c, rfl, h1, hc⟩).mono ?_
  rintro e w2 ⟨rfl, d2⟩
  have b2 := b0.trans (d2.mono b0.size)
  have h2 := h0.on b2
  have x2 := x0.later d2
  clear b0 x0 h1 y0 d2 CV
  obtain ⟨y0, -⟩ := id x2.reads
  cases vs with
  | false =>
    have ez : z = -1 := by
      rcases HZ.out with ⟨h3, -⟩ | ⟨-, h3⟩
      · have := hvs.2 h3; cases this
      · exact h3
    subst ez
    clear hvs hvt CT
    go_wp2
    go_ret
    exact ⟨rfl, b2⟩
  | true =>
    have HV := hid (hvs.1 rfl)
    clear hvs
    go_wp2_with fail
    refine (CT.out _).mono ?_
    rintro e w3 ⟨rfl, rfl⟩
    cases vt with
    | false =>
      have ez : z = -1 := by
        rcases HZ.out with ⟨-, h3, -⟩ | ⟨-, h3⟩
        · have := hvt.2 h3; cases this
        · exact h3
      subst ez
      clear hvt CT
      go_wp2
      go_ret
      exact ⟨rfl, b2⟩
    | true =>
      have ez : Sh.ask rs t = z := by
        rcases HZ.out with ⟨-, -, h3⟩ | ⟨h3, -⟩
        · exact h3.symm
        · exact absurd ⟨HV.out, hvt.1 rfl⟩ h3
      have CA := hid (l21Ask_is z A c rs t w2 w2.heap.size h2 (by have := hf.1; omega) ez)
      clear hvt CT HZ ez
      go_wp2_with fail
      refine CA.out.mono ?_
      rintro e w3 ⟨rfl, rfl⟩
      go_wp2
      go_ret
      exact ⟨rfl, b2⟩
/-- An append as one operation of a region. -/
theorem op_append_row1 {P : Program} (w : World) {o : Oper} {a : Act} {K : Act → World → Prop} {Q : Exit → Act → World → Prop} (hgd : o.guard = none) (s x : Operand) (t : TypeId)
    (ho : o.op = .call { callee := .builtin .append, args := #[s, x], argTypes := #[t, t] })
    (base : Nat) (e : TypeId) (i : TypeInfo) (z : Value) (size bytes : Nat) (ht : P.underlying t = some (.slice e)) (hi : P.info? e = some i) (hz : i.zero = some z)
    (hsize : i.size = size) (hby : i.bytes = bytes) (hzs : z.cells.size = size) (hsz : 0 < size)
    (v : Value) (n : Nat) (xs : List Value) (hs : a.eval s = v) (hown : w.ownsRow base e size v n xs)
    (B : Nat) (A : Option Addr) (m c : Nat) (news : List Value) (hx : a.eval x = .slice A m c) (hr : Row w B A news) (hl : news.length = m * size) (h1 : ∀ u ∈ news, u.oneCell' = true)
    (h63 : n + m ≤ maxLen) (hbytes : (n + m) * bytes ≤ 140737488355328) (hbase : base ≤ w.heap.size)
    (h : ∀ v' w', w'.ownsRow base e size v' (n + m) (xs ++ news) → w.grownBy w' v.ownBlock → K (a.put o.dst v') w') : Oper.wp P o a w K Q := by
  have hw : Region.wanted o (yielded #[] a.tmps) = true := by simp [Region.wanted, hgd]
  have := step_append_row (ops := #[]) (E := False) (Q := Q) w hgd s x t ho base e i z size bytes ht hi hz hsize hby hzs hsz v n xs hs hown B A m c news hx hr hl h1 h63 hbytes hbase h
  rwa [if_pos hw] at this
/-- A row of numbers is not touched where an empty block grows. -/
theorem row_far_nil {w w' : World} {g : Nat} {T : TypeId} {fr : Nat × Nat} {A : Option Addr} {zs : List Int} (h : Row w w.heap.size A (ints zs)) (hn : w.heap[g]? = some (.cells #[] T fr)) (hg : w.grownBy w' (some g)) : Row w' w'.heap.size A (ints zs) := by
  rcases h with h | ⟨ad, e, hb, hc⟩
  · exact .inl h
  · cases zs with
    | nil => exact .inl rfl
    | cons z zs =>
      have hne : ad.block ≠ g := fun e2 => by
        have h0 := hc 0 (.int .i64 z) rfl
        rw [add_zero] at h0
        unfold World.cell? at h0
        rw [e2, hn] at h0
        simp only at h0
        split at h0
        · cases h0
        · simp at h0
      refine .inr ⟨ad, e, Nat.lt_of_lt_of_le hb hg.size, fun j v hj => ?_⟩
      rw [← hc j v hj]
      exact World.cell?_of_block (by rw [add_block]; exact hg.block ad.block hb fun e2 => hne (by injection e2))
/- An empty slice is made. -/
/- The row at PA is appended to the empty slice of PX's block PG. -/
/- The state is stored as the answer. -/
/- The second append, where the first row lies in wc and the empty slice is of block PG. -/
/- Both empty slices lie in wb: those of the refs in block PG, those of the locks in PH. -/
set_option linter.unusedSimpArgs false in
set_option maxRecDepth 100000 in
set_option maxHeartbeats 4000000 in
theorem specShardRecover_is (b : Bool) (s : St) (v : Value) (rs : List Rec) (w : World) (h : Shd w w.heap.size v rs) (hf : FitR rs) (hs : Rcvd rs s b) :
    Calls Tryd.prog 20 #[v] w (NewStB s b w) := by
  obtain ⟨i0, hi, hz0, hz1, hz2⟩ := info_of info_int
  have HS := hid hs
  clear hs
  obtain ⟨A, c, rfl, h0, hc⟩ := h
  unfold shV
  have b0 := ((Below.refl w.heap.size w).alloc (Nat.le_refl _) (.cells #[.slice A rs.length c] 25)).alloc (by simp) (.cells #[.slice none 0 0, .slice none 0 0] 30)
  have x0 := (Blk1.new_ w 25 (.slice A rs.length c)).alloc (.cells #[.slice none 0 0, .slice none 0 0] 30)
  have x1 := Blk2s.new_ (w.alloc (.cells #[.slice A rs.length c] 25)) 30 (.slice none 0 0) (.slice none 0 0)
  rw [World.size_alloc] at x1
  have h1 := h0.on b0
  go_enter Tryd.func20, Tryd.ntmps20
  go_wp2_with fail
  generalize (w.alloc (.cells #[.slice A rs.length c] 25)).alloc (.cells #[.slice none 0 0, .slice none 0 0] 30) = w1 at *
  obtain ⟨y0, -⟩ := id x0.reads
  go_wp2_with fail
  refine (l21Recover_any A c rs w1 h1 hc hf).mono ?_
  rintro e w2 ⟨st, b', HR, v2, rfl, s2, d2⟩
  obtain ⟨rfl, HE⟩ := HS.out.of HR
  obtain ⟨A1, c1, A2, c2, rfl, r1, hc1, r2, hc2⟩ := s2
  unfold stV
  have b2 := b0.trans (d2.mono b0.size)
  have al := (Below.refl w2.heap.size w2).alloc (Nat.le_refl _) (.cells #[.slice A1 st.refs.length c1, .slice A2 st.locks.length c2] 30)
  have x2 := (x1.later d2).alloc (.cells #[.slice A1 st.refs.length c1, .slice A2 st.locks.length c2] 30)
  have x3 := Blk2s.new_ w2 30 (.slice A1 st.refs.length c1) (.slice A2 st.locks.length c2)
  have b3 := b2.trans (al.mono b2.size)
  have r1' := (r1.below al (Nat.le_refl _)).more al.size
  have r2' := (r2.below al (Nat.le_refl _)).more al.size
  obtain ⟨t0, t1, tf⟩ := id x2.reads
  obtain ⟨u0, u1, -⟩ := id x3.reads
  have tf0 := tf 0
  have tf1 := tf 1
  have hw : Hid (w.heap.size + 1 ≠ w2.heap.size) := by have := x1.lt; have := d2.size; show _ ≠ _; omega
  clear tf
  cases b' with
  | false =>
    have hs : s = ⟨[], []⟩ := by
      rcases HS.out with ⟨h3, -⟩ | ⟨-, -, h3⟩
      · cases h3
      · exact h3
    subst hs
    obtain ⟨p0, p1, -⟩ := ((x2.set0 (.slice none 0 0)).set1 (.slice none 0 0)).reads
    have b7 := (b3.setCell (p := ⟨w.heap.size + 1, 0, none⟩) (Nat.le_succ _) (.slice none 0 0)).setCell (p := ⟨w.heap.size + 1, 1, none⟩) (Nat.le_succ _) (.slice none 0 0)
    clear HE HR HS x0 x1 x2 x3 r1 r2 r1' r2' h1 y0
    go_wp2
    exact bodyPost_ret (v := .tuple #[.agg #[.slice none 0 0, .slice none 0 0], .bool false]) (by simp [results, Tryd.results20, go_sem, p0, p1]) rfl ⟨_, rfl, ⟨none, 0, none, 0, rfl, .inl rfl, Nat.le_refl _, .inl rfl, Nat.le_refl _⟩, b7⟩
  | true =>
    obtain rfl := HE rfl
    have F := hid HR.1
    clear HE HR HS
    clear t0 t1 tf0 tf1 u0 u1
    go_wp2_with fail
    obtain ⟨w3, hw3⟩ : ∃ w3, w2.alloc (.cells #[.slice A1 s.refs.length c1, .slice A2 s.locks.length c2] 30) = w3 := ⟨_, rfl⟩
    rw [hw3] at al x2 x3 b3 r1' r2' ⊢
    clear al hw3 d2 b2 r1 r2 x0 x1 y0 b0 h1
    have HKP : Hid (∀ x, Below w3.heap.size w3 x → x.cell? ⟨w2.heap.size, 0, none⟩ = some (.slice A1 s.refs.length c1) ∧ x.cell? ⟨w2.heap.size, 1, none⟩ = some (.slice A2 s.locks.length c2)) := fun x hx => ⟨(x3.later hx).reads.1, (x3.later hx).reads.2.1⟩
    have HRow : Hid ((∀ x, Below w3.heap.size w3 x → Row x w3.heap.size A1 (ints s.refs)) ∧ ∀ x, Below w3.heap.size w3 x → Row x w3.heap.size A2 (ints s.locks)) := ⟨fun x hx => r1'.below hx (Nat.le_refl _), fun x hx => r2'.below hx (Nat.le_refl _)⟩
    have HL1 := F.out.len.1
    have HL2 := F.out.len.2
    have zw3 : w.heap.size ≤ w3.heap.size := b3.size
    have Dwd := (Below.refl w3.heap.size w3).drew
    clear r1' r2'
    refine wp_region_held_drew (S := fun x => x.cell? ⟨w2.heap.size, 0, none⟩ = some (.slice A1 s.refs.length c1) ∧ x.cell? ⟨w2.heap.size, 1, none⟩ = some (.slice A2 s.locks.length c2)) (by kernel_rfl) (HKP.out _ Dwd) (fun hHeld => ?_)
    obtain ⟨wd, hwd⟩ : ∃ wd, w3.drew = wd := ⟨_, rfl⟩
    rw [hwd] at hHeld Dwd ⊢
    clear hwd
    refine wpAnyH_take (i := 1) (oi := _) (v := ?_) rfl (by kernel_rfl) (by kernel_rfl) (by kernel_rfl) (fun _ _ _ h => h) (Or.inl ⟨by rfl, ?_⟩) hHeld ?_
    rotate_left
    · (intro w' hSw; (try dsimp only at hSw); go_simp <;> with_reducible rfl)
    try simp only [Act.put, List.getElem_toArray, List.getElem_cons_succ, List.getElem_cons_zero, List.setIfInBounds_toArray, List.set_cons_zero, List.set_cons_succ]
    refine wpAnyH_take (i := 2) (oi := _) (v := ?_) rfl (by kernel_rfl) (by kernel_rfl) (by kernel_rfl) (fun _ _ _ h => h) (Or.inl ⟨by rfl, ?_⟩) hHeld ?_
    rotate_left
    · (intro w' hSw; (try dsimp only at hSw); go_simp <;> with_reducible rfl)
    try simp only [Act.put, List.getElem_toArray, List.getElem_cons_succ, List.getElem_cons_zero, List.setIfInBounds_toArray, List.set_cons_zero, List.set_cons_succ]
    refine wpAnyH_take (i := 5) (oi := _) (v := ?_) rfl (by kernel_rfl) (by kernel_rfl) (by kernel_rfl) (fun _ _ _ h => h) (Or.inl ⟨by rfl, ?_⟩) hHeld ?_
    rotate_left
    · (intro w' hSw; (try dsimp only at hSw); go_simp <;> with_reducible rfl)
    try simp only [Act.put, List.getElem_toArray, List.getElem_cons_succ, List.getElem_cons_zero, List.setIfInBounds_toArray, List.set_cons_zero, List.set_cons_succ]
    refine wpAnyH_take (i := 6) (oi := _) (v := ?_) rfl (by kernel_rfl) (by kernel_rfl) (by kernel_rfl) (fun _ _ _ h => h) (Or.inl ⟨by rfl, ?_⟩) hHeld ?_
    rotate_left
    · (intro w' hSw; (try dsimp only at hSw); go_simp <;> with_reducible rfl)
    try simp only [Act.put, List.getElem_toArray, List.getElem_cons_succ, List.getElem_cons_zero, List.setIfInBounds_toArray, List.set_cons_zero, List.set_cons_succ]
    refine wpAnyH_ready (rs := [0, 4]) (by kernel_rfl) (by simp) (AllReadyH.cons (o := _) rfl (fun K hK => ?_) (AllReadyH.cons (o := _) rfl (fun K hK => ?_) AllReadyH.nil))
    · skip
      try simp only [Act.put, List.getElem_toArray, List.getElem_cons_succ, List.getElem_cons_zero, List.setIfInBounds_toArray, List.set_cons_zero, List.set_cons_succ]
      go_simp
      have al9 := (Below.refl wd.heap.size wd).alloc (Nat.le_refl _) (.cells #[] 3)
      have D9 := Dwd.trans (al9.mono Dwd.size)
      have oa : OwnI _ w.heap.size (.slice (some ⟨wd.heap.size, 0, none⟩) 0 0) [] := OwnI.nil_new (w := wd) (Nat.le_trans zw3 Dwd.size)
      have na := heap_alloc_new wd (.cells #[] 3)
      obtain ⟨wa, hY⟩ : ∃ y, wd.alloc (.cells #[] 3) = y := ⟨_, rfl⟩
      have zwa : (wd.alloc (.cells #[] 3)).heap.size = wd.heap.size + 1 := World.size_alloc _ _
      rw [hY] at al9 D9 oa na zwa ⊢
      replace zwa := hid zwa
      have Dwa := D9
      refine hK.out _ _ (HKP.out _ D9) (fun hHeld => ?_)
      clear hK K
      try simp only [Act.put, List.getElem_toArray, List.getElem_cons_succ, List.getElem_cons_zero, List.setIfInBounds_toArray, List.set_cons_zero, List.set_cons_succ]
      clear hY D9
      refine wpAnyH_ready (rs := [3, 4]) (by kernel_rfl) (by simp) (AllReadyH.cons (o := _) rfl (fun K hK => ?_) (AllReadyH.cons (o := _) rfl (fun K hK => ?_) AllReadyH.nil))
      · skip
        try simp only [Act.put, List.getElem_toArray, List.getElem_cons_succ, List.getElem_cons_zero, List.setIfInBounds_toArray, List.set_cons_zero, List.set_cons_succ]
        rw [if_pos (by rfl)]
        refine op_append_row1 _ (by rfl) _ _ 28 (by rfl) w.heap.size 3 i0 (.int .i64 0) 1 8 Tryd.underlying28 hi hz0 hz1 hz2 rfl (by decide) (.slice (some ⟨wd.heap.size, 0, none⟩) 0 0) 0 [] (by rfl) oa w3.heap.size A1 _ c1 (ints s.refs) (by rfl) (HRow.out.1 _ Dwa) (by rw [ints_length]; omega) (by intro u hu; obtain ⟨x, _, rfl⟩ := List.mem_map.1 hu; rfl) (by unfold maxLen; omega) (by omega) (Nat.le_trans zw3 Dwa.size) ?_
        intro v9 wb hown hg
        have Dwb := Dwa.grown hg Dwa.size (fun j hj => by have hj : wd.heap.size = j := (by simpa [Value.ownBlock] using hj); have := Dwd.size; omega)
        have o9 : OwnI wb w.heap.size v9 (s.refs) := by
          rw [Nat.zero_add, List.nil_append] at hown
          unfold OwnI
          rw [HL1]
          exact hown
        have zg := hg.size
        obtain ⟨A5, c5, e9, pa, h5⟩ := o9.form
        rw [HL1] at e9
        subst e9
        refine hK.out _ _ (HKP.out _ Dwb) (fun hHeld => ?_)
        clear hK K
        try simp only [Act.put, List.getElem_toArray, List.getElem_cons_succ, List.getElem_cons_zero, List.setIfInBounds_toArray, List.set_cons_zero, List.set_cons_succ]
        clear hown hg o9 al9
        refine wpAnyH_ready (rs := [4]) (by kernel_rfl) (by simp) (AllReadyH.cons (o := _) rfl (fun K hK => ?_) AllReadyH.nil)
        try simp only [Act.put, List.getElem_toArray, List.getElem_cons_succ, List.getElem_cons_zero, List.setIfInBounds_toArray, List.set_cons_zero, List.set_cons_succ]
        go_simp
        have al9 := (Below.refl wb.heap.size wb).alloc (Nat.le_refl _) (.cells #[] 3)
        have D9 := Dwb.trans (al9.mono Dwb.size)
        have ob : OwnI _ w.heap.size (.slice (some ⟨wb.heap.size, 0, none⟩) 0 0) [] := OwnI.nil_new (w := wb) (Nat.le_trans zw3 Dwb.size)
        have nb := heap_alloc_new wb (.cells #[] 3)
        obtain ⟨wc, hY⟩ : ∃ y, wb.alloc (.cells #[] 3) = y := ⟨_, rfl⟩
        have zwc : (wb.alloc (.cells #[] 3)).heap.size = wb.heap.size + 1 := World.size_alloc _ _
        rw [hY] at al9 D9 ob nb zwc ⊢
        replace zwc := hid zwc
        have Dwc := D9
        refine hK.out _ _ (HKP.out _ D9) (fun hHeld => ?_)
        clear hK K
        try simp only [Act.put, List.getElem_toArray, List.getElem_cons_succ, List.getElem_cons_zero, List.setIfInBounds_toArray, List.set_cons_zero, List.set_cons_succ]
        clear hY D9
        replace pa := (pa.below al9 (Nat.le_refl _)).more al9.size
        clear al9
        refine wpAnyH_ready (rs := [7]) (by kernel_rfl) (by simp) (AllReadyH.cons (o := _) rfl (fun K hK => ?_) AllReadyH.nil)
        try simp only [Act.put, List.getElem_toArray, List.getElem_cons_succ, List.getElem_cons_zero, List.setIfInBounds_toArray, List.set_cons_zero, List.set_cons_succ]
        rw [if_pos (by rfl)]
        refine op_append_row1 _ (by rfl) _ _ 28 (by rfl) w.heap.size 3 i0 (.int .i64 0) 1 8 Tryd.underlying28 hi hz0 hz1 hz2 rfl (by decide) (.slice (some ⟨wb.heap.size, 0, none⟩) 0 0) 0 [] (by rfl) ob w3.heap.size A2 _ c2 (ints s.locks) (by rfl) (HRow.out.2 _ Dwc) (by rw [ints_length]; omega) (by intro u hu; obtain ⟨x, _, rfl⟩ := List.mem_map.1 hu; rfl) (by unfold maxLen; omega) (by omega) (Nat.le_trans zw3 Dwc.size) ?_
        intro v9 we hown hg
        have Dwe := Dwc.grown hg Dwc.size (fun j hj => by have hj : wb.heap.size = j := (by simpa [Value.ownBlock] using hj); have := Dwb.size; omega)
        have o9 : OwnI we w.heap.size v9 (s.locks) := by
          rw [Nat.zero_add, List.nil_append] at hown
          unfold OwnI
          rw [HL2]
          exact hown
        have zg := hg.size
        obtain ⟨A6, c6, e9, pb, h6⟩ := o9.form
        rw [HL2] at e9
        subst e9
        replace pa := row_far_nil pa nb hg
        refine hK.out _ _ (HKP.out _ Dwe) (fun hHeld => ?_)
        clear hK K
        try simp only [Act.put, List.getElem_toArray, List.getElem_cons_succ, List.getElem_cons_zero, List.setIfInBounds_toArray, List.set_cons_zero, List.set_cons_succ]
        refine wpAnyH_take (i := 8) (oi := _) (v := ?_) rfl (by kernel_rfl) (by kernel_rfl) (by kernel_rfl) (fun _ _ _ h => h) (Or.inl ⟨by rfl, ?_⟩) hHeld ?_
        rotate_left
        · (intro w' hSw; (try dsimp only at hSw); go_simp <;> with_reducible rfl)
        try simp only [Act.put, List.getElem_toArray, List.getElem_cons_succ, List.getElem_cons_zero, List.setIfInBounds_toArray, List.set_cons_zero, List.set_cons_succ]
        have y2 := x2.later Dwe
        obtain ⟨t0, t1, tf⟩ := id y2.reads
        have tf0 := tf 0
        have tf1 := tf 1
        clear tf
        refine wpAnyH_ready (rs := [9]) (by kernel_rfl) (by simp) (AllReadyH.cons (o := _) rfl (fun K hK => ?_) AllReadyH.nil)
        try simp only [Act.put, List.getElem_toArray, List.getElem_cons_succ, List.getElem_cons_zero, List.setIfInBounds_toArray, List.set_cons_zero, List.set_cons_succ]
        go_simp
        have y3 := ((x3.later Dwe).far (p := ⟨w.heap.size + 1, 0, none⟩) hw.out.symm (.slice A5 4 c5)).far (p := ⟨w.heap.size + 1, 1, none⟩) hw.out.symm (.slice A6 4 c6)
        refine hK.out _ _ ⟨y3.reads.1, y3.reads.2.1⟩ (fun hHeld => ?_)
        clear hK K
        try simp only [Act.put, List.getElem_toArray, List.getElem_cons_succ, List.getElem_cons_zero, List.setIfInBounds_toArray, List.set_cons_zero, List.set_cons_succ]
        refine wpAnyH_take (i := 10) (oi := _) (v := ?_) rfl (by kernel_rfl) (by kernel_rfl) (by kernel_rfl) (fun _ _ _ h => h) (Or.inl ⟨by rfl, ?_⟩) hHeld ?_
        rotate_left
        · (intro w' hSw; (try dsimp only at hSw); go_simp <;> with_reducible rfl)
        try simp only [Act.put, List.getElem_toArray, List.getElem_cons_succ, List.getElem_cons_zero, List.setIfInBounds_toArray, List.set_cons_zero, List.set_cons_succ]
        refine wpAnyH_done (by kernel_rfl) ?_ _
        obtain ⟨p0, p1, -⟩ := ((y2.set0 (.slice A5 4 c5)).set1 (.slice A6 4 c6)).reads
        have bwe := b3.trans (Dwe.mono zw3)
        have b7 := (bwe.setCell (p := ⟨w.heap.size + 1, 0, none⟩) (Nat.le_succ _) (.slice A5 4 c5)).setCell (p := ⟨w.heap.size + 1, 1, none⟩) (Nat.le_succ _) (.slice A6 4 c6)
        have S7 : Stt we we.heap.size (.agg #[.slice A5 4 c5, .slice A6 4 c6]) s := ⟨A5, c5, A6, c6, by rw [HL1, HL2]; rfl, pa, h5, pb, h6⟩
        have S8 := (S7.far y2 0 (.slice A5 4 c5)).far (y2.set0 (.slice A5 4 c5)) 1 (.slice A6 4 c6)
        clear hHeld t0 t1 tf0 tf1 S7 y3 HKP HRow
        go_wp2
        exact bodyPost_ret (v := .tuple #[.agg #[.slice A5 4 c5, .slice A6 4 c6], .bool true]) (by simp [results, Tryd.results20, go_sem, p0, p1]) rfl ⟨_, rfl, S8, b7⟩
      · skip
        try simp only [Act.put, List.getElem_toArray, List.getElem_cons_succ, List.getElem_cons_zero, List.setIfInBounds_toArray, List.set_cons_zero, List.set_cons_succ]
        clear al9
        go_simp
        have al9 := (Below.refl wa.heap.size wa).alloc (Nat.le_refl _) (.cells #[] 3)
        have D9 := Dwa.trans (al9.mono Dwa.size)
        have ob : OwnI _ w.heap.size (.slice (some ⟨wa.heap.size, 0, none⟩) 0 0) [] := OwnI.nil_new (w := wa) (Nat.le_trans zw3 Dwa.size)
        have nb := heap_alloc_new wa (.cells #[] 3)
        obtain ⟨wb, hY⟩ : ∃ y, wa.alloc (.cells #[] 3) = y := ⟨_, rfl⟩
        have zwb : (wa.alloc (.cells #[] 3)).heap.size = wa.heap.size + 1 := World.size_alloc _ _
        rw [hY] at al9 D9 ob nb zwb ⊢
        replace zwb := hid zwb
        have Dwb := D9
        refine hK.out _ _ (HKP.out _ D9) (fun hHeld => ?_)
        clear hK K
        try simp only [Act.put, List.getElem_toArray, List.getElem_cons_succ, List.getElem_cons_zero, List.setIfInBounds_toArray, List.set_cons_zero, List.set_cons_succ]
        clear hY D9
        replace oa := oa.below al9 (Nat.le_refl _)
        replace na := (al9.block _ (blk_lt na)).trans na
        clear al9
        refine wpAnyH_ready (rs := [3]) (by kernel_rfl) (by simp) (AllReadyH.cons (o := _) rfl (fun K hK => ?_) AllReadyH.nil)
        try simp only [Act.put, List.getElem_toArray, List.getElem_cons_succ, List.getElem_cons_zero, List.setIfInBounds_toArray, List.set_cons_zero, List.set_cons_succ]
        rw [if_pos (by rfl)]
        refine op_append_row1 _ (by rfl) _ _ 28 (by rfl) w.heap.size 3 i0 (.int .i64 0) 1 8 Tryd.underlying28 hi hz0 hz1 hz2 rfl (by decide) (.slice (some ⟨wd.heap.size, 0, none⟩) 0 0) 0 [] (by rfl) oa w3.heap.size A1 _ c1 (ints s.refs) (by rfl) (HRow.out.1 _ Dwb) (by rw [ints_length]; omega) (by intro u hu; obtain ⟨x, _, rfl⟩ := List.mem_map.1 hu; rfl) (by unfold maxLen; omega) (by omega) (Nat.le_trans zw3 Dwb.size) ?_
        intro v9 wc hown hg
        have Dwc := Dwb.grown hg Dwb.size (fun j hj => by have hj : wd.heap.size = j := (by simpa [Value.ownBlock] using hj); have := Dwd.size; omega)
        have o9 : OwnI wc w.heap.size v9 (s.refs) := by
          rw [Nat.zero_add, List.nil_append] at hown
          unfold OwnI
          rw [HL1]
          exact hown
        have zg := hg.size
        obtain ⟨A5, c5, e9, pa, h5⟩ := o9.form
        rw [HL1] at e9
        subst e9
        have ne9 : wa.heap.size ≠ wd.heap.size := by have := zwa.out; omega
        replace ob : OwnI wc w.heap.size (.slice (some ⟨wa.heap.size, 0, none⟩) 0 0) [] := World.ownsRow.kept ob hg (.inr fun e => by injection e with e; exact ne9 e)
        replace nb := (hg.block _ (blk_lt nb) (fun e => by injection e with e; exact ne9 e)).trans nb
        refine hK.out _ _ (HKP.out _ Dwc) (fun hHeld => ?_)
        clear hK K
        try simp only [Act.put, List.getElem_toArray, List.getElem_cons_succ, List.getElem_cons_zero, List.setIfInBounds_toArray, List.set_cons_zero, List.set_cons_succ]
        clear hown hg o9
        refine wpAnyH_ready (rs := [7]) (by kernel_rfl) (by simp) (AllReadyH.cons (o := _) rfl (fun K hK => ?_) AllReadyH.nil)
        try simp only [Act.put, List.getElem_toArray, List.getElem_cons_succ, List.getElem_cons_zero, List.setIfInBounds_toArray, List.set_cons_zero, List.set_cons_succ]
        rw [if_pos (by rfl)]
        refine op_append_row1 _ (by rfl) _ _ 28 (by rfl) w.heap.size 3 i0 (.int .i64 0) 1 8 Tryd.underlying28 hi hz0 hz1 hz2 rfl (by decide) (.slice (some ⟨wa.heap.size, 0, none⟩) 0 0) 0 [] (by rfl) ob w3.heap.size A2 _ c2 (ints s.locks) (by rfl) (HRow.out.2 _ Dwc) (by rw [ints_length]; omega) (by intro u hu; obtain ⟨x, _, rfl⟩ := List.mem_map.1 hu; rfl) (by unfold maxLen; omega) (by omega) (Nat.le_trans zw3 Dwc.size) ?_
        intro v9 we hown hg
        have Dwe := Dwc.grown hg Dwc.size (fun j hj => by have hj : wa.heap.size = j := (by simpa [Value.ownBlock] using hj); have := Dwa.size; omega)
        have o9 : OwnI we w.heap.size v9 (s.locks) := by
          rw [Nat.zero_add, List.nil_append] at hown
          unfold OwnI
          rw [HL2]
          exact hown
        have zg := hg.size
        obtain ⟨A6, c6, e9, pb, h6⟩ := o9.form
        rw [HL2] at e9
        subst e9
        replace pa := row_far_nil pa nb hg
        refine hK.out _ _ (HKP.out _ Dwe) (fun hHeld => ?_)
        clear hK K
        try simp only [Act.put, List.getElem_toArray, List.getElem_cons_succ, List.getElem_cons_zero, List.setIfInBounds_toArray, List.set_cons_zero, List.set_cons_succ]
        refine wpAnyH_take (i := 8) (oi := _) (v := ?_) rfl (by kernel_rfl) (by kernel_rfl) (by kernel_rfl) (fun _ _ _ h => h) (Or.inl ⟨by rfl, ?_⟩) hHeld ?_
        rotate_left
        · (intro w' hSw; (try dsimp only at hSw); go_simp <;> with_reducible rfl)
        try simp only [Act.put, List.getElem_toArray, List.getElem_cons_succ, List.getElem_cons_zero, List.setIfInBounds_toArray, List.set_cons_zero, List.set_cons_succ]
        have y2 := x2.later Dwe
        obtain ⟨t0, t1, tf⟩ := id y2.reads
        have tf0 := tf 0
        have tf1 := tf 1
        clear tf
        refine wpAnyH_ready (rs := [9]) (by kernel_rfl) (by simp) (AllReadyH.cons (o := _) rfl (fun K hK => ?_) AllReadyH.nil)
        try simp only [Act.put, List.getElem_toArray, List.getElem_cons_succ, List.getElem_cons_zero, List.setIfInBounds_toArray, List.set_cons_zero, List.set_cons_succ]
        go_simp
        have y3 := ((x3.later Dwe).far (p := ⟨w.heap.size + 1, 0, none⟩) hw.out.symm (.slice A5 4 c5)).far (p := ⟨w.heap.size + 1, 1, none⟩) hw.out.symm (.slice A6 4 c6)
        refine hK.out _ _ ⟨y3.reads.1, y3.reads.2.1⟩ (fun hHeld => ?_)
        clear hK K
        try simp only [Act.put, List.getElem_toArray, List.getElem_cons_succ, List.getElem_cons_zero, List.setIfInBounds_toArray, List.set_cons_zero, List.set_cons_succ]
        refine wpAnyH_take (i := 10) (oi := _) (v := ?_) rfl (by kernel_rfl) (by kernel_rfl) (by kernel_rfl) (fun _ _ _ h => h) (Or.inl ⟨by rfl, ?_⟩) hHeld ?_
        rotate_left
        · (intro w' hSw; (try dsimp only at hSw); go_simp <;> with_reducible rfl)
        try simp only [Act.put, List.getElem_toArray, List.getElem_cons_succ, List.getElem_cons_zero, List.setIfInBounds_toArray, List.set_cons_zero, List.set_cons_succ]
        refine wpAnyH_done (by kernel_rfl) ?_ _
        obtain ⟨p0, p1, -⟩ := ((y2.set0 (.slice A5 4 c5)).set1 (.slice A6 4 c6)).reads
        have bwe := b3.trans (Dwe.mono zw3)
        have b7 := (bwe.setCell (p := ⟨w.heap.size + 1, 0, none⟩) (Nat.le_succ _) (.slice A5 4 c5)).setCell (p := ⟨w.heap.size + 1, 1, none⟩) (Nat.le_succ _) (.slice A6 4 c6)
        have S7 : Stt we we.heap.size (.agg #[.slice A5 4 c5, .slice A6 4 c6]) s := ⟨A5, c5, A6, c6, by rw [HL1, HL2]; rfl, pa, h5, pb, h6⟩
        have S8 := (S7.far y2 0 (.slice A5 4 c5)).far (y2.set0 (.slice A5 4 c5)) 1 (.slice A6 4 c6)
        clear hHeld t0 t1 tf0 tf1 S7 y3 HKP HRow
        go_wp2
        exact bodyPost_ret (v := .tuple #[.agg #[.slice A5 4 c5, .slice A6 4 c6], .bool true]) (by simp [results, Tryd.results20, go_sem, p0, p1]) rfl ⟨_, rfl, S8, b7⟩
    · skip
      try simp only [Act.put, List.getElem_toArray, List.getElem_cons_succ, List.getElem_cons_zero, List.setIfInBounds_toArray, List.set_cons_zero, List.set_cons_succ]
      go_simp
      have al9 := (Below.refl wd.heap.size wd).alloc (Nat.le_refl _) (.cells #[] 3)
      have D9 := Dwd.trans (al9.mono Dwd.size)
      have ob : OwnI _ w.heap.size (.slice (some ⟨wd.heap.size, 0, none⟩) 0 0) [] := OwnI.nil_new (w := wd) (Nat.le_trans zw3 Dwd.size)
      have nb := heap_alloc_new wd (.cells #[] 3)
      obtain ⟨wa, hY⟩ : ∃ y, wd.alloc (.cells #[] 3) = y := ⟨_, rfl⟩
      have zwa : (wd.alloc (.cells #[] 3)).heap.size = wd.heap.size + 1 := World.size_alloc _ _
      rw [hY] at al9 D9 ob nb zwa ⊢
      replace zwa := hid zwa
      have Dwa := D9
      refine hK.out _ _ (HKP.out _ D9) (fun hHeld => ?_)
      clear hK K
      try simp only [Act.put, List.getElem_toArray, List.getElem_cons_succ, List.getElem_cons_zero, List.setIfInBounds_toArray, List.set_cons_zero, List.set_cons_succ]
      clear hY D9
      clear al9
      refine wpAnyH_ready (rs := [0]) (by kernel_rfl) (by simp) (AllReadyH.cons (o := _) rfl (fun K hK => ?_) AllReadyH.nil)
      try simp only [Act.put, List.getElem_toArray, List.getElem_cons_succ, List.getElem_cons_zero, List.setIfInBounds_toArray, List.set_cons_zero, List.set_cons_succ]
      go_simp
      have al9 := (Below.refl wa.heap.size wa).alloc (Nat.le_refl _) (.cells #[] 3)
      have D9 := Dwa.trans (al9.mono Dwa.size)
      have oa : OwnI _ w.heap.size (.slice (some ⟨wa.heap.size, 0, none⟩) 0 0) [] := OwnI.nil_new (w := wa) (Nat.le_trans zw3 Dwa.size)
      have na := heap_alloc_new wa (.cells #[] 3)
      obtain ⟨wb, hY⟩ : ∃ y, wa.alloc (.cells #[] 3) = y := ⟨_, rfl⟩
      have zwb : (wa.alloc (.cells #[] 3)).heap.size = wa.heap.size + 1 := World.size_alloc _ _
      rw [hY] at al9 D9 oa na zwb ⊢
      replace zwb := hid zwb
      have Dwb := D9
      refine hK.out _ _ (HKP.out _ D9) (fun hHeld => ?_)
      clear hK K
      try simp only [Act.put, List.getElem_toArray, List.getElem_cons_succ, List.getElem_cons_zero, List.setIfInBounds_toArray, List.set_cons_zero, List.set_cons_succ]
      clear hY D9
      replace ob := ob.below al9 (Nat.le_refl _)
      replace nb := (al9.block _ (blk_lt nb)).trans nb
      clear al9
      refine wpAnyH_ready (rs := [3]) (by kernel_rfl) (by simp) (AllReadyH.cons (o := _) rfl (fun K hK => ?_) AllReadyH.nil)
      try simp only [Act.put, List.getElem_toArray, List.getElem_cons_succ, List.getElem_cons_zero, List.setIfInBounds_toArray, List.set_cons_zero, List.set_cons_succ]
      rw [if_pos (by rfl)]
      refine op_append_row1 _ (by rfl) _ _ 28 (by rfl) w.heap.size 3 i0 (.int .i64 0) 1 8 Tryd.underlying28 hi hz0 hz1 hz2 rfl (by decide) (.slice (some ⟨wa.heap.size, 0, none⟩) 0 0) 0 [] (by rfl) oa w3.heap.size A1 _ c1 (ints s.refs) (by rfl) (HRow.out.1 _ Dwb) (by rw [ints_length]; omega) (by intro u hu; obtain ⟨x, _, rfl⟩ := List.mem_map.1 hu; rfl) (by unfold maxLen; omega) (by omega) (Nat.le_trans zw3 Dwb.size) ?_
      intro v9 wc hown hg
      have Dwc := Dwb.grown hg Dwb.size (fun j hj => by have hj : wa.heap.size = j := (by simpa [Value.ownBlock] using hj); have := Dwa.size; omega)
      have o9 : OwnI wc w.heap.size v9 (s.refs) := by
        rw [Nat.zero_add, List.nil_append] at hown
        unfold OwnI
        rw [HL1]
        exact hown
      have zg := hg.size
      obtain ⟨A5, c5, e9, pa, h5⟩ := o9.form
      rw [HL1] at e9
      subst e9
      have ne9 : wd.heap.size ≠ wa.heap.size := by have := zwa.out; omega
      replace ob : OwnI wc w.heap.size (.slice (some ⟨wd.heap.size, 0, none⟩) 0 0) [] := World.ownsRow.kept ob hg (.inr fun e => by injection e with e; exact ne9 e)
      replace nb := (hg.block _ (blk_lt nb) (fun e => by injection e with e; exact ne9 e)).trans nb
      refine hK.out _ _ (HKP.out _ Dwc) (fun hHeld => ?_)
      clear hK K
      try simp only [Act.put, List.getElem_toArray, List.getElem_cons_succ, List.getElem_cons_zero, List.setIfInBounds_toArray, List.set_cons_zero, List.set_cons_succ]
      clear hown hg o9
      refine wpAnyH_ready (rs := [7]) (by kernel_rfl) (by simp) (AllReadyH.cons (o := _) rfl (fun K hK => ?_) AllReadyH.nil)
      try simp only [Act.put, List.getElem_toArray, List.getElem_cons_succ, List.getElem_cons_zero, List.setIfInBounds_toArray, List.set_cons_zero, List.set_cons_succ]
      rw [if_pos (by rfl)]
      refine op_append_row1 _ (by rfl) _ _ 28 (by rfl) w.heap.size 3 i0 (.int .i64 0) 1 8 Tryd.underlying28 hi hz0 hz1 hz2 rfl (by decide) (.slice (some ⟨wd.heap.size, 0, none⟩) 0 0) 0 [] (by rfl) ob w3.heap.size A2 _ c2 (ints s.locks) (by rfl) (HRow.out.2 _ Dwc) (by rw [ints_length]; omega) (by intro u hu; obtain ⟨x, _, rfl⟩ := List.mem_map.1 hu; rfl) (by unfold maxLen; omega) (by omega) (Nat.le_trans zw3 Dwc.size) ?_
      intro v9 we hown hg
      have Dwe := Dwc.grown hg Dwc.size (fun j hj => by have hj : wd.heap.size = j := (by simpa [Value.ownBlock] using hj); have := Dwd.size; omega)
      have o9 : OwnI we w.heap.size v9 (s.locks) := by
        rw [Nat.zero_add, List.nil_append] at hown
        unfold OwnI
        rw [HL2]
        exact hown
      have zg := hg.size
      obtain ⟨A6, c6, e9, pb, h6⟩ := o9.form
      rw [HL2] at e9
      subst e9
      replace pa := row_far_nil pa nb hg
      refine hK.out _ _ (HKP.out _ Dwe) (fun hHeld => ?_)
      clear hK K
      try simp only [Act.put, List.getElem_toArray, List.getElem_cons_succ, List.getElem_cons_zero, List.setIfInBounds_toArray, List.set_cons_zero, List.set_cons_succ]
      refine wpAnyH_take (i := 8) (oi := _) (v := ?_) rfl (by kernel_rfl) (by kernel_rfl) (by kernel_rfl) (fun _ _ _ h => h) (Or.inl ⟨by rfl, ?_⟩) hHeld ?_
      rotate_left
      · (intro w' hSw; (try dsimp only at hSw); go_simp <;> with_reducible rfl)
      try simp only [Act.put, List.getElem_toArray, List.getElem_cons_succ, List.getElem_cons_zero, List.setIfInBounds_toArray, List.set_cons_zero, List.set_cons_succ]
      have y2 := x2.later Dwe
      obtain ⟨t0, t1, tf⟩ := id y2.reads
      have tf0 := tf 0
      have tf1 := tf 1
      clear tf
      refine wpAnyH_ready (rs := [9]) (by kernel_rfl) (by simp) (AllReadyH.cons (o := _) rfl (fun K hK => ?_) AllReadyH.nil)
      try simp only [Act.put, List.getElem_toArray, List.getElem_cons_succ, List.getElem_cons_zero, List.setIfInBounds_toArray, List.set_cons_zero, List.set_cons_succ]
      go_simp
      have y3 := ((x3.later Dwe).far (p := ⟨w.heap.size + 1, 0, none⟩) hw.out.symm (.slice A5 4 c5)).far (p := ⟨w.heap.size + 1, 1, none⟩) hw.out.symm (.slice A6 4 c6)
      refine hK.out _ _ ⟨y3.reads.1, y3.reads.2.1⟩ (fun hHeld => ?_)
      clear hK K
      try simp only [Act.put, List.getElem_toArray, List.getElem_cons_succ, List.getElem_cons_zero, List.setIfInBounds_toArray, List.set_cons_zero, List.set_cons_succ]
      refine wpAnyH_take (i := 10) (oi := _) (v := ?_) rfl (by kernel_rfl) (by kernel_rfl) (by kernel_rfl) (fun _ _ _ h => h) (Or.inl ⟨by rfl, ?_⟩) hHeld ?_
      rotate_left
      · (intro w' hSw; (try dsimp only at hSw); go_simp <;> with_reducible rfl)
      try simp only [Act.put, List.getElem_toArray, List.getElem_cons_succ, List.getElem_cons_zero, List.setIfInBounds_toArray, List.set_cons_zero, List.set_cons_succ]
      refine wpAnyH_done (by kernel_rfl) ?_ _
      obtain ⟨p0, p1, -⟩ := ((y2.set0 (.slice A5 4 c5)).set1 (.slice A6 4 c6)).reads
      have bwe := b3.trans (Dwe.mono zw3)
      have b7 := (bwe.setCell (p := ⟨w.heap.size + 1, 0, none⟩) (Nat.le_succ _) (.slice A5 4 c5)).setCell (p := ⟨w.heap.size + 1, 1, none⟩) (Nat.le_succ _) (.slice A6 4 c6)
      have S7 : Stt we we.heap.size (.agg #[.slice A5 4 c5, .slice A6 4 c6]) s := ⟨A5, c5, A6, c6, by rw [HL1, HL2]; rfl, pa, h5, pb, h6⟩
      have S8 := (S7.far y2 0 (.slice A5 4 c5)).far (y2.set0 (.slice A5 4 c5)) 1 (.slice A6 4 c6)
      clear hHeld t0 t1 tf0 tf1 S7 y3 HKP HRow
      go_wp2
      exact bodyPost_ret (v := .tuple #[.agg #[.slice A5 4 c5, .slice A6 4 c6], .bool true]) (by simp [results, Tryd.results20, go_sem, p0, p1]) rfl ⟨_, rfl, S8, b7⟩
end Go.Proofs.YthmnaljncapmeabDoor
namespace Go.Proofs.YthmnaljncapmeabDoor
open Go.RowKit Wo Pu Rf Lk Sh

/-- Behind it: a ledger, and whether the shard is valid; then it is the ledger of all its records. -/
def ReadO (rs : List Rec) (b : Bool) (w : World) (e : Ending) (w' : World) : Prop := ∃ X, e = .returned (.tuple #[.agg X.toArray, .bool b]) ∧ Led X ∧ (b = true → ∃ s, Rcv rs s ∧ LdV w' w.heap.size X rs s) ∧ Below w.heap.size w w'
theorem step_right {rs : List Rec} {s x : St} {r : Rec} (ht : TV r.t) (h : Step rs s r x) : RightR r := by
  refine ⟨ht, ?_⟩
  cases h with
  | prepare h1 _ h3 _ _ => exact .inl ⟨h1, h3⟩
  | commit h1 _ h3 => exact .inr (.inl ⟨h1, by rw [h3]; rfl⟩)
  | abort h1 _ h3 => exact .inr (.inr ⟨h1, by rw [h3]; rfl⟩)
theorem Led.row {w : World} {g : Nat} {cs ys : List Value} (h : Arr4 w g 75 cs) : Arr4 (w.setRow g ys.toArray) g 75 ys := h.setRow ys
theorem Blk1.row {w : World} {g R : Nat} {t : TypeId} {v : Value} (h : Blk1 w g t v) (hR : g ≠ R) (cs : Array Value) : Blk1 (w.setRow R cs) g t v := (setRow_other w R g cs hR).trans h
/-- What the loop holds: the shard's box, the result's, the ledger's in block g. -/
def RdL (w : World) (g : Nat) (A : Option Addr) (n c : Nat) (cs : List Value) (rs : List Rec) (s : St) (wr : World) : Prop :=
  Blk1 wr w.heap.size 25 (.slice A n c) ∧ Arr4 wr (w.heap.size + 1) 75 led0 ∧ Arr4 wr g 75 cs ∧ w.heap.size + 1 < g ∧ LdV wr w.heap.size cs rs s ∧ Below w.heap.size w wr
section
variable {w wr w' : World} {g n c : Nat} {A : Option Addr} {cs : List Value} {rs : List Rec} {s : St}
theorem RdL.later (h : RdL w g A n c cs rs s wr) (hb : Below wr.heap.size wr w') : RdL w g A n c cs rs s w' := by
  obtain ⟨h1, h2, h3, h4, h5, h6⟩ := h
  exact ⟨h1.later hb, h2.below hb h2.lt, h3.below hb h3.lt, h4, h5.below h6.size hb, h6.trans (hb.mono h6.size)⟩
theorem RdL.row {R : Nat} {cur : Array Value} (h : RdL w g A n c cs rs s wr) (hx : wr.heap[R]? = some (.cells cur 75 (0, 0))) (h1 : w.heap.size + 1 < R) (h2 : R ≠ g) (ys : List Value) : RdL w g A n c cs rs s (wr.setRow R ys.toArray) := by
  obtain ⟨k1, k2, k3, k4, k5, k6⟩ := h
  exact ⟨k1.row (by omega) _, k2.farRow (by omega) _, k3.farRow (fun e => h2 e.symm) _, k4, k5.but k6.size (but_setRow wr R _) (by omega) hx (by decide), below_setRow k6 (by omega) _⟩
/-- The ledger is another one. -/
theorem RdL.next {X : List Value} {rs' : List Rec} {s' : St} (h : RdL w g A n c cs rs s wr) (hv : LdV wr w.heap.size X rs' s') : RdL w g A n c X rs' s' (wr.setRow g X.toArray) := by
  obtain ⟨k1, k2, k3, k4, k5, k6⟩ := h
  exact ⟨k1.row (by omega) _, k2.farRow (by omega) _, k3.setRow X, k4, hv.but k6.size (but_setRow wr g _) (by omega) k3 (by decide), below_setRow k6 (by omega) _⟩
end
/- The zero ledger is the answer, in the world WW. -/
set_option maxRecDepth 100000 in
set_option maxHeartbeats 16000000 in
theorem readShard_is (b : Bool) (v : Value) (rs : List Rec) (w : World) (er0 er1 : Addr) (h : Shd w w.heap.size v rs) (hE : Errs er0 er1 w) (hf : FitR rs) (hb : b = true ↔ Vld rs) :
    Calls Tryd.prog 52 #[v] w (ReadO rs b w) := by
  obtain ⟨A, c, rfl, h0, hc⟩ := h
  unfold shV
  have HB := hid hb
  have HE := hid hE
  clear hb hE
  have x0 := (Blk1.new_ w 25 (.slice A rs.length c)).alloc (.cells led0.toArray 75)
  have a1 := Arr4.new_ (w.alloc (.cells #[.slice A rs.length c] 25)) 75 led0
  have b1 := ((Below.refl w.heap.size w).alloc (Nat.le_refl _) (.cells #[.slice A rs.length c] 25)).alloc (by simp) (.cells led0.toArray 75)
  rw [World.size_alloc] at a1
  go_enter Tryd.func52, Tryd.ntmps52
  go_upto_region 1 with fail
  obtain ⟨W, hW⟩ : ∃ x, (w.alloc (.cells #[.slice A rs.length c] 25)).alloc (.cells led0.toArray 75) = x := ⟨_, rfl⟩
  change Code.wp _ _ _ _ ((w.alloc (.cells #[.slice A rs.length c] 25)).alloc (.cells led0.toArray 75))
  rw [hW] at x0 a1 b1 ⊢
  clear hW
  obtain ⟨y0, -⟩ := id x0.reads
  by_cases h30 : 30 < rs.length
  · have e0 : decide (30 < (rs.length : Int)) = true := decide_eq_true (by omega)
    have e1 : decide (30 < rs.length) = true := decide_eq_true h30
    have F : Hid (b = false) := by
      show b = false
      rw [← Bool.not_eq_true]
      exact fun e => by have := (HB.out.1 e).2; omega
    have s1 := a1
    have b4 := b1
    clear h30 a1 b1
    have hs : (W).heap[w.heap.size + 1]? = some (.cells led0.toArray 75 (0, 0)) := s1
    go_wp2_with (refine wpList_store_rowTo rfl 75 _ _ rfl rfl (w.heap.size + 1) led0.toArray rfl rfl 75 led0.toArray hs led0_led.info rfl led0_led.2 ?_)
    have h2 := setRow_heap _ _ _ led0.toArray _ _ hs
    have b9 := below_setRow b4 (Nat.le_succ _) led0.toArray
    rw [F.out]
    refine bodyPost_ret (v := .tuple #[.agg led0.toArray, .bool false]) (results_row_slot (p := 2) (s := 3) (by kernel_rfl) _ _ (w.heap.size + 1) 75 _ (0, 0) _ _ rfl rfl h2 Tryd.underlying75 led0_led.info) rfl ⟨led0, rfl, led0_led, (fun e => by cases e), b9⟩
  · have e0 : decide (30 < (rs.length : Int)) = false := decide_eq_false (by omega)
    have e1 : decide (30 < rs.length) = false := decide_eq_false h30
    have H30 : Hid (rs.length ≤ 30) := by show _ ≤ _; omega
    clear h30
    go_wp2_with fail
    refine (newLedger_is W).mono ?_
    rintro e w2 ⟨cs0, rfl, l0, d2⟩
    have b2 := b1.trans (d2.mono b1.size)
    have x2 := x0.later d2
    have a2 := a1.below d2 a1.lt
    have l2 := l0.base (B' := w.heap.size) b1.size
    have hL0 := hid (l2.led rfl)
    clear x0 a1 b1 d2 l0 y0
    have al := (Below.refl w2.heap.size w2).alloc (Nat.le_refl _) (.cells led0.toArray 75)
    have hg := heap_alloc_new w2 (.cells led0.toArray 75)
    have a3 : Arr4 (w2.alloc (.cells led0.toArray 75)) w2.heap.size 75 led0 := hg
    have zg : w.heap.size + 1 < w2.heap.size := a2.lt
    have S0 : RdL w w2.heap.size A rs.length c cs0 [] ⟨[-1, -1, -1, -1], [-1, -1, -1, -1]⟩ ((w2.alloc (.cells led0.toArray 75)).setRow w2.heap.size cs0.toArray) :=
      ⟨(x2.later al).row (by omega) _, (a2.below al a2.lt).farRow (by omega) _, a3.setRow cs0, zg, (l2.below b2.size al).but (by have := al.size; have := b2.size; omega) (but_setRow _ w2.heap.size cs0.toArray) b2.size hg (by decide), below_setRow (b2.trans (al.mono b2.size)) b2.size cs0.toArray⟩
    clear x2 a2 l2 b2 al a3 zg
    go_upto_region 4 with (refine wpList_store_rowTo rfl 75 _ _ rfl rfl w2.heap.size cs0.toArray rfl rfl 75 led0.toArray hg hL0.out.info (led0_led.size.trans hL0.out.size.symm) hL0.out.2 ?_)
    change Code.wp _ _ _ _ ((w2.alloc (.cells led0.toArray 75)).setRow w2.heap.size cs0.toArray)
    obtain ⟨w3, hw3⟩ : ∃ x, (w2.alloc (.cells led0.toArray 75)).setRow w2.heap.size cs0.toArray = x := ⟨_, rfl⟩
    rw [hw3] at S0 ⊢
    clear hw3 hg
    obtain ⟨g, hgg⟩ : ∃ g, w2.heap.size = g := ⟨_, rfl⟩
    rw [hgg] at S0 ⊢
    clear hgg hL0
    obtain ⟨y0, -⟩ := id S0.1.reads
    go_wp2_with fail
    go_loopw [20] (fun i wr => ∃ (k : Nat) (cs : List Value) (s : St), k ≤ rs.length ∧ i = .int .i64 k ∧ RdL w g A rs.length c cs (rs.take k) s wr ∧ Hid (Rcv (rs.take k) s)) (fun i _ => rs.length - (intOf i).toNat)
    case atStart => exact ⟨0, _, _, Nat.zero_le _, rfl, S0, .nil⟩
    case round =>
      obtain ⟨k, cs, s, hk, rfl, S, HR⟩ := hrel
      clear S0 y0
      have hbw := S.2.2.2.2.2
      have hz := hbw.size
      obtain ⟨y0, -⟩ := id S.1.reads
      by_cases hlt : k < rs.length
      · obtain ⟨r, ad, A', c', ho, rfl, ha, g0, g1, g2, g3, g4⟩ := (h0.below hbw (Nat.le_refl _)).rec hlt
        have q0 : (0 : Int) ≤ (k : Int) := by omega
        have q1 : (k : Int) < (rs.length : Int) := by omega
        have hf1 := hf.1
        have hT : Hid (rs.take (k + 1) = rs.take k ++ [r]) := by
          show _ = _
          rw [List.take_succ_eq_append_getElem hlt, ho]
        have hr1 := hf.2 r (by rw [← ho]; exact List.getElem_mem hlt)
        have hf2 : Hid (∀ x ∈ rs.take k, x.us.length ≤ 1048576) := fun x hx => hf.2 x (List.mem_of_mem_take hx)
        obtain ⟨vr, hvr⟩ := bool_ofP (RightR r)
        obtain ⟨b', s', hst⟩ := step_ex (rs.take k) s r
        have HNO : Hid ((vr = false ∨ b' = false) → b = false) := fun e => by
          rw [← Bool.not_eq_true]
          intro eb
          refine rcv_bad hlt HR.out ?_ (HB.out.1 eb)
          rw [ho]
          rintro ⟨ht, x, hx⟩
          rcases e with e | e
          · rw [hvr.2 (step_right ht hx)] at e; cases e
          · rw [(hst.yes hx).1] at e; cases e
        have HYES : Hid (vr = true → b' = true → Rcv (rs.take (k + 1)) s') := fun e1 e2 => by
          rcases hst with ⟨-, h⟩ | ⟨h, -⟩
          · exact rcv_next hlt HR.out (by rw [ho]; exact (hvr.1 e1).1) (by rw [ho]; exact h)
          · rw [h] at e2; cases e2
        have HI := hid HR.out.inv
        have CEN : Hid (∀ x, Below wr.heap.size wr x → Calls Tryd.prog 78 #[.agg #[.int .i64 r.k, .int .i64 r.t, .slice A' r.us.length c']] x (EntO A' c' r vr x)) := fun x hx => entry_is vr A' c' r x ((g4.below hx hz).more (Nat.le_trans hz hx.size)) (by omega) hvr
        have CF : Hid (vr = true → ∀ x, Below wr.heap.size wr x → Calls Tryd.prog 79 #[.agg cs.toArray, entV A' c' r] x (FolO w.heap.size (rs.take k) r s' b' x)) := fun e x hx =>
          followed_is b' s' w.heap.size cs (rs.take k) s A' c' r x er0 er1 (Nat.le_trans hz hx.size) (S.2.2.2.2.1.below hz hx) HI.out (hvr.1 e) (g4.below hx hz) hr1 hf2.out (HE.out.below (hbw.trans (hx.mono hz))) hst
        have x3 := Blk3s.new_ wr 42 (.int .i64 r.k) (.int .i64 r.t) (.slice A' r.us.length c')
        have al := (Below.refl wr.heap.size wr).alloc (Nat.le_refl _) (.cells #[.int .i64 r.k, .int .i64 r.t, .slice A' r.us.length c'] 42)
        have hLc := hid (S.2.2.2.2.1.led HI.out.refs.1)
        clear hst hvr ho HR hf2
        go_upto_region 7 with fail
        obtain ⟨w3, hw3⟩ : ∃ x, wr.alloc (.cells #[.int .i64 r.k, .int .i64 r.t, .slice A' r.us.length c'] 42) = x := ⟨_, rfl⟩
        rw [hw3] at x3 al ⊢
        clear hw3 g0 g1 g2 y0
        obtain ⟨e0, e1, e2, -⟩ := id x3.reads
        go_wp2_with fail
        refine (CEN.out _ al).mono ?_
        rintro e w4 ⟨rfl, d4⟩
        have bb4 := al.trans (d4.mono al.size)
        have S4 := S.later bb4
        clear e0 e1 e2 x3 al d4 CEN S
        cases vr with
        | false =>
          have F := hid (HNO.out (.inl rfl))
          have s1 := S4.2.1
          have b4 := S4.2.2.2.2.2
          clear bb4 S4 HNO HYES CF g3 g4
          have hs : (w4).heap[w.heap.size + 1]? = some (.cells led0.toArray 75 (0, 0)) := s1
          go_wp2_with (refine wpList_store_rowTo rfl 75 _ _ rfl rfl (w.heap.size + 1) led0.toArray rfl rfl 75 led0.toArray hs led0_led.info rfl led0_led.2 ?_)
          have h2 := setRow_heap _ _ _ led0.toArray _ _ hs
          have b9 := below_setRow b4 (Nat.le_succ _) led0.toArray
          rw [F.out]
          refine bodyPost_ret (v := .tuple #[.agg led0.toArray, .bool false]) (results_row_slot (p := 2) (s := 3) (by kernel_rfl) _ _ (w.heap.size + 1) 75 _ (0, 0) _ _ rfl rfl h2 Tryd.underlying75 led0_led.info) rfl ⟨led0, rfl, led0_led, (fun e => by cases e), b9⟩
        | true =>
          rw [if_pos rfl]
          have CF4 := hid (CF.out rfl _ bb4)
          have hld : w4.heap[g]? = some (.cells cs.toArray 75 (0, 0)) := S4.2.2.1
          clear CF bb4 g3 g4
          go_wp2_with (refine wpList_load_row rfl 75 _ rfl g rfl 75 cs.toArray (0, 0) _ hld Tryd.underlying75 rfl hLc.out.info ?_)
          refine CF4.out.mono ?_
          rintro e w5 ⟨X, rfl, hX, hv5, d5⟩
          have HX := hid hX
          have S5 := S4.later d5
          have al := (Below.refl w5.heap.size w5).alloc (Nat.le_refl _) (.cells led0.toArray 75)
          have hg := heap_alloc_new w5 (.cells led0.toArray 75)
          have S6 := (S5.later al).row hg (by have := S5.2.1.lt; omega) (by have := S5.2.2.1.lt; omega) X
          have z5 := S5.2.2.2.2.2.size
          have hv6 : Hid (b' = true → LdV ((w5.alloc (.cells led0.toArray 75)).setRow w5.heap.size X.toArray) w.heap.size X (rs.take k ++ [r]) s') := fun e => ((hv5 e).below z5 al).but (Nat.le_trans z5 al.size) (but_setRow _ w5.heap.size X.toArray) z5 hg (by decide)
          have hX6 : ((w5.alloc (.cells led0.toArray 75)).setRow w5.heap.size X.toArray).heap[w5.heap.size]? = some (.cells X.toArray 75 (0, 0)) := setRow_heap _ _ _ X.toArray _ _ hg
          clear S4 S5 hv5 d5 hld CF4 hX al
          go_upto_region 11 with (refine wpList_store_rowTo rfl 75 _ _ rfl rfl w5.heap.size X.toArray rfl rfl 75 led0.toArray hg HX.out.info (led0_led.size.trans HX.out.size.symm) HX.out.2 ?_)
          change Code.wp _ _ _ _ ((w5.alloc (.cells led0.toArray 75)).setRow w5.heap.size X.toArray)
          obtain ⟨g5, hg5⟩ : ∃ g5, w5.heap.size = g5 := ⟨_, rfl⟩
          obtain ⟨w6, hw6⟩ : ∃ x, (w5.alloc (.cells led0.toArray 75)).setRow w5.heap.size X.toArray = x := ⟨_, rfl⟩
          rw [hw6] at S6 hv6 hX6 ⊢
          rw [hg5] at hX6 ⊢
          clear hw6 hg hg5 z5
          cases b' with
          | false =>
            have F := hid (HNO.out (.inr rfl))
            have s1 := S6.2.1
            have b4 := S6.2.2.2.2.2
            clear S6 HNO HYES hv6 hX6
            have hs : (w6).heap[w.heap.size + 1]? = some (.cells led0.toArray 75 (0, 0)) := s1
            go_wp2_with (refine wpList_store_rowTo rfl 75 _ _ rfl rfl (w.heap.size + 1) led0.toArray rfl rfl 75 led0.toArray hs led0_led.info rfl led0_led.2 ?_)
            have h2 := setRow_heap _ _ _ led0.toArray _ _ hs
            have b9 := below_setRow b4 (Nat.le_succ _) led0.toArray
            rw [F.out]
            refine bodyPost_ret (v := .tuple #[.agg led0.toArray, .bool false]) (results_row_slot (p := 2) (s := 3) (by kernel_rfl) _ _ (w.heap.size + 1) 75 _ (0, 0) _ _ rfl rfl h2 Tryd.underlying75 led0_led.info) rfl ⟨led0, rfl, led0_led, (fun e => by cases e), b9⟩
          | true =>
            have hv7 := hv6.out rfl
            rw [← hT.out] at hv7
            have S7 := S6.next hv7
            have HR7 : Hid (Rcv (rs.take (k + 1)) s') := by
              show Rcv _ _
              first | exact HYES.out rfl rfl | exact HYES.out trivial rfl | exact HYES.out trivial trivial | exact HYES.out rfl | exact HYES.out trivial | exact HYES.out
            have hs : w6.heap[g]? = some (.cells cs.toArray 75 (0, 0)) := S6.2.2.1
            clear S6 HNO HYES hv6 hv7
            go_wp2_with (first
              | (refine wpList_load_row rfl 75 _ rfl g5 rfl 75 X.toArray (0, 0) _ hX6 Tryd.underlying75 rfl HX.out.info ?_)
              | (refine wpList_store_rowTo rfl 75 _ _ rfl rfl g X.toArray rfl rfl 75 cs.toArray hs HX.out.info (hLc.out.size.trans HX.out.size.symm) HX.out.2 ?_))
            go_roundw
            case rel => exact ⟨k + 1, X, s', hlt, by go_num, S7, HR7⟩
            case measure => simp [intOf]; omega
      · have hk' : k = rs.length := by omega
        subst hk'
        rw [List.take_length] at S HR
        have F := hid (HB.out.2 ⟨⟨_, HR.out⟩, H30.out⟩)
        have hLc := hid (S.2.2.2.2.1.led HR.out.inv.refs.1)
        have hld : wr.heap[g]? = some (.cells cs.toArray 75 (0, 0)) := S.2.2.1
        have hs : wr.heap[w.heap.size + 1]? = some (.cells led0.toArray 75 (0, 0)) := S.2.1
        have b9 := below_setRow hbw (Nat.le_succ _) cs.toArray
        have h9 := S.2.2.2.2.1.but hz (but_setRow wr (w.heap.size + 1) cs.toArray) (Nat.le_succ _) S.2.1 (by decide)
        clear S
        go_wp2_with (first
          | (refine wpList_load_row rfl 75 _ rfl g rfl 75 cs.toArray (0, 0) _ hld Tryd.underlying75 rfl hLc.out.info ?_)
          | (refine wpList_store_rowTo rfl 75 _ _ rfl rfl (w.heap.size + 1) cs.toArray rfl rfl 75 led0.toArray hs hLc.out.info (led0_led.size.trans hLc.out.size.symm) hLc.out.2 ?_))
        have h2 := setRow_heap _ _ _ cs.toArray _ _ hs
        rw [F.out]
        refine bodyPost_ret (v := .tuple #[.agg cs.toArray, .bool true]) (results_row_slot (p := 2) (s := 3) (by kernel_rfl) _ _ (w.heap.size + 1) 75 _ (0, 0) _ _ rfl rfl h2 Tryd.underlying75 hLc.out.info) rfl ⟨cs, rfl, hLc.out, fun _ => ⟨s, HR.out, h9⟩, b9⟩
end Go.Proofs.YthmnaljncapmeabDoor
namespace Go.Proofs.YthmnaljncapmeabDoor
open Go.RowKit Wo Pu Rf Lk Sh

/-- A premise that the walks leave alone. -/
def IfB (b : Bool) (p : Prop) : Prop := b = true → p
set_option maxRecDepth 100000 in
set_option maxHeartbeats 4000000 in
theorem implShardValid_is (er0 er1 : Addr) (b : Bool) (v : Value) (rs : List Rec) (w : World) (h : Shd w w.heap.size v rs) (hE : Errs er0 er1 w) (hf : FitR rs) (hb : b = true ↔ Vld rs) :
    Calls Tryd.prog 15 #[v] w (Ret (.bool b) w) := by
  have CR : Hid (∀ x, Below w.heap.size w x → Calls Tryd.prog 52 #[v] x (ReadO rs b x)) := fun x hx => readShard_is b v rs x er0 er1 (h.on hx hx.size) (hE.below hx) hf hb
  obtain ⟨A, c, rfl, h0, hc⟩ := h
  unfold shV at *
  clear hb hE
  have b0 := (Below.refl w.heap.size w).alloc (Nat.le_refl _) (.cells #[.slice A rs.length c] 25)
  have x0 := Blk1.new_ w 25 (.slice A rs.length c)
  go_enter Tryd.func15, Tryd.ntmps15
  go_upto_region 1 with fail
  obtain ⟨w1, hw1⟩ : ∃ x, w.alloc (.cells #[.slice A rs.length c] 25) = x := ⟨_, rfl⟩
  rw [hw1] at b0 x0 ⊢
  clear hw1
  obtain ⟨y0, -⟩ := id x0.reads
  go_wp2_with fail
  refine (CR.out _ b0).mono ?_
  rintro e w2 ⟨X, rfl, hX, -, d2⟩
  have HX := hid hX
  have hg := heap_alloc_new w2 (.cells led0.toArray 75)
  have b2 := b0.trans (d2.mono b0.size)
  have b3 := below_setRow (g := w2.heap.size) (b2.alloc b2.size (.cells led0.toArray 75)) b2.size X.toArray
  clear d2 hX b0 x0 CR y0 b2
  go_wp2_with (refine wpList_store_rowTo rfl 75 _ _ rfl rfl w2.heap.size X.toArray rfl rfl 75 led0.toArray hg HX.out.info (led0_led.size.trans HX.out.size.symm) HX.out.2 ?_)
  go_ret
  exact .mk_ b3
set_option maxRecDepth 100000 in
set_option maxHeartbeats 4000000 in
theorem implShardAsk_is (er0 er1 : Addr) (z : Int) (v : Value) (rs : List Rec) (t : Int) (w : World) (h : Shd w w.heap.size v rs) (hE : Errs er0 er1 w) (hf : FitR rs) (hz : (Vld rs ∧ TV t ∧ z = Sh.ask rs t) ∨ (¬ (Vld rs ∧ TV t) ∧ z = -1)) :
    Calls Tryd.prog 18 #[v, .int .i64 t] w (Ret (.int .i64 z) w) := by
  obtain ⟨b, hb⟩ := bool_ofP (Vld rs)
  obtain ⟨vt, hvt⟩ := bool_of (TV t)
  have HZ := hid hz
  have HB := hid hb
  have HVT := hid hvt
  have CT : Hid (∀ x, Calls Tryd.prog 55 #[.int .i64 t] x (Same (.bool vt) x)) := fun x => txnValid_is vt t x hvt
  obtain ⟨A, c, rfl, h0, hc⟩ := h
  have CR : Hid (∀ x, Below w.heap.size w x → Calls Tryd.prog 52 #[shV A rs.length c] x (ReadO rs b x)) := fun x hx => readShard_is b _ rs x er0 er1 (Shd.on ⟨A, c, rfl, h0, hc⟩ hx hx.size) (hE.below hx) hf hb
  unfold shV at *
  clear hb hE
  clear hz hvt
  have b0 := (Below.refl w.heap.size w).alloc (Nat.le_refl _) (.cells #[.slice A rs.length c] 25)
  have x0 := Blk1.new_ w 25 (.slice A rs.length c)
  go_enter Tryd.func18, Tryd.ntmps18
  go_upto_region 1 with fail
  obtain ⟨w1, hw1⟩ : ∃ x, w.alloc (.cells #[.slice A rs.length c] 25) = x := ⟨_, rfl⟩
  rw [hw1] at b0 x0 ⊢
  clear hw1
  obtain ⟨y0, -⟩ := id x0.reads
  go_wp2_with fail
  refine (CR.out _ b0).mono ?_
  rintro e w2 ⟨X, rfl, hX, hXX, d2⟩
  have HX := hid hX
  have HXX := hid hXX
  have hg := heap_alloc_new w2 (.cells led0.toArray 75)
  have b2 := b0.trans (d2.mono b0.size)
  have al := (Below.refl w2.heap.size w2).alloc (Nat.le_refl _) (.cells led0.toArray 75)
  have d3 : Below w1.heap.size w1 ((w2.alloc (.cells led0.toArray 75)).setRow w2.heap.size X.toArray) := below_setRow (d2.trans (al.mono d2.size)) d2.size X.toArray
  have z1 : w1.heap.size ≤ w2.heap.size := d2.size
  have HV3 : Hid (IfB b (∃ s, Rcv rs s ∧ LdV ((w2.alloc (.cells led0.toArray 75)).setRow w2.heap.size X.toArray) w1.heap.size X rs s)) := fun e => by
    obtain ⟨s, q1, q2⟩ := HXX.out e
    exact ⟨s, q1, (q2.below d2.size al).but (Nat.le_trans d2.size al.size) (but_setRow _ w2.heap.size X.toArray) d2.size hg (by decide)⟩
  have a3 : Arr4 ((w2.alloc (.cells led0.toArray 75)).setRow w2.heap.size X.toArray) w2.heap.size 75 X := setRow_heap _ _ _ X.toArray _ _ hg
  clear d2 hX hXX HXX CR y0 b2 al
  go_upto_region 2 with (refine wpList_store_rowTo rfl 75 _ _ rfl rfl w2.heap.size X.toArray rfl rfl 75 led0.toArray hg HX.out.info (led0_led.size.trans HX.out.size.symm) HX.out.2 ?_)
  change Code.wp _ _ _ _ ((w2.alloc (.cells led0.toArray 75)).setRow w2.heap.size X.toArray)
  obtain ⟨g, hgg⟩ : ∃ g, w2.heap.size = g := ⟨_, rfl⟩
  obtain ⟨w3, hw3⟩ : ∃ x, (w2.alloc (.cells led0.toArray 75)).setRow w2.heap.size X.toArray = x := ⟨_, rfl⟩
  rw [hw3] at d3 HV3 a3 ⊢
  rw [hgg] at a3 z1 ⊢
  clear hw3 hg hgg
  have b3 := b0.trans (d3.mono b0.size)
  replace x0 := x0.later d3
  cases b with
  | false =>
    have ez : z = -1 := by
      rcases HZ.out with ⟨h3, -⟩ | ⟨-, h3⟩
      · have := HB.out.2 h3; cases this
      · exact h3
    subst ez
    clear CT
    go_wp2
    go_ret
    exact .mk_ b3
  | true =>
    have HVld := hid (HB.out.1 rfl)
    go_wp2_with fail
    refine (CT.out _).mono ?_
    rintro e w4 ⟨rfl, rfl⟩
    cases vt with
    | false =>
      have ez : z = -1 := by
        rcases HZ.out with ⟨-, h3, -⟩ | ⟨-, h3⟩
        · have := HVT.out.2 h3; cases this
        · exact h3
      subst ez
      clear CT
      go_wp2
      go_ret
      exact .mk_ b3
    | true =>
      have tv := HVT.out.1 rfl
      have ez : z = Sh.ask rs t := by
        rcases HZ.out with ⟨-, -, h3⟩ | ⟨h3, -⟩
        · exact h3
        · exact absurd ⟨HVld.out, tv⟩ h3
      obtain ⟨m, rfl⟩ := Int.eq_ofNat_of_zero_le tv.1
      have hm12 : m < 12 := by have := tv.2; omega
      obtain ⟨s, q1, A5, c5, us, hX, h5, -⟩ := HV3.out rfl
      have y5 : w3.cell? ⟨g, 5 + m, none⟩ = some (.int .i64 z) := a3.get_ (by
        rw [hX, ledC_state q1.inv.refs.1 (stL_length rs) hm12]
        have := stL_get (rs := rs) hm12
        rw [List.getElem?_eq_getElem (by rw [stL_length]; exact hm12)] at this
        injection this with this
        rw [this, ez])
      have k0 : (0 : Int) ≤ (m : Int) := by omega
      have k1 : (m : Int) < 12 := by omega
      clear CT ez hX h5 q1 tv
      go_wp2
      go_ret
      exact .mk_ b3
/-- Behind it: a state of the call's own, and whether. -/
def NewStF (s : St) (b : Bool) (w : World) (e : Ending) (w' : World) : Prop :=
  ∃ A c A2 c2, e = .returned (.tuple #[stV A s.refs.length c A2 s.locks.length c2, .bool b]) ∧ OwnI w' w.heap.size (.slice A s.refs.length c) s.refs ∧ OwnI w' w.heap.size (.slice A2 s.locks.length c2) s.locks ∧
    (∀ g, (Value.slice A s.refs.length c).ownBlock = some g → (Value.slice A2 s.locks.length c2).ownBlock ≠ some g) ∧ Below w.heap.size w w'
theorem NewStF.weak {s : St} {b : Bool} {w w' : World} {e : Ending} (h : NewStF s b w e w') : NewStB s b w e w' := by
  obtain ⟨A, c, A2, c2, rfl, h1, h2, -, h4⟩ := h
  obtain ⟨_, _, e1, -, q1⟩ := id h1.form
  obtain ⟨_, _, e2, -, q2⟩ := id h2.form
  injection e1 with _ _ e1
  injection e2 with _ _ e2
  exact ⟨_, rfl, ⟨A, c, A2, c2, rfl, h1.row, by omega, h2.row, by omega⟩, h4⟩
set_option linter.unusedSimpArgs false in
set_option maxRecDepth 100000 in
set_option maxHeartbeats 4000000 in
theorem implShardRecover_F (er0 er1 : Addr) (b : Bool) (s : St) (v : Value) (rs : List Rec) (w : World) (h : Shd w w.heap.size v rs) (hE : Errs er0 er1 w) (hf : FitR rs) (hs : Rcvd rs s b) :
    Calls Tryd.prog 17 #[v] w (NewStF s b w) := by
  have hb := hs.valid
  have HS := hid hs
  obtain ⟨A, c, rfl, h0, hc⟩ := h
  have CR : Hid (∀ x, Below w.heap.size w x → Calls Tryd.prog 52 #[shV A rs.length c] x (ReadO rs b x)) := fun x hx => readShard_is b _ rs x er0 er1 (Shd.on ⟨A, c, rfl, h0, hc⟩ hx hx.size) (hE.below hx) hf hb
  unfold shV at *
  clear hb hE
  clear hs
  have b0 := ((Below.refl w.heap.size w).alloc (Nat.le_refl _) (.cells #[.slice A rs.length c] 25)).alloc (by simp) (.cells #[.slice none 0 0, .slice none 0 0] 30)
  have x0 := (Blk1.new_ w 25 (.slice A rs.length c)).alloc (.cells #[.slice none 0 0, .slice none 0 0] 30)
  have s0 := Blk2s.new_ (w.alloc (.cells #[.slice A rs.length c] 25)) 30 (.slice none 0 0) (.slice none 0 0)
  rw [World.size_alloc] at s0
  go_enter Tryd.func17, Tryd.ntmps17
  go_upto_region 1 with fail
  obtain ⟨w1, hw1⟩ : ∃ x, (w.alloc (.cells #[.slice A rs.length c] 25)).alloc (.cells #[.slice none 0 0, .slice none 0 0] 30) = x := ⟨_, rfl⟩
  rw [hw1] at b0 x0 s0 ⊢
  clear hw1
  obtain ⟨y0, -⟩ := id x0.reads
  have z0 : w.heap.size + 1 < w1.heap.size := s0.lt
  go_wp2_with fail
  refine (CR.out _ b0).mono ?_
  rintro e w2 ⟨X, rfl, hX, hXX, d2⟩
  have HX := hid hX
  have HXX := hid hXX
  have hg := heap_alloc_new w2 (.cells led0.toArray 75)
  have b2 := b0.trans (d2.mono b0.size)
  have al := (Below.refl w2.heap.size w2).alloc (Nat.le_refl _) (.cells led0.toArray 75)
  have d3 : Below w1.heap.size w1 ((w2.alloc (.cells led0.toArray 75)).setRow w2.heap.size X.toArray) := below_setRow (d2.trans (al.mono d2.size)) d2.size X.toArray
  have z1 : w1.heap.size ≤ w2.heap.size := d2.size
  have HV3 : Hid (IfB b (∃ s, Rcv rs s ∧ LdV ((w2.alloc (.cells led0.toArray 75)).setRow w2.heap.size X.toArray) w1.heap.size X rs s)) := fun e => by
    obtain ⟨s, q1, q2⟩ := HXX.out e
    exact ⟨s, q1, (q2.below d2.size al).but (Nat.le_trans d2.size al.size) (but_setRow _ w2.heap.size X.toArray) d2.size hg (by decide)⟩
  have a3 : Arr4 ((w2.alloc (.cells led0.toArray 75)).setRow w2.heap.size X.toArray) w2.heap.size 75 X := setRow_heap _ _ _ X.toArray _ _ hg
  clear d2 hX hXX HXX CR y0 b2 al
  go_upto_region 2 with (refine wpList_store_rowTo rfl 75 _ _ rfl rfl w2.heap.size X.toArray rfl rfl 75 led0.toArray hg HX.out.info (led0_led.size.trans HX.out.size.symm) HX.out.2 ?_)
  change Code.wp _ _ _ _ ((w2.alloc (.cells led0.toArray 75)).setRow w2.heap.size X.toArray)
  obtain ⟨g, hgg⟩ : ∃ g, w2.heap.size = g := ⟨_, rfl⟩
  obtain ⟨w3, hw3⟩ : ∃ x, (w2.alloc (.cells led0.toArray 75)).setRow w2.heap.size X.toArray = x := ⟨_, rfl⟩
  rw [hw3] at d3 HV3 a3 ⊢
  rw [hgg] at a3 z1 ⊢
  clear hw3 hg hgg
  have b3 := b0.trans (d3.mono b0.size)
  replace x0 := x0.later d3
  replace s0 := s0.later d3
  obtain ⟨t0, t1, tf⟩ := id s0.reads
  have tf0 := tf 0
  have tf1 := tf 1
  clear tf
  cases b with
  | false =>
    have hs : s = ⟨[], []⟩ := by
      rcases HS.out with ⟨h3, -⟩ | ⟨-, -, h3⟩
      · cases h3
      · exact h3
    subst hs
    obtain ⟨p0, p1, -⟩ := ((s0.set0 (.slice none 0 0)).set1 (.slice none 0 0)).reads
    have b7 := (b3.setCell (p := ⟨w.heap.size + 1, 0, none⟩) (Nat.le_succ _) (.slice none 0 0)).setCell (p := ⟨w.heap.size + 1, 1, none⟩) (Nat.le_succ _) (.slice none 0 0)
    go_wp2
    exact bodyPost_ret (v := .tuple #[.agg #[.slice none 0 0, .slice none 0 0], .bool false]) (by simp [results, Tryd.results17, go_sem, p0, p1]) rfl ⟨none, 0, none, 0, rfl, ⟨rfl, .inl ⟨rfl, rfl⟩⟩, ⟨rfl, .inl ⟨rfl, rfl⟩⟩, (fun g h => by cases h), b7⟩
  | true =>
    obtain ⟨s', q1, A5, c5, us, hX, h5, -, o5, -⟩ := HV3.out rfl
    have es : s' = s := by
      rcases HS.out with ⟨-, h3, -⟩ | ⟨h3, -⟩
      · exact q1.one h3
      · cases h3
    subst es
    have H4 := hid q1.inv.refs.1
    have hr4 : Row w3 w3.heap.size (some ⟨g, 0, none⟩) (ints s'.refs) := .inr ⟨_, rfl, a3.lt, fun j v hj => by
      rw [add_lit]
      exact a3.get_ (by rw [hX]; exact ledC_range hj)⟩
    have y4 : w3.cell? ⟨g, 4, none⟩ = some (.slice A5 s'.locks.length c5) := a3.get_ (by rw [hX]; exact ledC_locks q1.inv.refs.1)
    have HY4 : Hid (X[4]? = some (.slice A5 s'.locks.length c5)) := by show _ = _; rw [hX]; exact ledC_locks q1.inv.refs.1
    have CN : Hid (∀ x, Below w3.heap.size w3 x → Calls Tryd.prog 54 #[.slice (some ⟨g, 0, none⟩) 4 4] x (IntsOf s'.refs x)) := fun x hx => copyNumbers_of _ 4 4 s'.refs x (row_on hr4 hx) H4.out (by omega)
    clear hX h5 q1
    go_upto_region 4 with fail
    refine wp_region_held_drew (S := fun y => y.cell? ⟨g, 4, none⟩ = some (.slice A5 s'.locks.length c5)) (by kernel_rfl) y4 (fun hHeld => ?_)
    try simp only [Act.put, List.getElem_toArray, List.getElem_cons_succ, List.getElem_cons_zero, List.setIfInBounds_toArray, List.set_cons_zero, List.set_cons_succ]
    refine wpAnyH_take (i := 0) (oi := _) (v := ?_) rfl (by kernel_rfl) (by kernel_rfl) (by kernel_rfl) (fun _ _ _ h => h) (Or.inl ⟨by rfl, ?_⟩) hHeld ?_
    rotate_left
    · (intro w' hSw; (try dsimp only at hSw); go_simp <;> with_reducible rfl)
    try simp only [Act.put, List.getElem_toArray, List.getElem_cons_succ, List.getElem_cons_zero, List.setIfInBounds_toArray, List.set_cons_zero, List.set_cons_succ]
    refine wpAnyH_take (i := 1) (oi := _) (v := ?_) rfl (by kernel_rfl) (by kernel_rfl) (by kernel_rfl) (fun _ _ _ h => h) (Or.inl ⟨by rfl, ?_⟩) hHeld ?_
    rotate_left
    · (intro w' hSw; (try dsimp only at hSw); go_simp <;> with_reducible rfl)
    try simp only [Act.put, List.getElem_toArray, List.getElem_cons_succ, List.getElem_cons_zero, List.setIfInBounds_toArray, List.set_cons_zero, List.set_cons_succ]
    refine wpAnyH_take (i := 3) (oi := _) (v := ?_) rfl (by kernel_rfl) (by kernel_rfl) (by kernel_rfl) (fun _ _ _ h => h) (Or.inl ⟨by rfl, ?_⟩) hHeld ?_
    rotate_left
    · (intro w' hSw; (try dsimp only at hSw); go_simp <;> with_reducible rfl)
    try simp only [Act.put, List.getElem_toArray, List.getElem_cons_succ, List.getElem_cons_zero, List.setIfInBounds_toArray, List.set_cons_zero, List.set_cons_succ]
    refine wpAnyH_take (i := 4) (oi := _) (v := ?_) rfl (by kernel_rfl) (by kernel_rfl) (by kernel_rfl) (fun _ _ _ h => h) (Or.inl ⟨by rfl, ?_⟩) hHeld ?_
    rotate_left
    · (intro w' hSw; (try dsimp only at hSw); go_simp <;> with_reducible rfl)
    try simp only [Act.put, List.getElem_toArray, List.getElem_cons_succ, List.getElem_cons_zero, List.setIfInBounds_toArray, List.set_cons_zero, List.set_cons_succ]
    refine wpAnyH_ready (rs := [2]) (by kernel_rfl) (by simp) (AllReadyH.cons (o := _) rfl (fun K hK => ?_) AllReadyH.nil)
    try simp only [Act.put, List.getElem_toArray, List.getElem_cons_succ, List.getElem_cons_zero, List.setIfInBounds_toArray, List.set_cons_zero, List.set_cons_succ]
    go_simp
    go_at_call 54
    refine (CN.out _ (Wo.Below.drewN (Below.refl _ _) 1)).mono ?_
    rintro e w4 ⟨A4, c4, rfl, o4, d4⟩
    have b4d := Wo.Below.drewN b3 1
    have b4 := b4d.trans (d4.mono b4d.size)
    have s0d : Blk2s (w3.drewN 1) (w.heap.size + 1) 30 (.slice none 0 0) (.slice none 0 0) := s0
    have a3d : Arr4 (w3.drewN 1) g 75 X := a3
    have o5d : OwnI (w3.drewN 1) w1.heap.size (.slice A5 s'.locks.length c5) s'.locks := o5
    have s4 := s0d.later d4
    have a4 := a3d.below d4 a3d.lt
    have o5' := (o5d.below d4 (Nat.le_refl _)).base (B' := w.heap.size) b0.size
    have o4' := o4.base (B' := w.heap.size) b4d.size
    have hap : ∀ q, (Value.slice A4 s'.refs.length c4).ownBlock = some q → (Value.slice A5 s'.locks.length c5).ownBlock ≠ some q := fun q h1 h2 => by
      have e1 := (World.ownsRow.lt o4 q h1).1
      have e2 := (World.ownsRow.lt o5d q h2).2
      omega
    have HAP := hid hap
    have hgw : Hid (g ≠ w.heap.size + 1) := by show g ≠ _; omega
    clear t0 t1 tf0 tf1 hap
    have y4' : w4.cell? ⟨g, 4, none⟩ = some (.slice A5 s'.locks.length c5) := a4.get_ HY4.out
    obtain ⟨t0, t1, tf⟩ := id s4.reads
    have tf0 := tf 0
    have tf1 := tf 1
    clear tf
    refine hK.out _ _ y4' (fun hHeld => ?_)
    clear hK K
    try simp only [Act.put, List.getElem_toArray, List.getElem_cons_succ, List.getElem_cons_zero, List.setIfInBounds_toArray, List.set_cons_zero, List.set_cons_succ]
    refine wpAnyH_take (i := 5) (oi := _) (v := ?_) rfl (by kernel_rfl) (by kernel_rfl) (by kernel_rfl) (fun _ _ _ h => h) (Or.inl ⟨by rfl, ?_⟩) hHeld ?_
    rotate_left
    · (intro w' hSw; (try dsimp only at hSw); go_simp <;> with_reducible rfl)
    try simp only [Act.put, List.getElem_toArray, List.getElem_cons_succ, List.getElem_cons_zero, List.setIfInBounds_toArray, List.set_cons_zero, List.set_cons_succ]
    refine wpAnyH_ready (rs := [6]) (by kernel_rfl) (by simp) (AllReadyH.cons (o := _) rfl (fun K hK => ?_) AllReadyH.nil)
    try simp only [Act.put, List.getElem_toArray, List.getElem_cons_succ, List.getElem_cons_zero, List.setIfInBounds_toArray, List.set_cons_zero, List.set_cons_succ]
    go_simp
    have y9 := ((a4.far (p := ⟨w.heap.size + 1, 0, none⟩) hgw.out (.slice A4 s'.refs.length c4)).far (p := ⟨w.heap.size + 1, 1, none⟩) hgw.out (.slice A5 s'.locks.length c5)).get_ HY4.out
    refine hK.out _ _ y9 (fun hHeld => ?_)
    clear hK K
    try simp only [Act.put, List.getElem_toArray, List.getElem_cons_succ, List.getElem_cons_zero, List.setIfInBounds_toArray, List.set_cons_zero, List.set_cons_succ]
    refine wpAnyH_take (i := 7) (oi := _) (v := ?_) rfl (by kernel_rfl) (by kernel_rfl) (by kernel_rfl) (fun _ _ _ h => h) (Or.inl ⟨by rfl, ?_⟩) hHeld ?_
    rotate_left
    · (intro w' hSw; (try dsimp only at hSw); go_simp <;> with_reducible rfl)
    try simp only [Act.put, List.getElem_toArray, List.getElem_cons_succ, List.getElem_cons_zero, List.setIfInBounds_toArray, List.set_cons_zero, List.set_cons_succ]
    refine wpAnyH_done (by kernel_rfl) ?_ _
    have o4'' := (o4'.keptT (by decide) (but_set w4 (w.heap.size + 1) 0 (.slice A4 s'.refs.length c4)) (blk_type s4)).keptT (by decide) (but_set _ (w.heap.size + 1) 1 (.slice A5 s'.locks.length c5)) (blk_type (s4.set0 _))
    have o5'' := (o5'.keptT (by decide) (but_set w4 (w.heap.size + 1) 0 (.slice A4 s'.refs.length c4)) (blk_type s4)).keptT (by decide) (but_set _ (w.heap.size + 1) 1 (.slice A5 s'.locks.length c5)) (blk_type (s4.set0 _))
    obtain ⟨p0, p1, -⟩ := ((s4.set0 (.slice A4 s'.refs.length c4)).set1 (.slice A5 s'.locks.length c5)).reads
    have b7 := (b4.setCell (p := ⟨w.heap.size + 1, 0, none⟩) (Nat.le_succ _) (.slice A4 s'.refs.length c4)).setCell (p := ⟨w.heap.size + 1, 1, none⟩) (Nat.le_succ _) (.slice A5 s'.locks.length c5)
    clear hHeld y9 y4' t0 t1 tf0 tf1 a4 a3d s4 s0d
    go_wp2
    exact bodyPost_ret (v := .tuple #[.agg #[.slice A4 s'.refs.length c4, .slice A5 s'.locks.length c5], .bool true]) (by simp [results, Tryd.results17, go_sem, p0, p1]) rfl ⟨A4, c4, A5, c5, rfl, o4'', o5'', HAP.out, b7⟩
theorem implShardRecover_is (er0 er1 : Addr) (b : Bool) (s : St) (v : Value) (rs : List Rec) (w : World) (h : Shd w w.heap.size v rs) (hE : Errs er0 er1 w) (hf : FitR rs) (hs : Rcvd rs s b) :
    Calls Tryd.prog 17 #[v] w (NewStB s b w) := (implShardRecover_F er0 er1 b s v rs w h hE hf hs).mono fun _ _ h => h.weak
end Go.Proofs.YthmnaljncapmeabDoor
namespace Go.Proofs.YthmnaljncapmeabDoor
open Go.RowKit Wo Pu Rf Lk Sh

/-- What the loop over records has laid: the argument's box, the result's, the copy's at g with the records out. -/
def CpS (w : World) (A : Option Addr) (n c q g : Nat) (Ao : Option Addr) (co : Nat) (out : List Rec) (wr : World) : Prop :=
  Blk1 wr w.heap.size 25 (.slice A n c) ∧ Blk1 wr q 25 (.slice none 0 0) ∧ Blk1 wr g 25 (.slice Ao out.length co) ∧ (w.heap.size < q ∧ q < g) ∧ OwnRecs wr w.heap.size (.slice Ao out.length co) out ∧ Below w.heap.size w wr
section
variable {w wr w6 w8 : World} {A Ao A5 : Option Addr} {n c q g co c5 : Nat} {out : List Rec}
theorem CpS.later (h : CpS w A n c q g Ao co out wr) (hb : Below wr.heap.size wr w6) : CpS w A n c q g Ao co out w6 := by
  obtain ⟨h1, h2, h3, h4, h5, h6⟩ := h
  exact ⟨h1.later hb, h2.later hb, h3.later hb, h4, h5.below hb, h6.trans (hb.mono h6.size)⟩
theorem CpS.put {r : Rec} {v' : Value} {ys : List Value} (h : CpS w A n c q g Ao co out w6) (har : ∀ j (hj : j < out.length), RecIs w6 w.heap.size ys j out[j]) (hrow : w6.ownsRow w.heap.size 42 3 (.slice Ao out.length co) out.length ys)
    (o5 : OwnUps w6 w.heap.size (.slice A5 r.us.length c5) r.us) (hc5 : r.us.length ≤ c5)
    (hown : w8.ownsRow w.heap.size 42 3 v' (out.length + 1) (ys ++ [.int .i64 r.k, .int .i64 r.t, .slice A5 r.us.length c5])) (hg : (w6.alloc (.cells #[.int .i64 r.k, .int .i64 r.t, .slice A5 r.us.length c5] 42)).grownBy w8 (Value.slice Ao out.length co).ownBlock) :
    ∃ Ao' co', v' = .slice Ao' (out.length + 1) co' ∧ (w8.cell? ⟨g, 0, none⟩ = some (.slice Ao out.length co) ∧ w8.frozen? ⟨g, 0, none⟩ = false) ∧ CpS w A n c q g Ao' co' (out ++ [r]) (w8.setCell ⟨g, 0, none⟩ (.slice Ao' (out.length + 1) co')) := by
  obtain ⟨h1, h2, h3, ⟨h4, h7⟩, h5, h6⟩ := h
  have al := (Below.refl w6.heap.size w6).alloc (Nat.le_refl _) (.cells #[.int .i64 r.k, .int .i64 r.t, .slice A5 r.us.length c5] 42)
  have hrow' := World.ownsRow.alloc hrow (.cells #[.int .i64 r.k, .int .i64 r.t, .slice A5 r.us.length c5] 42)
  have oa := OwnRecs.app har hc5 o5 hrow hown hg
  have hlt := World.ownsRow.lt hrow
  have k1 := (h1.later al).grown hg (blk_ne_row (h1.later al) hrow' (by decide))
  have k2 := (h2.later al).grown hg (blk_ne_row (h2.later al) hrow' (by decide))
  have k3 := (h3.later al).grown hg (blk_ne_row (h3.later al) hrow' (by decide))
  have hb8 : Below w.heap.size w w8 := (h6.alloc h6.size _).grown hg (by have := h6.size; simp; omega) (fun j hj => (hlt j hj).1)
  obtain ⟨Ao', co', e, -, -⟩ := oa.form
  rw [List.length_append, List.length_singleton] at e
  subst e
  refine ⟨Ao', co', rfl, ⟨k3.reads.1, k3.reads.2 0⟩, k1.far (by show w.heap.size ≠ g; omega) _, k2.far (by show q ≠ g; omega) _, ?_, ⟨h4, h7⟩, ?_, hb8.setCell (by show w.heap.size ≤ g; omega) _⟩
  · rw [List.length_append, List.length_singleton]
    exact k3.set0 _
  · rw [List.length_append, List.length_singleton]
    exact oa.keptT (by decide) (by decide) (but_set w8 g 0 _) (blk_type k3)
end
set_option linter.unusedSimpArgs false in
set_option maxRecDepth 100000 in
set_option maxHeartbeats 8000000 in
theorem l21Copy_any (v : Value) (rs : List Rec) (w : World) (h : Shd w w.heap.size v rs) (hf : FitR rs) :
    Calls Tryd.prog 65 #[v] w (NewSh rs w) := by
  obtain ⟨i0, hi, hz0, hz1, hz2⟩ := info_of info_rec
  obtain ⟨i1, hj, hy0, hy1, hy2⟩ := info_of info_up
  obtain ⟨A, c, rfl, h0, hc⟩ := h
  unfold shV
  have b0 := ((Below.refl w.heap.size w).alloc (Nat.le_refl _) (.cells #[.slice A rs.length c] 25)).alloc (by simp) (.cells #[.slice none 0 0] 25)
  have x0 := (Blk1.new_ w 25 (.slice A rs.length c)).alloc (.cells #[.slice none 0 0] 25)
  have x1 := Blk1.new_ (w.alloc (.cells #[.slice A rs.length c] 25)) 25 (.slice none 0 0)
  rw [World.size_alloc] at x1
  go_enter Tryd.func65, Tryd.ntmps65
  obtain ⟨w1, hw1⟩ : ∃ w1, (w.alloc (.cells #[.slice A rs.length c] 25)).alloc (.cells #[.slice none 0 0] 25) = w1 := ⟨_, rfl⟩
  have z1 : w1.heap.size = w.heap.size + 2 := by rw [← hw1]; simp
  rw [hw1] at b0 x0 x1
  have al := ((Below.refl w1.heap.size w1).alloc (Nat.le_refl _) (.cells #[] 42)).alloc (by simp) (.cells #[.slice (some ⟨w1.heap.size, 0, none⟩) 0 0] 25)
  have x2 := Blk1.new_ (w1.alloc (.cells #[] 42)) 25 (.slice (some ⟨w1.heap.size, 0, none⟩) 0 0)
  have o2 := (OwnRecs.nil_new (w := w1) (B := w.heap.size) b0.size).below ((Below.refl _ _).alloc (Nat.le_refl _) (.cells #[.slice (some ⟨w1.heap.size, 0, none⟩) 0 0] 25))
  rw [World.size_alloc, z1] at x2
  rw [z1] at o2 al
  have S0 : CpS w A rs.length c (w.heap.size + 1) (w.heap.size + 2 + 1) (some ⟨w.heap.size + 2, 0, none⟩) 0 [] _ := ⟨x0.later (z1 ▸ al), x1.later (z1 ▸ al), x2, ⟨by omega, by omega⟩, o2, b0.trans (al.mono (by omega))⟩
  clear b0 x0 x1 al x2 o2
  go_upto_region 2 with fail
  clear hw1
  generalize (w1.alloc (.cells #[] 42)).alloc (.cells #[.slice (some ⟨w.heap.size + 2, 0, none⟩) 0 0] 25) = w2 at *
  clear z1
  go_wp2_with fail
  go_loopw [4] (fun i wr => ∃ (k : Nat) (Ao : Option Addr) (co : Nat), k ≤ rs.length ∧ i = .int .i64 k ∧ CpS w A rs.length c (w.heap.size + 1) (w.heap.size + 2 + 1) Ao co (rs.take k) wr) (fun i _ => rs.length - (intOf i).toNat)
  case atStart => exact ⟨0, _, _, Nat.zero_le _, rfl, S0⟩
  case round =>
    obtain ⟨k, Ao, co, hk, rfl, S⟩ := hrel
    clear S0
    have hb := S.2.2.2.2.2
    have hz := hb.size
    obtain ⟨y0, -⟩ := id S.1.reads
    by_cases hlt : k < rs.length
    · obtain ⟨r, ad, A', c', ho, rfl, ha, g0, g1, g2, g3, g4⟩ := (h0.below hb (Nat.le_refl _)).rec hlt
      have q0 : (0 : Int) ≤ (k : Int) := by omega
      have q1 : (k : Int) < (rs.length : Int) := by omega
      have hT : Hid (rs.take (k + 1) = rs.take k ++ [r]) := by
        show _ = _
        rw [List.take_succ_eq_append_getElem hlt, ho]
      have hr1 := hf.2 r (by rw [← ho]; exact List.getElem_mem hlt)
      have hf1 := hf.1
      have hol : (rs.take k).length ≤ 1048576 := by rw [List.length_take]; omega
      obtain ⟨out, hout⟩ : ∃ out, rs.take k = out := ⟨_, rfl⟩
      rw [hout] at S hT hol
      have HS := hid S
      have x3 := Blk3s.new_ wr 42 (.int .i64 r.k) (.int .i64 r.t) (.slice A' r.us.length c')
      have al := (Below.refl wr.heap.size wr).alloc (Nat.le_refl _) (.cells #[.int .i64 r.k, .int .i64 r.t, .slice A' r.us.length c'] 42)
      clear hout ho S
      go_upto_region 6 with fail
      obtain ⟨w3, hw3⟩ : ∃ w3, wr.alloc (.cells #[.int .i64 r.k, .int .i64 r.t, .slice A' r.us.length c'] 42) = w3 := ⟨_, rfl⟩
      rw [hw3] at x3 al ⊢
      clear hw3 y0 g0 g1 g2
      have z3 := al.size
      have al3 := (Below.refl w3.heap.size w3).alloc (Nat.le_refl _) (.cells #[] 97)
      obtain ⟨-, -, e2, -⟩ := (x3.later al3).reads
      have r3 := g4.below al hz
      have hw3 := Nat.le_trans hz z3
      go_upto_region 7 with (at_builtin; go_must (refine wpList_append_row _ rfl _ _ 40 rfl w.heap.size 97 i1 (.agg #[.int .i64 0, .int .i64 0, .int .i64 0]) 3 24 Tryd.underlying40 hj hy0 hy1 hy2 rfl (by decide) _ 0 [] rfl (nil_own hw3 _ _) w.heap.size A' r.us.length c' (upsV r.us) rfl (r3.below al3 hw3) (upsV_length _) (upsV_cells _) (by unfold maxLen; omega) (by omega) (by simp; omega) ?_); intro v5 w5 hown5 hg5; rw [Nat.zero_add, List.nil_append] at hown5; have b5 : Below w3.heap.size w3 w5 := al3.grown hg5 (by simp) (fun j hj => (by injection hj with hj; exact Nat.le_of_eq hj)); have x5 := x3.later b5; obtain ⟨e0, e1, e2, ef⟩ := id x5.reads; have ef2 := ef 2; obtain ⟨A5, c5, rfl, -, hc5⟩ := OwnUps.form hown5)
      clear e0 e1 e2 ef ef2
      have b6 := (al.trans (b5.mono z3)).setCell (p := ⟨wr.heap.size, 2, none⟩) (Nat.le_refl _) (.slice A5 r.us.length c5)
      have x6 := x5.set2 (.slice A5 r.us.length c5)
      have o6 : OwnUps (w5.setCell ⟨wr.heap.size, 2, none⟩ (.slice A5 r.us.length c5)) w.heap.size (.slice A5 r.us.length c5) r.us := OwnUps.keptT hown5 (by decide) (but_set w5 wr.heap.size 2 _) (blk_type x5)
      obtain ⟨w6, hw6⟩ : ∃ w6, w5.setCell ⟨wr.heap.size, 2, none⟩ (.slice A5 r.us.length c5) = w6 := ⟨_, rfl⟩
      rw [hw6] at b6 x6 o6 ⊢
      clear hw6 x5 b5 hown5 hg5 al x3 al3 r3 g4
      have S6 := HS.out.later b6
      obtain ⟨ys, hrow, har⟩ := id S6.2.2.2.2.1
      obtain ⟨y0, yf⟩ := id S6.2.2.1.reads
      obtain ⟨e0, e1, e2, -⟩ := id x6.reads
      have z6 := S6.2.2.2.2.2.size
      have t0 := (S6.later ((Below.refl w6.heap.size w6).alloc (Nat.le_refl _) (.cells #[.int .i64 r.k, .int .i64 r.t, .slice A5 r.us.length c5] 42))).2.2.1.reads.1
      clear hb hz hw3
      go_wp2_with (at_builtin; go_must (refine wpList_append_row _ rfl _ _ 23 rfl w.heap.size 42 i0 (.agg #[.int .i64 0, .int .i64 0, .slice none 0 0]) 3 40 Tryd.underlying23 hi hz0 hz1 hz2 rfl (by decide) _ out.length ys rfl (World.ownsRow.alloc hrow _) _ (some ⟨w6.heap.size, 0, none⟩) 1 1 [.int .i64 r.k, .int .i64 r.t, .slice A5 r.us.length c5] rfl (row_three w6 _ _ _ _) rfl (rec_cells _ _ _ _ _) (by unfold maxLen; omega) (by omega) (by simp; omega) ?_); intro v8 w8 hown8 hg8; obtain ⟨Ao8, co8, rfl, ⟨u0, uf⟩, S8⟩ := S6.put har hrow o6 hc5 hown8 hg8)
      clear S6
      go_roundw
      case rel => exact ⟨k + 1, Ao8, co8, hlt, by go_num, by rw [hT.out]; simpa using S8⟩
      case measure => simp [intOf]; omega
    · have hk' : k = rs.length := by omega
      subst hk'
      rw [List.take_length] at S
      obtain ⟨s1, s2, s3, s4, s5, s6⟩ := S
      obtain ⟨t0, tf⟩ := id s2.reads
      obtain ⟨u0, -⟩ := id s3.reads
      have tf0 := tf 0
      clear tf
      have o9 := s5.keptT (by decide) (by decide) (but_set wr (w.heap.size + 1) 0 (.slice Ao rs.length co)) (blk_type s2)
      have b9 := s6.setCell (p := ⟨w.heap.size + 1, 0, none⟩) (Nat.le_succ _) (.slice Ao rs.length co)
      obtain ⟨p0, -⟩ := (s2.set0 (.slice Ao rs.length co)).reads
      clear s1 s2 s3 s5 s6
      go_wp2
      exact bodyPost_ret (v := .agg #[.slice Ao rs.length co]) (by simp [results, Tryd.results65, go_sem, p0]) rfl ⟨_, rfl, OwnSh.mk_ o9, b9⟩
set_option linter.unusedSimpArgs false in
set_option maxRecDepth 100000 in
set_option maxHeartbeats 8000000 in
theorem l21Add_any (b : Bool) (xs : List Rec) (v : Value) (rs : List Rec) (A3 : Option Addr) (c3 : Nat) (r : Rec) (w : World) (h : Shd w w.heap.size v rs) (h30 : rs.length ≤ 30) (hf : FitR rs) (hu : Row w w.heap.size A3 (upsV r.us)) (hul : r.us.length ≤ 1048576) (hb : b = true ↔ Vld (rs ++ [r])) (hxs : xs = if b then rs ++ [r] else rs) :
    Calls Tryd.prog 66 #[v, .agg #[.int .i64 r.k, .int .i64 r.t, .slice A3 r.us.length c3]] w (NewShB xs b w) := by
  obtain ⟨i0, hi, hz0, hz1, hz2⟩ := info_of info_rec
  obtain ⟨i1, hj, hy0, hy1, hy2⟩ := info_of info_up
  have HB := hid hb
  have HX := hid hxs
  clear hb hxs
  have hf9 : FitR (rs ++ [r]) := ⟨by simp; omega, fun x hx => by
    rcases List.mem_append.1 hx with hx | hx
    · exact hf.2 x hx
    · rw [List.mem_singleton] at hx; subst hx; exact hul⟩
  have HV := hid (specShardValid_is b · (rs ++ [r]) · · hf9 HB.out)
  have HC := hid (l21Copy_any · rs · · hf)
  obtain ⟨A, c, rfl, h0, hc⟩ := h
  unfold shV at *
  have b0 := (((Below.refl w.heap.size w).alloc (Nat.le_refl _) (.cells #[.slice A rs.length c] 25)).alloc (by simp) (.cells #[.int .i64 r.k, .int .i64 r.t, .slice A3 r.us.length c3] 42)).alloc (by simp; omega) (.cells #[.slice none 0 0] 25)
  have x0 := ((Blk1.new_ w 25 (.slice A rs.length c)).alloc (.cells #[.int .i64 r.k, .int .i64 r.t, .slice A3 r.us.length c3] 42)).alloc (.cells #[.slice none 0 0] 25)
  have x1 := (Blk3s.new_ (w.alloc (.cells #[.slice A rs.length c] 25)) 42 (.int .i64 r.k) (.int .i64 r.t) (.slice A3 r.us.length c3)).alloc (.cells #[.slice none 0 0] 25)
  have x2 := Blk1.new_ ((w.alloc (.cells #[.slice A rs.length c] 25)).alloc (.cells #[.int .i64 r.k, .int .i64 r.t, .slice A3 r.us.length c3] 42)) 25 (.slice none 0 0)
  rw [World.size_alloc] at x1 x2
  rw [World.size_alloc] at x2
  go_enter Tryd.func66, Tryd.ntmps66
  go_upto_region 1 with fail
  obtain ⟨w1, hw1⟩ : ∃ w1, ((w.alloc (.cells #[.slice A rs.length c] 25)).alloc (.cells #[.int .i64 r.k, .int .i64 r.t, .slice A3 r.us.length c3] 42)).alloc (.cells #[.slice none 0 0] 25) = w1 := ⟨_, rfl⟩
  have z1 : w1.heap.size = w.heap.size + 3 := by rw [← hw1]; simp
  rw [hw1] at b0 x0 x1 x2 ⊢
  clear hw1
  have y0 := x0.reads.1
  have h1 := h0.on b0
  go_wp2_with fail
  refine (HC.out _ w1 ⟨A, c, rfl, h1, hc⟩).mono ?_
  rintro e w2 ⟨v2, rfl, o2, d2⟩
  have b2 := b0.trans (d2.mono b0.size)
  obtain ⟨Ao, co, rfl, o2, -⟩ := o2
  unfold shV
  have al := (Below.refl w2.heap.size w2).alloc (Nat.le_refl _) (.cells #[.slice Ao rs.length co] 25)
  replace x0 := (x0.later d2).later al
  replace x1 := (x1.later d2).later al
  replace x2 := (x2.later d2).later al
  have x4 := Blk1.new_ w2 25 (.slice Ao rs.length co)
  replace o2 := o2.below al
  replace b2 := b2.trans (al.mono b2.size)
  have hg : w.heap.size + 1 + 1 < w2.heap.size := by have := d2.size; omega
  clear b0 d2 h1 y0
  go_upto_region 2 with fail
  obtain ⟨w3, hw3⟩ : ∃ w3, w2.alloc (.cells #[.slice Ao rs.length co] 25) = w3 := ⟨_, rfl⟩
  rw [hw3] at al x0 x1 x2 x4 o2 b2 ⊢
  clear hw3 al
  have al3 := (Below.refl w3.heap.size w3).alloc (Nat.le_refl _) (.cells #[] 97)
  obtain ⟨-, -, e2, -⟩ := (x1.later al3).reads
  have z3 := b2.size
  have r3 := hu.below b2 (Nat.le_refl _)
  go_upto_region 3 with (at_builtin; go_must (refine wpList_append_row _ rfl _ _ 40 rfl w.heap.size 97 i1 (.agg #[.int .i64 0, .int .i64 0, .int .i64 0]) 3 24 Tryd.underlying40 hj hy0 hy1 hy2 rfl (by decide) _ 0 [] rfl (nil_own z3 _ _) w.heap.size A3 r.us.length c3 (upsV r.us) rfl (r3.below al3 z3) (upsV_length _) (upsV_cells _) (by unfold maxLen; omega) (by omega) (by simp; omega) ?_); intro v5 w5 hown5 hg5; rw [Nat.zero_add, List.nil_append] at hown5; have b5 : Below w3.heap.size w3 w5 := al3.grown hg5 (by simp) (fun j hj => (by injection hj with hj; exact Nat.le_of_eq hj)); have x5 := x1.later b5; obtain ⟨e0, e1, e2, ef⟩ := id x5.reads; have ef2 := ef 2; obtain ⟨A5, c5, rfl, -, hc5⟩ := OwnUps.form hown5)
  clear e0 e1 e2 ef ef2
  have hne : w.heap.size ≠ w.heap.size + 1 := by omega
  have hne2 : w.heap.size + 1 + 1 ≠ w.heap.size + 1 := by omega
  have hne4 : w2.heap.size ≠ w.heap.size + 1 := by omega
  replace x0 := (x0.later b5).far (p := ⟨w.heap.size + 1, 2, none⟩) hne (.slice A5 r.us.length c5)
  replace x2 := (x2.later b5).far (p := ⟨w.heap.size + 1, 2, none⟩) hne2 (.slice A5 r.us.length c5)
  replace x4 := (x4.later b5).far (p := ⟨w.heap.size + 1, 2, none⟩) hne4 (.slice A5 r.us.length c5)
  have o6 : OwnUps (w5.setCell ⟨w.heap.size + 1, 2, none⟩ (.slice A5 r.us.length c5)) w.heap.size (.slice A5 r.us.length c5) r.us := OwnUps.keptT hown5 (by decide) (but_set w5 (w.heap.size + 1) 2 _) (blk_type x5)
  have x6 := x5.set2 (.slice A5 r.us.length c5)
  replace o2 := ((o2.below b5).but (but_set w5 (w.heap.size + 1) 2 (.slice A5 r.us.length c5)) (by omega)).base (B' := w.heap.size) (by omega)
  have b6 := (b2.trans (b5.mono z3)).setCell (p := ⟨w.heap.size + 1, 2, none⟩) (Nat.le_succ _) (.slice A5 r.us.length c5)
  obtain ⟨w6, hw6⟩ : ∃ w6, w5.setCell ⟨w.heap.size + 1, 2, none⟩ (.slice A5 r.us.length c5) = w6 := ⟨_, rfl⟩
  rw [hw6] at b6 x0 x2 x4 x6 o6 o2 ⊢
  have S6 : CpS w A rs.length c (w.heap.size + 1 + 1) w2.heap.size Ao co rs w6 := ⟨x0, x2, x4, ⟨by omega, hg⟩, o2, b6⟩
  clear hw6 x0 x2 x4 x1 x5 o2 b6 b2 b5 al3 r3 hown5 hg5 hne hne2 hne4
  obtain ⟨ys, hrow, har⟩ := id S6.2.2.2.2.1
  obtain ⟨y0, yf⟩ := id S6.2.2.1.reads
  obtain ⟨e0, e1, e2, -⟩ := id x6.reads
  have z6 := S6.2.2.2.2.2.size
  go_upto_region 4 with (at_builtin; go_must (refine wpList_append_row _ rfl _ _ 23 rfl w.heap.size 42 i0 (.agg #[.int .i64 0, .int .i64 0, .slice none 0 0]) 3 40 Tryd.underlying23 hi hz0 hz1 hz2 rfl (by decide) _ rs.length ys rfl (World.ownsRow.alloc hrow _) _ (some ⟨w6.heap.size, 0, none⟩) 1 1 [.int .i64 r.k, .int .i64 r.t, .slice A5 r.us.length c5] rfl (row_three w6 _ _ _ _) rfl (rec_cells _ _ _ _ _) (by unfold maxLen; omega) (by omega) (by simp; omega) ?_); intro v8 w8 hown8 hg8; obtain ⟨Ao8, co8, rfl, ⟨u0, uf⟩, S8⟩ := S6.put har hrow o6 hc5 hown8 hg8)
  obtain ⟨W9, hW9⟩ : ∃ x, w8.setCell ⟨w2.heap.size, 0, none⟩ (.slice Ao8 (rs.length + 1) co8) = x := ⟨_, rfl⟩
  rw [hW9] at S8 ⊢
  have hl9 : (rs ++ [r]).length = rs.length + 1 := by simp
  obtain ⟨s1, s2, s3, -, s5, s6⟩ := S8
  rw [hl9] at s3 s5
  have sh9 := (OwnSh.mk_ s5).shd
  clear hW9 S6 y0 yf e0 e1 e2 hrow har o6 x6 hown8 hg8 u0 uf hl9 z6
  obtain ⟨y0, -⟩ := id s3.reads
  go_wp2_with fail
  refine (HV.out _ W9 sh9).mono ?_
  rintro e w10 ⟨rfl, d10⟩
  replace s1 := s1.later d10
  replace s2 := s2.later d10
  replace s3 := s3.later d10
  replace s5 := s5.below d10
  replace s6 := s6.trans (d10.mono s6.size)
  clear d10 y0 sh9 HV
  cases b with
  | false =>
    obtain rfl : xs = rs := by rw [HX.out]; simp
    have h10 := h0.on s6
    obtain ⟨y0, -⟩ := id s1.reads
    go_wp2_with fail
    refine (HC.out _ w10 ⟨A, c, rfl, h10, hc⟩).mono ?_
    rintro e w11 ⟨v11, rfl, o11, d11⟩
    obtain ⟨A6, c6, rfl, o11, -⟩ := o11
    unfold shV
    have t2 := s2.later d11
    have b11 := s6.trans (d11.mono s6.size)
    obtain ⟨t0, tf⟩ := id t2.reads
    have tf0 := tf 0
    have o12 := (o11.keptT (by decide) (by decide) (but_set w11 (w.heap.size + 1 + 1) 0 (.slice A6 xs.length c6)) (blk_type t2)).base s6.size
    have b12 := b11.setCell (p := ⟨w.heap.size + 1 + 1, 0, none⟩) (by show w.heap.size ≤ w.heap.size + 1 + 1; omega) (.slice A6 xs.length c6)
    obtain ⟨p0, -⟩ := (t2.set0 (.slice A6 xs.length c6)).reads
    clear tf s1 s2 s3 s5 s6 y0 d11 b11 h10 o11 t2
    go_wp2
    exact bodyPost_ret (v := .tuple #[.agg #[.slice A6 xs.length c6], .bool false]) (by simp [results, Tryd.results66, go_sem, p0]) rfl ⟨_, rfl, OwnSh.mk_ o12, b12⟩
  | true =>
    obtain rfl : xs = rs ++ [r] := by rw [HX.out]; simp
    obtain ⟨y0, -⟩ := id s3.reads
    obtain ⟨t0, tf⟩ := id s2.reads
    have tf0 := tf 0
    have o12 := s5.keptT (by decide) (by decide) (but_set w10 (w.heap.size + 1 + 1) 0 (.slice Ao8 (rs.length + 1) co8)) (blk_type s2)
    have b12 := s6.setCell (p := ⟨w.heap.size + 1 + 1, 0, none⟩) (by show w.heap.size ≤ w.heap.size + 1 + 1; omega) (.slice Ao8 (rs.length + 1) co8)
    obtain ⟨p0, -⟩ := (s2.set0 (.slice Ao8 (rs.length + 1) co8)).reads
    clear tf s1 s2 s3 s5 s6
    go_wp2
    exact bodyPost_ret (v := .tuple #[.agg #[.slice Ao8 (rs.length + 1) co8], .bool true]) (by simp [results, Tryd.results66, go_sem, p0]) rfl ⟨_, rfl, OwnSh.mk_ o12, b12⟩
end Go.Proofs.YthmnaljncapmeabDoor
namespace Go.Proofs.YthmnaljncapmeabDoor
open Go.RowKit Wo Pu Rf Lk Sh

/-- Behind it: a record whose updates are of the call's own. -/
def NewRec (r : Rec) (w : World) (e : Ending) (w' : World) : Prop := ∃ A c, e = .returned (.agg #[.int .i64 r.k, .int .i64 r.t, .slice A r.us.length c]) ∧ r.us.length ≤ c ∧ OwnUps w' w.heap.size (.slice A r.us.length c) r.us ∧ Below w.heap.size w w'
set_option linter.unusedSimpArgs false in
set_option maxRecDepth 100000 in
set_option maxHeartbeats 4000000 in
theorem recCopied_is (A : Option Addr) (c : Nat) (r : Rec) (w : World) (hu : Row w w.heap.size A (upsV r.us)) (hul : r.us.length ≤ 1048576) :
    Calls Tryd.prog 84 #[.agg #[.int .i64 r.k, .int .i64 r.t, .slice A r.us.length c]] w (NewRec r w) := by
  obtain ⟨i1, hj, hy0, hy1, hy2⟩ := info_of info_up
  have b0 := ((Below.refl w.heap.size w).alloc (Nat.le_refl _) (.cells #[.int .i64 r.k, .int .i64 r.t, .slice A r.us.length c] 42)).alloc (by simp) (.cells #[.int .i64 0, .int .i64 0, .slice none 0 0] 42)
  have x0 := (Blk3s.new_ w 42 (.int .i64 r.k) (.int .i64 r.t) (.slice A r.us.length c)).alloc (.cells #[.int .i64 0, .int .i64 0, .slice none 0 0] 42)
  have x1 := Blk3s.new_ (w.alloc (.cells #[.int .i64 r.k, .int .i64 r.t, .slice A r.us.length c] 42)) 42 (.int .i64 0) (.int .i64 0) (.slice none 0 0)
  rw [World.size_alloc] at x1
  go_enter Tryd.func84, Tryd.ntmps84
  go_upto_region 1 with fail
  obtain ⟨w1, hw1⟩ : ∃ x, (w.alloc (.cells #[.int .i64 r.k, .int .i64 r.t, .slice A r.us.length c] 42)).alloc (.cells #[.int .i64 0, .int .i64 0, .slice none 0 0] 42) = x := ⟨_, rfl⟩
  rw [hw1] at b0 x0 x1 ⊢
  clear hw1
  have z1 := b0.size
  have HKP : Hid (∀ x, Below (w1.drewN 1).heap.size (w1.drewN 1) x → x.cell? ⟨w.heap.size, 0, none⟩ = some (.int .i64 r.k) ∧ x.cell? ⟨w.heap.size, 1, none⟩ = some (.int .i64 r.t) ∧ x.cell? ⟨w.heap.size, 2, none⟩ = some (.slice A r.us.length c)) := fun x hx => by
    have := (show Blk3s (w1.drewN 1) w.heap.size _ _ _ _ from x0).later hx
    exact ⟨this.reads.1, this.reads.2.1, this.reads.2.2.1⟩
  refine wp_region_held_drew (S := fun x => x.cell? ⟨w.heap.size, 0, none⟩ = some (.int .i64 r.k) ∧ x.cell? ⟨w.heap.size, 1, none⟩ = some (.int .i64 r.t) ∧ x.cell? ⟨w.heap.size, 2, none⟩ = some (.slice A r.us.length c)) (by kernel_rfl) (HKP.out _ (Below.refl _ _)) (fun hHeld => ?_)
  try simp only [Act.put, List.getElem_toArray, List.getElem_cons_succ, List.getElem_cons_zero, List.setIfInBounds_toArray, List.set_cons_zero, List.set_cons_succ]
  refine wpAnyH_take (i := 0) (oi := _) (v := ?_) rfl (by kernel_rfl) (by kernel_rfl) (by kernel_rfl) (fun _ _ _ h => h) (Or.inl ⟨by rfl, ?_⟩) hHeld ?_
  rotate_left
  · (intro w' hSw; (try dsimp only at hSw); go_simp <;> with_reducible rfl)
  try simp only [Act.put, List.getElem_toArray, List.getElem_cons_succ, List.getElem_cons_zero, List.setIfInBounds_toArray, List.set_cons_zero, List.set_cons_succ]
  refine wpAnyH_take (i := 1) (oi := _) (v := ?_) rfl (by kernel_rfl) (by kernel_rfl) (by kernel_rfl) (fun _ _ _ h => h) (Or.inl ⟨by rfl, ?_⟩) hHeld ?_
  rotate_left
  · (intro w' hSw; (try dsimp only at hSw); go_simp <;> with_reducible rfl)
  try simp only [Act.put, List.getElem_toArray, List.getElem_cons_succ, List.getElem_cons_zero, List.setIfInBounds_toArray, List.set_cons_zero, List.set_cons_succ]
  refine wpAnyH_take (i := 2) (oi := _) (v := ?_) rfl (by kernel_rfl) (by kernel_rfl) (by kernel_rfl) (fun _ _ _ h => h) (Or.inl ⟨by rfl, ?_⟩) hHeld ?_
  rotate_left
  · (intro w' hSw; (try dsimp only at hSw); go_simp <;> with_reducible rfl)
  try simp only [Act.put, List.getElem_toArray, List.getElem_cons_succ, List.getElem_cons_zero, List.setIfInBounds_toArray, List.set_cons_zero, List.set_cons_succ]
  refine wpAnyH_take (i := 3) (oi := _) (v := ?_) rfl (by kernel_rfl) (by kernel_rfl) (by kernel_rfl) (fun _ _ _ h => h) (Or.inl ⟨by rfl, ?_⟩) hHeld ?_
  rotate_left
  · (intro w' hSw; (try dsimp only at hSw); go_simp <;> with_reducible rfl)
  try simp only [Act.put, List.getElem_toArray, List.getElem_cons_succ, List.getElem_cons_zero, List.setIfInBounds_toArray, List.set_cons_zero, List.set_cons_succ]
  refine wpAnyH_take (i := 5) (oi := _) (v := ?_) rfl (by kernel_rfl) (by kernel_rfl) (by kernel_rfl) (fun _ _ _ h => h) (Or.inl ⟨by rfl, ?_⟩) hHeld ?_
  rotate_left
  · (intro w' hSw; (try dsimp only at hSw); go_simp <;> with_reducible rfl)
  try simp only [Act.put, List.getElem_toArray, List.getElem_cons_succ, List.getElem_cons_zero, List.setIfInBounds_toArray, List.set_cons_zero, List.set_cons_succ]
  refine wpAnyH_take (i := 6) (oi := _) (v := ?_) rfl (by kernel_rfl) (by kernel_rfl) (by kernel_rfl) (fun _ _ _ h => h) (Or.inl ⟨by rfl, ?_⟩) hHeld ?_
  rotate_left
  · (intro w' hSw; (try dsimp only at hSw); go_simp <;> with_reducible rfl)
  try simp only [Act.put, List.getElem_toArray, List.getElem_cons_succ, List.getElem_cons_zero, List.setIfInBounds_toArray, List.set_cons_zero, List.set_cons_succ]
  refine wpAnyH_ready (rs := [4]) (by kernel_rfl) (by simp) (AllReadyH.cons (o := _) rfl (fun K hK => ?_) AllReadyH.nil)
  try simp only [Act.put, List.getElem_toArray, List.getElem_cons_succ, List.getElem_cons_zero, List.setIfInBounds_toArray, List.set_cons_zero, List.set_cons_succ]
  go_simp
  have al := Wo.Below.drewN ((Below.refl w1.heap.size w1).alloc (Nat.le_refl _) (.cells #[] 97)) 1
  have n2 : ((w1.alloc (.cells #[] 97)).drewN 1).ownsRow w.heap.size 97 3 (.slice (some ⟨w1.heap.size, 0, none⟩) 0 0) 0 [] := nil_own z1 _ _
  change K _ ((w1.alloc (.cells #[] 97)).drewN 1)
  obtain ⟨W2, hW2⟩ : ∃ x, (w1.alloc (.cells #[] 97)).drewN 1 = x := ⟨_, rfl⟩
  rw [hW2] at al n2 ⊢
  clear hW2
  have b2 := b0.trans (al.mono z1)
  have y0 := x0.later al
  have y1 := x1.later al
  have r2 := row_on hu b2
  have S2 : W2.cell? ⟨w.heap.size, 0, none⟩ = some (.int .i64 r.k) ∧ W2.cell? ⟨w.heap.size, 1, none⟩ = some (.int .i64 r.t) ∧ W2.cell? ⟨w.heap.size, 2, none⟩ = some (.slice A r.us.length c) := ⟨y0.reads.1, y0.reads.2.1, y0.reads.2.2.1⟩
  have zw : w.heap.size + 1 < w1.heap.size := x1.lt
  refine hK.out _ _ S2 (fun hHeld => ?_)
  clear hK K
  try simp only [Act.put, List.getElem_toArray, List.getElem_cons_succ, List.getElem_cons_zero, List.setIfInBounds_toArray, List.set_cons_zero, List.set_cons_succ]
  refine wpAnyH_ready (rs := [7]) (by kernel_rfl) (by simp) (AllReadyH.cons (o := _) rfl (fun K hK => ?_) AllReadyH.nil)
  try simp only [Act.put, List.getElem_toArray, List.getElem_cons_succ, List.getElem_cons_zero, List.setIfInBounds_toArray, List.set_cons_zero, List.set_cons_succ]
  rw [if_pos (by rfl)]
  refine op_append_row1 _ (by rfl) _ _ 40 (by rfl) w.heap.size 97 i1 (.agg #[.int .i64 0, .int .i64 0, .int .i64 0]) 3 24 Tryd.underlying40 hj hy0 hy1 hy2 rfl (by decide) (.slice (some ⟨w1.heap.size, 0, none⟩) 0 0) 0 [] (by rfl) n2 W2.heap.size A r.us.length c (upsV r.us) (by rfl) r2 (upsV_length _) (upsV_cells _) (by unfold maxLen; omega) (by omega) b2.size ?_
  intro v9 W3 hown hg
  rw [Nat.zero_add, List.nil_append] at hown
  have o3 : OwnUps W3 w.heap.size v9 r.us := hown
  obtain ⟨A5, c5, rfl, -, hc5⟩ := o3.form
  have hne : ∀ k, k ≤ w.heap.size + 1 → some k ≠ (Value.slice (some ⟨w1.heap.size, 0, none⟩) 0 0).ownBlock := fun k hk e => by
    have e2 : k = w1.heap.size := by simpa [Value.ownBlock] using e
    omega
  have e0 := y0.grown hg (hne _ (by omega))
  have e1 := y1.grown hg (hne _ (by omega))
  have b3 : Below w.heap.size w W3 := b2.grown hg b2.size (fun j hj => by
    have e2 : w1.heap.size = j := by simpa [Value.ownBlock] using hj
    omega)
  have S3 : W3.cell? ⟨w.heap.size, 0, none⟩ = some (.int .i64 r.k) ∧ W3.cell? ⟨w.heap.size, 1, none⟩ = some (.int .i64 r.t) ∧ W3.cell? ⟨w.heap.size, 2, none⟩ = some (.slice A r.us.length c) := ⟨e0.reads.1, e0.reads.2.1, e0.reads.2.2.1⟩
  clear S2 y0 y1 hown hg n2 r2 b2 al hne
  refine hK.out _ _ S3 (fun hHeld => ?_)
  clear hK K
  try simp only [Act.put, List.getElem_toArray, List.getElem_cons_succ, List.getElem_cons_zero, List.setIfInBounds_toArray, List.set_cons_zero, List.set_cons_succ]
  refine wpAnyH_take (i := 8) (oi := _) (v := ?_) rfl (by kernel_rfl) (by kernel_rfl) (by kernel_rfl) (fun _ _ _ h => h) (Or.inl ⟨by rfl, ?_⟩) hHeld ?_
  rotate_left
  · (intro w' hSw; (try dsimp only at hSw); go_simp <;> with_reducible rfl)
  try simp only [Act.put, List.getElem_toArray, List.getElem_cons_succ, List.getElem_cons_zero, List.setIfInBounds_toArray, List.set_cons_zero, List.set_cons_succ]
  obtain ⟨t0, t1, t2, tf⟩ := id e1.reads
  have tf0 := tf 0
  have tf1 := tf 1
  have tf2 := tf 2
  clear tf
  refine wpAnyH_ready (rs := [9]) (by kernel_rfl) (by simp) (AllReadyH.cons (o := _) rfl (fun K hK => ?_) AllReadyH.nil)
  try simp only [Act.put, List.getElem_toArray, List.getElem_cons_succ, List.getElem_cons_zero, List.setIfInBounds_toArray, List.set_cons_zero, List.set_cons_succ]
  go_simp
  have f0 := ((e0.far (p := ⟨w.heap.size + 1, 0, none⟩) (by show w.heap.size ≠ w.heap.size + 1; omega) (.int .i64 r.k)).far (p := ⟨w.heap.size + 1, 1, none⟩) (by show w.heap.size ≠ w.heap.size + 1; omega) (.int .i64 r.t)).far (p := ⟨w.heap.size + 1, 2, none⟩) (by show w.heap.size ≠ w.heap.size + 1; omega) (.slice A5 r.us.length c5)
  refine hK.out _ _ ⟨f0.reads.1, f0.reads.2.1, f0.reads.2.2.1⟩ (fun hHeld => ?_)
  clear hK K
  try simp only [Act.put, List.getElem_toArray, List.getElem_cons_succ, List.getElem_cons_zero, List.setIfInBounds_toArray, List.set_cons_zero, List.set_cons_succ]
  refine wpAnyH_done (by kernel_rfl) ?_ _
  obtain ⟨p0, p1, p2, -⟩ := (((e1.set0 (.int .i64 r.k)).set1 (.int .i64 r.t)).set2 (.slice A5 r.us.length c5)).reads
  have b9 := ((b3.setCell (p := ⟨w.heap.size + 1, 0, none⟩) (Nat.le_succ _) (.int .i64 r.k)).setCell (p := ⟨w.heap.size + 1, 1, none⟩) (Nat.le_succ _) (.int .i64 r.t)).setCell (p := ⟨w.heap.size + 1, 2, none⟩) (Nat.le_succ _) (.slice A5 r.us.length c5)
  have o9 := ((o3.keptT (by decide) (but_set W3 (w.heap.size + 1) 0 (.int .i64 r.k)) (blk_type e1)).keptT (by decide) (but_set _ (w.heap.size + 1) 1 (.int .i64 r.t)) (blk_type (e1.set0 _))).keptT (by decide) (but_set _ (w.heap.size + 1) 2 (.slice A5 r.us.length c5)) (blk_type ((e1.set0 _).set1 _))
  clear hHeld S3 f0 t0 t1 t2 tf0 tf1 tf2 e0 e1
  go_wp2
  exact bodyPost_ret (v := .agg #[.int .i64 r.k, .int .i64 r.t, .slice A5 r.us.length c5]) (by simp [results, Tryd.results84, go_sem, p0, p1, p2]) rfl ⟨A5, c5, rfl, hc5, o9, b9⟩
/-- What the loop over records holds: the argument's box, the result's; the copies of the records out in a slice of the call's own. -/
def CpI (w : World) (A : Option Addr) (n c : Nat) (Ao : Option Addr) (co : Nat) (out : List Rec) (wr : World) : Prop :=
  Blk1 wr w.heap.size 25 (.slice A n c) ∧ Blk1 wr (w.heap.size + 1) 25 (.slice none 0 0) ∧ OwnRecF wr w.heap.size (.slice Ao out.length co) out ∧ Below w.heap.size w wr
section
variable {w wr w6 w8 : World} {A Ao A5 : Option Addr} {n c co c5 : Nat} {out : List Rec}
theorem CpI.later (h : CpI w A n c Ao co out wr) (hb : Below wr.heap.size wr w6) : CpI w A n c Ao co out w6 := by
  obtain ⟨h1, h2, h5, h6⟩ := h
  exact ⟨h1.later hb, h2.later hb, h5.below hb, h6.trans (hb.mono h6.size)⟩
theorem CpI.put {r : Rec} {v' : Value} {ys : List Value} {N : Nat} (h : CpI w A n c Ao co out w6) (har : ∀ j (hj : j < out.length), RecIs w6 w.heap.size ys j out[j]) (hap : AptR ys out.length) (hold : ∀ j u g, j < out.length → ys[j * 3 + 2]? = some u → u.ownBlock = some g → g < N) (hrow : w6.ownsRow w.heap.size 42 3 (.slice Ao out.length co) out.length ys)
    (o5 : OwnUps w6 w.heap.size (.slice A5 r.us.length c5) r.us) (hnew : ∀ g, (Value.slice A5 r.us.length c5).ownBlock = some g → N ≤ g) (hc5 : r.us.length ≤ c5)
    (hown : w8.ownsRow w.heap.size 42 3 v' (out.length + 1) (ys ++ [.int .i64 r.k, .int .i64 r.t, .slice A5 r.us.length c5])) (hg : (w6.alloc (.cells #[.int .i64 r.k, .int .i64 r.t, .slice A5 r.us.length c5] 42)).grownBy w8 (Value.slice Ao out.length co).ownBlock) :
    ∃ Ao' co', v' = .slice Ao' (out.length + 1) co' ∧ CpI w A n c Ao' co' (out ++ [r]) w8 := by
  obtain ⟨h1, h2, h5, h6⟩ := h
  have al := (Below.refl w6.heap.size w6).alloc (Nat.le_refl _) (.cells #[.int .i64 r.k, .int .i64 r.t, .slice A5 r.us.length c5] 42)
  have hrow' := World.ownsRow.alloc hrow (.cells #[.int .i64 r.k, .int .i64 r.t, .slice A5 r.us.length c5] 42)
  have oa := OwnRecF.app har hap hold hnew hc5 o5 hrow hown hg
  have hlt := World.ownsRow.lt hrow
  have k1 := (h1.later al).grown hg (blk_ne_row (h1.later al) hrow' (by decide))
  have k2 := (h2.later al).grown hg (blk_ne_row (h2.later al) hrow' (by decide))
  have hb8 : Below w.heap.size w w8 := (h6.alloc h6.size _).grown hg (by have := h6.size; simp; omega) (fun j hj => (hlt j hj).1)
  obtain ⟨Ao', co', e, -, -⟩ := oa.own.form
  rw [List.length_append, List.length_singleton] at e
  subst e
  refine ⟨Ao', co', rfl, k1, k2, ?_, hb8⟩
  rw [List.length_append, List.length_singleton]
  exact oa
end
set_option maxRecDepth 100000 in
set_option maxHeartbeats 8000000 in
theorem shdCopied_is (v : Value) (rs : List Rec) (w : World) (h : Shd w w.heap.size v rs) (hf : FitR rs) :
    Calls Tryd.prog 61 #[v] w (NewShF rs w) := by
  obtain ⟨i0, hi, hz0, hz1, hz2⟩ := info_of info_rec
  obtain ⟨A, c, rfl, h0, hc⟩ := h
  unfold shV
  have b0 := (((Below.refl w.heap.size w).alloc (Nat.le_refl _) (.cells #[.slice A rs.length c] 25)).alloc (by simp) (.cells #[.slice none 0 0] 25))
  have x0 := (Blk1.new_ w 25 (.slice A rs.length c)).alloc (.cells #[.slice none 0 0] 25)
  have x1 := Blk1.new_ (w.alloc (.cells #[.slice A rs.length c] 25)) 25 (.slice none 0 0)
  rw [World.size_alloc] at x1
  go_enter Tryd.func61, Tryd.ntmps61
  go_upto_region 1 with fail
  obtain ⟨w1, hw1⟩ : ∃ w1, (w.alloc (.cells #[.slice A rs.length c] 25)).alloc (.cells #[.slice none 0 0] 25) = w1 := ⟨_, rfl⟩
  rw [hw1] at b0 x0 x1 ⊢
  clear hw1
  have al := (Below.refl w1.heap.size w1).alloc (Nat.le_refl _) (.cells #[] 42)
  have S0 : CpI w A rs.length c (some ⟨w1.heap.size, 0, none⟩) 0 [] (w1.alloc (.cells #[] 42)) := ⟨x0.later al, x1.later al, OwnRecF.nil_new b0.size, b0.trans (al.mono b0.size)⟩
  clear b0 x0 x1 al
  go_upto_region 2 with fail
  obtain ⟨w2, hw2⟩ : ∃ x, w1.alloc (.cells #[] 42) = x := ⟨_, rfl⟩
  rw [hw2] at S0 ⊢
  clear hw2
  obtain ⟨y0, -⟩ := id S0.1.reads
  go_wp2_with fail
  go_loopw [3, 10] (fun o i wr => ∃ (k : Nat) (Ao : Option Addr) (co : Nat), k ≤ rs.length ∧ i = .int .i64 k ∧ o = .slice Ao k co ∧ Hid ((rs.take k).length = k) ∧ CpI w A rs.length c Ao co (rs.take k) wr) (fun _ i _ => rs.length - (intOf i).toNat)
  case atStart => exact ⟨0, _, _, Nat.zero_le _, rfl, rfl, rfl, S0⟩
  case round =>
    obtain ⟨k, Ao, co, hk, rfl, rfl, HL, S⟩ := hrel
    clear S0 y0
    have hb := S.2.2.2
    have hz := hb.size
    obtain ⟨y0, -⟩ := id S.1.reads
    by_cases hlt : k < rs.length
    · obtain ⟨r, ad, A', c', ho, rfl, ha, g0, g1, g2, g3, g4⟩ := (h0.below hb (Nat.le_refl _)).rec hlt
      have q0 : (0 : Int) ≤ (k : Int) := by omega
      have q1 : (k : Int) < (rs.length : Int) := by omega
      have hT : Hid (rs.take (k + 1) = rs.take k ++ [r]) := by
        show _ = _
        rw [List.take_succ_eq_append_getElem hlt, ho]
      have hr1 := hf.2 r (by rw [← ho]; exact List.getElem_mem hlt)
      have hf1 := hf.1
      obtain ⟨out, hout⟩ : ∃ out, rs.take k = out := ⟨_, rfl⟩
      rw [hout] at S hT HL
      have x3 := Blk3s.new_ wr 42 (.int .i64 r.k) (.int .i64 r.t) (.slice A' r.us.length c')
      have al := (Below.refl wr.heap.size wr).alloc (Nat.le_refl _) (.cells #[.int .i64 r.k, .int .i64 r.t, .slice A' r.us.length c'] 42)
      have CR : Hid (∀ x, Below wr.heap.size wr x → Calls Tryd.prog 84 #[.agg #[.int .i64 r.k, .int .i64 r.t, .slice A' r.us.length c']] x (NewRec r x)) := fun x hx => recCopied_is A' c' r x ((g4.below hx hz).more (Nat.le_trans hz hx.size)) hr1
      clear hout ho
      go_upto_region 5 with fail
      obtain ⟨w3, hw3⟩ : ∃ w3, wr.alloc (.cells #[.int .i64 r.k, .int .i64 r.t, .slice A' r.us.length c'] 42) = w3 := ⟨_, rfl⟩
      rw [hw3] at x3 al ⊢
      clear hw3 y0 g0 g1 g2
      obtain ⟨e0, e1, e2, -⟩ := id x3.reads
      have S3 := S.later al
      have z3 := al.size
      go_wp2_with fail
      refine (CR.out _ al).mono ?_
      rintro e w4 ⟨A5, c5, rfl, hc5, o5, d5⟩
      have S4 := S3.later d5
      obtain ⟨xs3, hr3, ha3, hp3⟩ := id S3.2.2.1
      have hold : ∀ j u g, j < out.length → xs3[j * 3 + 2]? = some u → u.ownBlock = some g → g < w3.heap.size := fun j u g hj hu hg => ((ha3 j hj).lt u g hu hg).2
      have hnew : ∀ g, (Value.slice A5 r.us.length c5).ownBlock = some g → w3.heap.size ≤ g := o5.lt
      have hrow4 := own_below hr3 d5 (Nat.le_refl _)
      have har4 : ∀ j (hj : j < out.length), RecIs w4 w.heap.size xs3 j out[j] := fun j hj => by
        obtain ⟨A2, c2, k0, k1, k2, k3, k4⟩ := ha3 j hj
        exact ⟨A2, c2, k0, k1, k2, k3, k4.below d5⟩
      have o5' := o5.base (B' := w.heap.size) (Nat.le_trans hz z3)
      have z4 : w.heap.size ≤ w4.heap.size := S4.2.2.2.size
      have HP := hid fun (v8 : Value) (w8 : World) h1 h2 => S4.put (r := r) (v' := v8) (w8 := w8) (N := w3.heap.size) har4 hp3 hold hrow4 o5' hnew hc5 h1 h2
      rw [HL.out] at hrow4 HP
      clear e0 e1 e2 x3 al S S3 S4 d5 hr3 ha3 hp3 hold hnew har4 o5 o5' CR g4 hz z3 hb
      go_wp2_with (at_builtin; go_must (refine wpList_append_row _ rfl _ _ 23 rfl w.heap.size 42 i0 (.agg #[.int .i64 0, .int .i64 0, .slice none 0 0]) 3 40 Tryd.underlying23 hi hz0 hz1 hz2 rfl (by decide) _ k xs3 rfl (World.ownsRow.alloc hrow4 _) _ (some ⟨w4.heap.size, 0, none⟩) 1 1 [.int .i64 r.k, .int .i64 r.t, .slice A5 r.us.length c5] rfl (row_three w4 _ _ _ _) rfl (rec_cells _ _ _ _ _) (by unfold maxLen; omega) (by omega) (by simp; omega) ?_); intro v8 w8 hown8 hg8; obtain ⟨Ao8, co8, rfl, S8⟩ := HP.out v8 w8 hown8 hg8)
      go_roundw
      case rel => exact ⟨k + 1, Ao8, co8, hlt, by go_num, rfl, by show _ = _; rw [hT.out]; simp [HL.out], by rw [hT.out]; exact S8⟩
      case measure => simp [intOf]; omega
    · have hk' : k = rs.length := by omega
      subst hk'
      rw [List.take_length] at S
      obtain ⟨s1, s2, s5, s6⟩ := S
      obtain ⟨t0, tf⟩ := id s2.reads
      have tf0 := tf 0
      clear tf
      have o9 := s5.keptT (by decide) (by decide) (but_set wr (w.heap.size + 1) 0 (.slice Ao rs.length co)) (blk_type s2)
      have b9 := s6.setCell (p := ⟨w.heap.size + 1, 0, none⟩) (Nat.le_succ _) (.slice Ao rs.length co)
      obtain ⟨p0, -⟩ := (s2.set0 (.slice Ao rs.length co)).reads
      clear s1 s2 s5 s6
      go_wp2
      exact bodyPost_ret (v := .agg #[.slice Ao rs.length co]) (by simp [results, Tryd.results61, go_sem, p0]) rfl ⟨_, rfl, OwnShF.mk_ o9, b9⟩
end Go.Proofs.YthmnaljncapmeabDoor
namespace Go.Proofs.YthmnaljncapmeabDoor
open Go.RowKit Wo Pu Rf Lk Sh

/- The new record in a slice of its own. -/
/- The append and what follows. -/
/-- What lies in memory behind the append: the boxes, the longer list. -/
def ExtF (w : World) (A : Option Addr) (c : Nat) (g : Nat) (A8 : Option Addr) (c8 : Nat) (rs : List Rec) (r : Rec) (y : World) : Prop :=
  Blk1 y w.heap.size 25 (.slice A rs.length c) ∧ Blk1 y (w.heap.size + 1 + 1) 25 (.slice none 0 0) ∧ Blk1 y g 25 (.slice A8 (rs.length + 1) c8) ∧ OwnRecF y w.heap.size (.slice A8 (rs.length + 1) c8) (rs ++ [r]) ∧ Below w.heap.size w y
set_option linter.unusedSimpArgs false in
set_option maxRecDepth 100000 in
set_option maxHeartbeats 16000000 in
theorem extended_is (er0 er1 : Addr) (b : Bool) (xs : List Rec) (v : Value) (rs : List Rec) (A3 : Option Addr) (c3 : Nat) (r : Rec) (w : World) (h : Shd w w.heap.size v rs) (hE : Errs er0 er1 w) (h30 : rs.length ≤ 30) (hf : FitR rs) (hu : Row w w.heap.size A3 (upsV r.us)) (hul : r.us.length ≤ 1048576) (hb : b = true ↔ Vld (rs ++ [r])) (hxs : xs = if b then rs ++ [r] else rs) :
    Calls Tryd.prog 62 #[v, .agg #[.int .i64 r.k, .int .i64 r.t, .slice A3 r.us.length c3]] w (NewShFB xs b w) := by
  obtain ⟨i0, hi, hz0, hz1, hz2⟩ := info_of info_rec
  have hf2 : FitR (rs ++ [r]) := ⟨by simp; omega, fun x hx => by
    rcases List.mem_append.1 hx with hx | hx
    · exact hf.2 x hx
    · rw [List.mem_singleton] at hx; rw [hx]; exact hul⟩
  have CV : Hid (∀ v x, Below w.heap.size w x → Shd x x.heap.size v (rs ++ [r]) → Calls Tryd.prog 15 #[v] x (Ret (.bool b) x)) := fun v x hx hv => implShardValid_is er0 er1 b v (rs ++ [r]) x hv (hE.below hx) hf2 hb
  have CC : Hid (∀ x, Below w.heap.size w x → Calls Tryd.prog 61 #[v] x (NewShF rs x)) := fun x hx => shdCopied_is v rs x (h.on hx hx.size) hf
  have CR : Hid (∀ x, Below w.heap.size w x → Calls Tryd.prog 84 #[.agg #[.int .i64 r.k, .int .i64 r.t, .slice A3 r.us.length c3]] x (NewRec r x)) := fun x hx => recCopied_is A3 c3 r x (row_on hu hx) hul
  have HXS := hid hxs
  obtain ⟨A, c, rfl, h0, hc⟩ := h
  unfold shV at *
  clear hb hE hxs hf2 hf hu
  have b0 := ((((Below.refl w.heap.size w).alloc (Nat.le_refl _) (.cells #[.slice A rs.length c] 25)).alloc (by simp) (.cells #[.int .i64 r.k, .int .i64 r.t, .slice A3 r.us.length c3] 42))).alloc (by simp; omega) (.cells #[.slice none 0 0] 25)
  have x0 := ((Blk1.new_ w 25 (.slice A rs.length c)).alloc (.cells #[.int .i64 r.k, .int .i64 r.t, .slice A3 r.us.length c3] 42)).alloc (.cells #[.slice none 0 0] 25)
  have x1 := (Blk3s.new_ (w.alloc (.cells #[.slice A rs.length c] 25)) 42 (.int .i64 r.k) (.int .i64 r.t) (.slice A3 r.us.length c3)).alloc (.cells #[.slice none 0 0] 25)
  have x2 := Blk1.new_ ((w.alloc (.cells #[.slice A rs.length c] 25)).alloc (.cells #[.int .i64 r.k, .int .i64 r.t, .slice A3 r.us.length c3] 42)) 25 (.slice none 0 0)
  simp only [World.size_alloc] at x1 x2
  go_enter Tryd.func62, Tryd.ntmps62
  go_upto_region 1 with fail
  obtain ⟨w1, hw1⟩ : ∃ x, ((w.alloc (.cells #[.slice A rs.length c] 25)).alloc (.cells #[.int .i64 r.k, .int .i64 r.t, .slice A3 r.us.length c3] 42)).alloc (.cells #[.slice none 0 0] 25) = x := ⟨_, rfl⟩
  rw [hw1] at b0 x0 x1 x2 ⊢
  clear hw1
  obtain ⟨y0, -⟩ := id x0.reads
  go_wp2_with fail
  refine (CC.out _ b0).mono ?_
  rintro e w2 ⟨v2, rfl, ⟨A2, c2, rfl, o2, hc2⟩, d2⟩
  unfold shV
  have b2 := b0.trans (d2.mono b0.size)
  have o2' := o2.base (B' := w.heap.size) b0.size
  have zw1 : w.heap.size + 1 + 1 < w1.heap.size := x2.lt
  have HRB : Hid (∀ k, (Value.slice A2 rs.length c2).ownBlock = some k → w.heap.size + 1 < k) := fun k hk => by have := o2.own.lt k hk; omega
  have zw2 := d2.size
  clear y0 o2
  go_upto_region 2 with fail
  have al := (Below.refl w2.heap.size w2).alloc (Nat.le_refl _) (.cells #[.slice A2 rs.length c2] 25)
  have xg := Blk1.new_ w2 25 (.slice A2 rs.length c2)
  obtain ⟨w3, hw3⟩ : ∃ x, w2.alloc (.cells #[.slice A2 rs.length c2] 25) = x := ⟨_, rfl⟩
  rw [hw3] at al xg ⊢
  clear hw3
  have b3 := b2.trans (al.mono b2.size)
  have d3 := d2.trans (al.mono d2.size)
  replace x0 := x0.later d3
  replace x1 := x1.later d3
  replace x2 := x2.later d3
  have o3 := o2'.below al
  have zg : w.heap.size + 2 < w2.heap.size := by omega
  obtain ⟨g, hgg⟩ : ∃ g, w2.heap.size = g := ⟨_, rfl⟩
  rw [hgg] at xg zg ⊢
  clear d2 d3 al o2' b0 b2 hgg
  have HKP : Hid (∀ x, Below (w3.drewN 1).heap.size (w3.drewN 1) x → (x.cell? ⟨w.heap.size + 1, 0, none⟩ = some (.int .i64 r.k) ∧ x.cell? ⟨w.heap.size + 1, 1, none⟩ = some (.int .i64 r.t) ∧ x.cell? ⟨w.heap.size + 1, 2, none⟩ = some (.slice A3 r.us.length c3)) ∧ x.cell? ⟨g, 0, none⟩ = some (.slice A2 rs.length c2)) := fun x hx => by
    have q1 := (show Blk3s (w3.drewN 1) (w.heap.size + 1) _ _ _ _ from x1).later hx
    have q2 := (show Blk1 (w3.drewN 1) g _ _ from xg).later hx
    exact ⟨⟨q1.reads.1, q1.reads.2.1, q1.reads.2.2.1⟩, q2.reads.1⟩
  have b3d := Wo.Below.drewN b3 1
  have CRc : Hid (∀ x, Below (w3.drewN 1).heap.size (w3.drewN 1) x → Calls Tryd.prog 84 #[.agg #[.int .i64 r.k, .int .i64 r.t, .slice A3 r.us.length c3]] x (NewRec r x)) := fun x hx => CR.out x (b3d.trans (hx.mono b3d.size))
  have NB := Below.refl (w3.drewN 1).heap.size (w3.drewN 1)
  have y1 := xg.reads.1
  obtain ⟨xs3, hr3, ha3, hp3⟩ := id o3
  have hr3d : (w3.drewN 1).ownsRow w.heap.size 42 3 (.slice A2 rs.length c2) rs.length xs3 := hr3
  have HRW : Hid (∀ x, Below (w3.drewN 1).heap.size (w3.drewN 1) x → x.ownsRow w.heap.size 42 3 (.slice A2 rs.length c2) rs.length xs3) := fun x hx => own_below hr3d hx (Nat.le_refl _)
  have HZW : Hid (∀ x, Below (w3.drewN 1).heap.size (w3.drewN 1) x → w.heap.size ≤ x.heap.size) := fun x hx => Nat.le_trans b3d.size hx.size
  have HP : Hid (∀ (w4 w8 : World) (A5 : Option Addr) (c5 : Nat) (v8 : Value), Below (w3.drewN 1).heap.size (w3.drewN 1) w4 → OwnUps w4 (w3.drewN 1).heap.size (.slice A5 r.us.length c5) r.us → r.us.length ≤ c5 →
      w8.ownsRow w.heap.size 42 3 v8 (rs.length + 1) (xs3 ++ [.int .i64 r.k, .int .i64 r.t, .slice A5 r.us.length c5]) → (w4.alloc (.cells #[.int .i64 r.k, .int .i64 r.t, .slice A5 r.us.length c5] 42)).grownBy w8 (Value.slice A2 rs.length c2).ownBlock →
      ∃ A8 c8, v8 = .slice A8 (rs.length + 1) c8 ∧ (w8.cell? ⟨w.heap.size + 1, 0, none⟩ = some (.int .i64 r.k) ∧ w8.cell? ⟨w.heap.size + 1, 1, none⟩ = some (.int .i64 r.t) ∧ w8.cell? ⟨w.heap.size + 1, 2, none⟩ = some (.slice A3 r.us.length c3)) ∧
        ((∃ u, w8.cell? ⟨g, 0, none⟩ = some u) ∧ w8.frozen? ⟨g, 0, none⟩ = false) ∧ ExtF w A c g A8 c8 rs r (w8.setCell ⟨g, 0, none⟩ (.slice A8 (rs.length + 1) c8)) ∧
        ((w8.setCell ⟨g, 0, none⟩ (.slice A8 (rs.length + 1) c8)).cell? ⟨w.heap.size + 1, 0, none⟩ = some (.int .i64 r.k) ∧ (w8.setCell ⟨g, 0, none⟩ (.slice A8 (rs.length + 1) c8)).cell? ⟨w.heap.size + 1, 1, none⟩ = some (.int .i64 r.t) ∧ (w8.setCell ⟨g, 0, none⟩ (.slice A8 (rs.length + 1) c8)).cell? ⟨w.heap.size + 1, 2, none⟩ = some (.slice A3 r.us.length c3))) := by
    intro w4 w8 A5 c5 v8 hb4 ho5 hc5 hown hg8
    have hrow4 := HRW.out w4 hb4
    have al := (Below.refl w4.heap.size w4).alloc (Nat.le_refl _) (.cells #[.int .i64 r.k, .int .i64 r.t, .slice A5 r.us.length c5] 42)
    have hrow' := World.ownsRow.alloc hrow4 (.cells #[.int .i64 r.k, .int .i64 r.t, .slice A5 r.us.length c5] 42)
    have har4 : ∀ j (hj : j < rs.length), RecIs w4 w.heap.size xs3 j rs[j] := fun j hj => by
      obtain ⟨A2, c2, k0, k1, k2, k3, k4⟩ := ha3 j hj
      exact ⟨A2, c2, k0, k1, k2, k3, (show OwnUps (w3.drewN 1) w.heap.size _ _ from k4).below hb4⟩
    have hold : ∀ j u g, j < rs.length → xs3[j * 3 + 2]? = some u → u.ownBlock = some g → g < (w3.drewN 1).heap.size := fun j u g hj hu hg => ((ha3 j hj).lt u g hu hg).2
    have oa := OwnRecF.app har4 hp3 hold ho5.lt hc5 (ho5.base (B' := w.heap.size) b3d.size) hrow4 hown hg8
    have q0 := (show Blk1 (w3.drewN 1) w.heap.size _ _ from x0).later hb4
    have q1 := (show Blk3s (w3.drewN 1) (w.heap.size + 1) _ _ _ _ from x1).later hb4
    have q2 := (show Blk1 (w3.drewN 1) (w.heap.size + 1 + 1) _ _ from x2).later hb4
    have qg := (show Blk1 (w3.drewN 1) g _ _ from xg).later hb4
    have k0 := (q0.later al).grown hg8 (blk_ne_row (q0.later al) hrow' (by decide))
    have k1 := (q1.later al).grown hg8 (fun e => by have := HRB.out _ e.symm; omega)
    have k2 := (q2.later al).grown hg8 (blk_ne_row (q2.later al) hrow' (by decide))
    have kg := (qg.later al).grown hg8 (blk_ne_row (qg.later al) hrow' (by decide))
    have b4 := b3d.trans (hb4.mono b3d.size)
    have hb8 : Below w.heap.size w w8 := (b4.alloc b4.size _).grown hg8 (by have := b4.size; simp; omega) (fun j hj => (World.ownsRow.lt hrow4 j hj).1)
    obtain ⟨A8, c8, e, -, -⟩ := oa.own.form
    rw [List.length_append, List.length_singleton] at e
    subst e
    have n1 := k1.far (p := ⟨g, 0, none⟩) (by show w.heap.size + 1 ≠ g; omega) (.slice A8 (rs.length + 1) c8)
    exact ⟨A8, c8, rfl, ⟨k1.reads.1, k1.reads.2.1, k1.reads.2.2.1⟩, ⟨⟨_, kg.reads.1⟩, kg.reads.2 0⟩, ⟨k0.far (by show w.heap.size ≠ g; omega) _, k2.far (by show w.heap.size + 1 + 1 ≠ g; omega) _, kg.set0 _, oa.keptT (by decide) (by decide) (but_set w8 g 0 _) (blk_type kg), hb8.setCell (by show w.heap.size ≤ g; omega) _⟩, n1.reads.1, n1.reads.2.1, n1.reads.2.2.1⟩
  clear hr3 hr3d ha3 hp3 o3 x0 x1 x2 CR
  refine wp_region_held_drew (S := fun x => x.cell? ⟨w.heap.size + 1, 0, none⟩ = some (.int .i64 r.k) ∧ x.cell? ⟨w.heap.size + 1, 1, none⟩ = some (.int .i64 r.t) ∧ x.cell? ⟨w.heap.size + 1, 2, none⟩ = some (.slice A3 r.us.length c3)) (by kernel_rfl) (HKP.out _ NB).1 (fun hHeld => ?_)
  try simp only [Act.put, List.getElem_toArray, List.getElem_cons_succ, List.getElem_cons_zero, List.setIfInBounds_toArray, List.set_cons_zero, List.set_cons_succ]
  refine wpAnyH_take (i := 0) (oi := _) (v := ?_) rfl (by kernel_rfl) (by kernel_rfl) (by kernel_rfl) (fun _ _ _ h => h) (Or.inl ⟨by rfl, ?_⟩) hHeld ?_
  rotate_left
  · (intro w' hSw; (try dsimp only at hSw); go_simp <;> with_reducible rfl)
  try simp only [Act.put, List.getElem_toArray, List.getElem_cons_succ, List.getElem_cons_zero, List.setIfInBounds_toArray, List.set_cons_zero, List.set_cons_succ]
  refine wpAnyH_take (i := 2) (oi := _) (v := ?_) rfl (by kernel_rfl) (by kernel_rfl) (by kernel_rfl) (fun _ _ _ h => h) (Or.inl ⟨by rfl, ?_⟩) hHeld ?_
  rotate_left
  · (intro w' hSw; (try dsimp only at hSw); go_simp <;> with_reducible rfl)
  try simp only [Act.put, List.getElem_toArray, List.getElem_cons_succ, List.getElem_cons_zero, List.setIfInBounds_toArray, List.set_cons_zero, List.set_cons_succ]
  refine wpAnyH_ready (rs := [1, 3]) (by kernel_rfl) (by simp) (AllReadyH.cons (o := _) rfl (fun K hK => ?_) (AllReadyH.cons (o := _) rfl (fun K hK => ?_) AllReadyH.nil))
  · skip
    try simp only [Act.put, List.getElem_toArray, List.getElem_cons_succ, List.getElem_cons_zero, List.setIfInBounds_toArray, List.set_cons_zero, List.set_cons_succ]
    go_simp
    refine hK.out _ _ (HKP.out _ NB).1 (fun hHeld => ?_)
    clear hK K
    try simp only [Act.put, List.getElem_toArray, List.getElem_cons_succ, List.getElem_cons_zero, List.setIfInBounds_toArray, List.set_cons_zero, List.set_cons_succ]
    refine wpAnyH_ready (rs := [3]) (by kernel_rfl) (by simp) (AllReadyH.cons (o := _) rfl (fun K hK => ?_) AllReadyH.nil)
    try simp only [Act.put, List.getElem_toArray, List.getElem_cons_succ, List.getElem_cons_zero, List.setIfInBounds_toArray, List.set_cons_zero, List.set_cons_succ]
    go_simp
    go_at_call 84
    refine (CRc.out _ NB).mono ?_
    rintro e w4 ⟨A5, c5, rfl, hc5, o5, d4⟩
    have NB4 := NB.trans (d4.mono NB.size)
    have y4 := (HKP.out _ NB4).2
    refine hK.out _ _ (HKP.out _ NB4).1 (fun hHeld => ?_)
    clear hK K
    try simp only [Act.put, List.getElem_toArray, List.getElem_cons_succ, List.getElem_cons_zero, List.setIfInBounds_toArray, List.set_cons_zero, List.set_cons_succ]
    refine wpAnyH_ready (rs := [4]) (by kernel_rfl) (by simp) (AllReadyH.cons (o := _) rfl (fun K hK => ?_) AllReadyH.nil)
    try simp only [Act.put, List.getElem_toArray, List.getElem_cons_succ, List.getElem_cons_zero, List.setIfInBounds_toArray, List.set_cons_zero, List.set_cons_succ]
    go_simp
    have al5 := (Below.refl w4.heap.size w4).alloc (Nat.le_refl _) (.cells #[.int .i64 r.k, .int .i64 r.t, .slice A5 r.us.length c5] 42)
    have NB5 := NB4.trans (al5.mono NB4.size)
    have y5 := (HKP.out _ NB5).2
    refine hK.out _ _ (HKP.out _ NB5).1 (fun hHeld => ?_)
    clear hK K
    try simp only [Act.put, List.getElem_toArray, List.getElem_cons_succ, List.getElem_cons_zero, List.setIfInBounds_toArray, List.set_cons_zero, List.set_cons_succ]
    refine wpAnyH_ready (rs := [5]) (by kernel_rfl) (by simp) (AllReadyH.cons (o := _) rfl (fun K hK => ?_) AllReadyH.nil)
    try simp only [Act.put, List.getElem_toArray, List.getElem_cons_succ, List.getElem_cons_zero, List.setIfInBounds_toArray, List.set_cons_zero, List.set_cons_succ]
    rw [if_pos (by rfl)]
    refine op_append_row1 _ (by rfl) _ _ 23 (by rfl) w.heap.size 42 i0 (.agg #[.int .i64 0, .int .i64 0, .slice none 0 0]) 3 40 Tryd.underlying23 hi hz0 hz1 hz2 rfl (by decide) (.slice A2 rs.length c2) rs.length xs3 (by rfl) (World.ownsRow.alloc (HRW.out _ NB4) _) _ (some ⟨w4.heap.size, 0, none⟩) 1 1 [.int .i64 r.k, .int .i64 r.t, .slice A5 r.us.length c5] (by rfl) (row_three w4 _ _ _ _) rfl (rec_cells _ _ _ _ _) (by unfold maxLen; omega) (by omega) (HZW.out _ NB5) ?_
    intro v8 w8 hown8 hg8
    obtain ⟨A8, c8, rfl, S8, ⟨⟨_, u0⟩, uf⟩, E8, S9⟩ := HP.out w4 w8 A5 c5 v8 NB4 o5 hc5 hown8 hg8
    clear hown8 hg8 y4 y5 al5 NB5 NB4 o5 d4
    refine hK.out _ _ S8 (fun hHeld => ?_)
    clear hK K
    try simp only [Act.put, List.getElem_toArray, List.getElem_cons_succ, List.getElem_cons_zero, List.setIfInBounds_toArray, List.set_cons_zero, List.set_cons_succ]
    refine wpAnyH_take (i := 6) (oi := _) (v := ?_) rfl (by kernel_rfl) (by kernel_rfl) (by kernel_rfl) (fun _ _ _ h => h) (Or.inl ⟨by rfl, ?_⟩) hHeld ?_
    rotate_left
    · (intro w' hSw; (try dsimp only at hSw); go_simp <;> with_reducible rfl)
    try simp only [Act.put, List.getElem_toArray, List.getElem_cons_succ, List.getElem_cons_zero, List.setIfInBounds_toArray, List.set_cons_zero, List.set_cons_succ]
    refine wpAnyH_ready (rs := [7]) (by kernel_rfl) (by simp) (AllReadyH.cons (o := _) rfl (fun K hK => ?_) AllReadyH.nil)
    try simp only [Act.put, List.getElem_toArray, List.getElem_cons_succ, List.getElem_cons_zero, List.setIfInBounds_toArray, List.set_cons_zero, List.set_cons_succ]
    go_simp
    refine hK.out _ _ S9 (fun hHeld => ?_)
    clear hK K
    try simp only [Act.put, List.getElem_toArray, List.getElem_cons_succ, List.getElem_cons_zero, List.setIfInBounds_toArray, List.set_cons_zero, List.set_cons_succ]
    refine wpAnyH_done (by kernel_rfl) ?_ _
    clear S8 S9 u0 uf hHeld HP HKP CRc HRW HZW
    obtain ⟨W9, hW9⟩ : ∃ x, w8.setCell ⟨g, 0, none⟩ (.slice A8 (rs.length + 1) c8) = x := ⟨_, rfl⟩
    rw [hW9] at E8 ⊢
    clear hW9
    obtain ⟨e0, e2, eg, oe, be⟩ := E8
    have hle : (rs ++ [r]).length = rs.length + 1 := by simp
    have HSH : Hid (Shd W9 W9.heap.size (.agg #[.slice A8 (rs.length + 1) c8]) (rs ++ [r])) := by
      have := (OwnShF.mk_ oe).own.shd
      exact this
    have OE := hid oe
    clear oe hle
    obtain ⟨y0, -⟩ := id e0.reads
    obtain ⟨yg, -⟩ := id eg.reads
    go_wp2_with fail
    refine (CV.out _ _ be HSH.out).mono ?_
    rintro e W10 ⟨rfl, d10⟩
    have be2 := be.trans (d10.mono be.size)
    have f0 := e0.later d10
    have f2 := e2.later d10
    have fg := eg.later d10
    have OE2 := hid (OE.out.below d10)
    clear y0 yg OE HSH CV e0 e2 eg be
    obtain ⟨y0, -⟩ := id f0.reads
    obtain ⟨yg, -⟩ := id fg.reads
    cases b with
    | true =>
      have ex : xs = rs ++ [r] := by rw [HXS.out]; rfl
      obtain ⟨t0, tf⟩ := id f2.reads
      have tf0 := tf 0
      clear tf
      have o9 := OE2.out.keptT (by decide) (by decide) (but_set W10 (w.heap.size + 1 + 1) 0 (.slice A8 (rs.length + 1) c8)) (blk_type f2)
      have b9 := be2.setCell (p := ⟨w.heap.size + 1 + 1, 0, none⟩) (by show w.heap.size ≤ w.heap.size + 1 + 1; omega) (.slice A8 (rs.length + 1) c8)
      obtain ⟨p0, -⟩ := (f2.set0 (.slice A8 (rs.length + 1) c8)).reads
      clear CC f0 f2 fg
      go_wp2
      refine bodyPost_ret (v := .tuple #[.agg #[.slice A8 (rs.length + 1) c8], .bool true]) (by simp [results, Tryd.results62, go_sem, p0]) rfl ?_
      rw [ex]
      exact ⟨_, rfl, OwnShF.mk_ o9, b9⟩
    | false =>
      have ex : xs = rs := by rw [HXS.out]; rfl
      go_wp2_with fail
      refine (CC.out _ be2).mono ?_
      rintro e W11 ⟨v11, rfl, ⟨A11, c11, rfl, o11, hc11⟩, d11⟩
      unfold shV
      have be3 := be2.trans (d11.mono be2.size)
      have h2 := f2.later d11
      obtain ⟨t0, tf⟩ := id h2.reads
      have tf0 := tf 0
      clear tf
      have o9 := (o11.base (B' := w.heap.size) be2.size).keptT (by decide) (by decide) (but_set W11 (w.heap.size + 1 + 1) 0 (.slice A11 rs.length c11)) (blk_type h2)
      have b9 := be3.setCell (p := ⟨w.heap.size + 1 + 1, 0, none⟩) (by show w.heap.size ≤ w.heap.size + 1 + 1; omega) (.slice A11 rs.length c11)
      obtain ⟨p0, -⟩ := (h2.set0 (.slice A11 rs.length c11)).reads
      clear CC f0 f2 fg h2 o11 d11 y0 yg
      go_wp2
      refine bodyPost_ret (v := .tuple #[.agg #[.slice A11 rs.length c11], .bool false]) (by simp [results, Tryd.results62, go_sem, p0]) rfl ?_
      rw [ex]
      exact ⟨_, rfl, OwnShF.mk_ o9, b9⟩
  · skip
    try simp only [Act.put, List.getElem_toArray, List.getElem_cons_succ, List.getElem_cons_zero, List.setIfInBounds_toArray, List.set_cons_zero, List.set_cons_succ]
    go_simp
    go_at_call 84
    refine (CRc.out _ NB).mono ?_
    rintro e w4 ⟨A5, c5, rfl, hc5, o5, d4⟩
    have NB4 := NB.trans (d4.mono NB.size)
    have y4 := (HKP.out _ NB4).2
    refine hK.out _ _ (HKP.out _ NB4).1 (fun hHeld => ?_)
    clear hK K
    try simp only [Act.put, List.getElem_toArray, List.getElem_cons_succ, List.getElem_cons_zero, List.setIfInBounds_toArray, List.set_cons_zero, List.set_cons_succ]
    refine wpAnyH_ready (rs := [1, 4]) (by kernel_rfl) (by simp) (AllReadyH.cons (o := _) rfl (fun K hK => ?_) (AllReadyH.cons (o := _) rfl (fun K hK => ?_) AllReadyH.nil))
    · skip
      try simp only [Act.put, List.getElem_toArray, List.getElem_cons_succ, List.getElem_cons_zero, List.setIfInBounds_toArray, List.set_cons_zero, List.set_cons_succ]
      go_simp
      refine hK.out _ _ (HKP.out _ NB4).1 (fun hHeld => ?_)
      clear hK K
      try simp only [Act.put, List.getElem_toArray, List.getElem_cons_succ, List.getElem_cons_zero, List.setIfInBounds_toArray, List.set_cons_zero, List.set_cons_succ]
      refine wpAnyH_ready (rs := [4]) (by kernel_rfl) (by simp) (AllReadyH.cons (o := _) rfl (fun K hK => ?_) AllReadyH.nil)
      try simp only [Act.put, List.getElem_toArray, List.getElem_cons_succ, List.getElem_cons_zero, List.setIfInBounds_toArray, List.set_cons_zero, List.set_cons_succ]
      go_simp
      have al5 := (Below.refl w4.heap.size w4).alloc (Nat.le_refl _) (.cells #[.int .i64 r.k, .int .i64 r.t, .slice A5 r.us.length c5] 42)
      have NB5 := NB4.trans (al5.mono NB4.size)
      have y5 := (HKP.out _ NB5).2
      refine hK.out _ _ (HKP.out _ NB5).1 (fun hHeld => ?_)
      clear hK K
      try simp only [Act.put, List.getElem_toArray, List.getElem_cons_succ, List.getElem_cons_zero, List.setIfInBounds_toArray, List.set_cons_zero, List.set_cons_succ]
      refine wpAnyH_ready (rs := [5]) (by kernel_rfl) (by simp) (AllReadyH.cons (o := _) rfl (fun K hK => ?_) AllReadyH.nil)
      try simp only [Act.put, List.getElem_toArray, List.getElem_cons_succ, List.getElem_cons_zero, List.setIfInBounds_toArray, List.set_cons_zero, List.set_cons_succ]
      rw [if_pos (by rfl)]
      refine op_append_row1 _ (by rfl) _ _ 23 (by rfl) w.heap.size 42 i0 (.agg #[.int .i64 0, .int .i64 0, .slice none 0 0]) 3 40 Tryd.underlying23 hi hz0 hz1 hz2 rfl (by decide) (.slice A2 rs.length c2) rs.length xs3 (by rfl) (World.ownsRow.alloc (HRW.out _ NB4) _) _ (some ⟨w4.heap.size, 0, none⟩) 1 1 [.int .i64 r.k, .int .i64 r.t, .slice A5 r.us.length c5] (by rfl) (row_three w4 _ _ _ _) rfl (rec_cells _ _ _ _ _) (by unfold maxLen; omega) (by omega) (HZW.out _ NB5) ?_
      intro v8 w8 hown8 hg8
      obtain ⟨A8, c8, rfl, S8, ⟨⟨_, u0⟩, uf⟩, E8, S9⟩ := HP.out w4 w8 A5 c5 v8 NB4 o5 hc5 hown8 hg8
      clear hown8 hg8 y4 y5 al5 NB5 NB4 o5 d4
      refine hK.out _ _ S8 (fun hHeld => ?_)
      clear hK K
      try simp only [Act.put, List.getElem_toArray, List.getElem_cons_succ, List.getElem_cons_zero, List.setIfInBounds_toArray, List.set_cons_zero, List.set_cons_succ]
      refine wpAnyH_take (i := 6) (oi := _) (v := ?_) rfl (by kernel_rfl) (by kernel_rfl) (by kernel_rfl) (fun _ _ _ h => h) (Or.inl ⟨by rfl, ?_⟩) hHeld ?_
      rotate_left
      · (intro w' hSw; (try dsimp only at hSw); go_simp <;> with_reducible rfl)
      try simp only [Act.put, List.getElem_toArray, List.getElem_cons_succ, List.getElem_cons_zero, List.setIfInBounds_toArray, List.set_cons_zero, List.set_cons_succ]
      refine wpAnyH_ready (rs := [7]) (by kernel_rfl) (by simp) (AllReadyH.cons (o := _) rfl (fun K hK => ?_) AllReadyH.nil)
      try simp only [Act.put, List.getElem_toArray, List.getElem_cons_succ, List.getElem_cons_zero, List.setIfInBounds_toArray, List.set_cons_zero, List.set_cons_succ]
      go_simp
      refine hK.out _ _ S9 (fun hHeld => ?_)
      clear hK K
      try simp only [Act.put, List.getElem_toArray, List.getElem_cons_succ, List.getElem_cons_zero, List.setIfInBounds_toArray, List.set_cons_zero, List.set_cons_succ]
      refine wpAnyH_done (by kernel_rfl) ?_ _
      clear S8 S9 u0 uf hHeld HP HKP CRc HRW HZW
      obtain ⟨W9, hW9⟩ : ∃ x, w8.setCell ⟨g, 0, none⟩ (.slice A8 (rs.length + 1) c8) = x := ⟨_, rfl⟩
      rw [hW9] at E8 ⊢
      clear hW9
      obtain ⟨e0, e2, eg, oe, be⟩ := E8
      have hle : (rs ++ [r]).length = rs.length + 1 := by simp
      have HSH : Hid (Shd W9 W9.heap.size (.agg #[.slice A8 (rs.length + 1) c8]) (rs ++ [r])) := by
        have := (OwnShF.mk_ oe).own.shd
        exact this
      have OE := hid oe
      clear oe hle
      obtain ⟨y0, -⟩ := id e0.reads
      obtain ⟨yg, -⟩ := id eg.reads
      go_wp2_with fail
      refine (CV.out _ _ be HSH.out).mono ?_
      rintro e W10 ⟨rfl, d10⟩
      have be2 := be.trans (d10.mono be.size)
      have f0 := e0.later d10
      have f2 := e2.later d10
      have fg := eg.later d10
      have OE2 := hid (OE.out.below d10)
      clear y0 yg OE HSH CV e0 e2 eg be
      obtain ⟨y0, -⟩ := id f0.reads
      obtain ⟨yg, -⟩ := id fg.reads
      cases b with
      | true =>
        have ex : xs = rs ++ [r] := by rw [HXS.out]; rfl
        obtain ⟨t0, tf⟩ := id f2.reads
        have tf0 := tf 0
        clear tf
        have o9 := OE2.out.keptT (by decide) (by decide) (but_set W10 (w.heap.size + 1 + 1) 0 (.slice A8 (rs.length + 1) c8)) (blk_type f2)
        have b9 := be2.setCell (p := ⟨w.heap.size + 1 + 1, 0, none⟩) (by show w.heap.size ≤ w.heap.size + 1 + 1; omega) (.slice A8 (rs.length + 1) c8)
        obtain ⟨p0, -⟩ := (f2.set0 (.slice A8 (rs.length + 1) c8)).reads
        clear CC f0 f2 fg
        go_wp2
        refine bodyPost_ret (v := .tuple #[.agg #[.slice A8 (rs.length + 1) c8], .bool true]) (by simp [results, Tryd.results62, go_sem, p0]) rfl ?_
        rw [ex]
        exact ⟨_, rfl, OwnShF.mk_ o9, b9⟩
      | false =>
        have ex : xs = rs := by rw [HXS.out]; rfl
        go_wp2_with fail
        refine (CC.out _ be2).mono ?_
        rintro e W11 ⟨v11, rfl, ⟨A11, c11, rfl, o11, hc11⟩, d11⟩
        unfold shV
        have be3 := be2.trans (d11.mono be2.size)
        have h2 := f2.later d11
        obtain ⟨t0, tf⟩ := id h2.reads
        have tf0 := tf 0
        clear tf
        have o9 := (o11.base (B' := w.heap.size) be2.size).keptT (by decide) (by decide) (but_set W11 (w.heap.size + 1 + 1) 0 (.slice A11 rs.length c11)) (blk_type h2)
        have b9 := be3.setCell (p := ⟨w.heap.size + 1 + 1, 0, none⟩) (by show w.heap.size ≤ w.heap.size + 1 + 1; omega) (.slice A11 rs.length c11)
        obtain ⟨p0, -⟩ := (h2.set0 (.slice A11 rs.length c11)).reads
        clear CC f0 f2 fg h2 o11 d11 y0 yg
        go_wp2
        refine bodyPost_ret (v := .tuple #[.agg #[.slice A11 rs.length c11], .bool false]) (by simp [results, Tryd.results62, go_sem, p0]) rfl ?_
        rw [ex]
        exact ⟨_, rfl, OwnShF.mk_ o9, b9⟩
    · skip
      try simp only [Act.put, List.getElem_toArray, List.getElem_cons_succ, List.getElem_cons_zero, List.setIfInBounds_toArray, List.set_cons_zero, List.set_cons_succ]
      go_simp
      have al5 := (Below.refl w4.heap.size w4).alloc (Nat.le_refl _) (.cells #[.int .i64 r.k, .int .i64 r.t, .slice A5 r.us.length c5] 42)
      have NB5 := NB4.trans (al5.mono NB4.size)
      have y5 := (HKP.out _ NB5).2
      refine hK.out _ _ (HKP.out _ NB5).1 (fun hHeld => ?_)
      clear hK K
      try simp only [Act.put, List.getElem_toArray, List.getElem_cons_succ, List.getElem_cons_zero, List.setIfInBounds_toArray, List.set_cons_zero, List.set_cons_succ]
      refine wpAnyH_ready (rs := [1]) (by kernel_rfl) (by simp) (AllReadyH.cons (o := _) rfl (fun K hK => ?_) AllReadyH.nil)
      try simp only [Act.put, List.getElem_toArray, List.getElem_cons_succ, List.getElem_cons_zero, List.setIfInBounds_toArray, List.set_cons_zero, List.set_cons_succ]
      go_simp
      refine hK.out _ _ (HKP.out _ NB5).1 (fun hHeld => ?_)
      clear hK K
      try simp only [Act.put, List.getElem_toArray, List.getElem_cons_succ, List.getElem_cons_zero, List.setIfInBounds_toArray, List.set_cons_zero, List.set_cons_succ]
      refine wpAnyH_ready (rs := [5]) (by kernel_rfl) (by simp) (AllReadyH.cons (o := _) rfl (fun K hK => ?_) AllReadyH.nil)
      try simp only [Act.put, List.getElem_toArray, List.getElem_cons_succ, List.getElem_cons_zero, List.setIfInBounds_toArray, List.set_cons_zero, List.set_cons_succ]
      rw [if_pos (by rfl)]
      refine op_append_row1 _ (by rfl) _ _ 23 (by rfl) w.heap.size 42 i0 (.agg #[.int .i64 0, .int .i64 0, .slice none 0 0]) 3 40 Tryd.underlying23 hi hz0 hz1 hz2 rfl (by decide) (.slice A2 rs.length c2) rs.length xs3 (by rfl) (World.ownsRow.alloc (HRW.out _ NB4) _) _ (some ⟨w4.heap.size, 0, none⟩) 1 1 [.int .i64 r.k, .int .i64 r.t, .slice A5 r.us.length c5] (by rfl) (row_three w4 _ _ _ _) rfl (rec_cells _ _ _ _ _) (by unfold maxLen; omega) (by omega) (HZW.out _ NB5) ?_
      intro v8 w8 hown8 hg8
      obtain ⟨A8, c8, rfl, S8, ⟨⟨_, u0⟩, uf⟩, E8, S9⟩ := HP.out w4 w8 A5 c5 v8 NB4 o5 hc5 hown8 hg8
      clear hown8 hg8 y4 y5 al5 NB5 NB4 o5 d4
      refine hK.out _ _ S8 (fun hHeld => ?_)
      clear hK K
      try simp only [Act.put, List.getElem_toArray, List.getElem_cons_succ, List.getElem_cons_zero, List.setIfInBounds_toArray, List.set_cons_zero, List.set_cons_succ]
      refine wpAnyH_take (i := 6) (oi := _) (v := ?_) rfl (by kernel_rfl) (by kernel_rfl) (by kernel_rfl) (fun _ _ _ h => h) (Or.inl ⟨by rfl, ?_⟩) hHeld ?_
      rotate_left
      · (intro w' hSw; (try dsimp only at hSw); go_simp <;> with_reducible rfl)
      try simp only [Act.put, List.getElem_toArray, List.getElem_cons_succ, List.getElem_cons_zero, List.setIfInBounds_toArray, List.set_cons_zero, List.set_cons_succ]
      refine wpAnyH_ready (rs := [7]) (by kernel_rfl) (by simp) (AllReadyH.cons (o := _) rfl (fun K hK => ?_) AllReadyH.nil)
      try simp only [Act.put, List.getElem_toArray, List.getElem_cons_succ, List.getElem_cons_zero, List.setIfInBounds_toArray, List.set_cons_zero, List.set_cons_succ]
      go_simp
      refine hK.out _ _ S9 (fun hHeld => ?_)
      clear hK K
      try simp only [Act.put, List.getElem_toArray, List.getElem_cons_succ, List.getElem_cons_zero, List.setIfInBounds_toArray, List.set_cons_zero, List.set_cons_succ]
      refine wpAnyH_done (by kernel_rfl) ?_ _
      clear S8 S9 u0 uf hHeld HP HKP CRc HRW HZW
      obtain ⟨W9, hW9⟩ : ∃ x, w8.setCell ⟨g, 0, none⟩ (.slice A8 (rs.length + 1) c8) = x := ⟨_, rfl⟩
      rw [hW9] at E8 ⊢
      clear hW9
      obtain ⟨e0, e2, eg, oe, be⟩ := E8
      have hle : (rs ++ [r]).length = rs.length + 1 := by simp
      have HSH : Hid (Shd W9 W9.heap.size (.agg #[.slice A8 (rs.length + 1) c8]) (rs ++ [r])) := by
        have := (OwnShF.mk_ oe).own.shd
        exact this
      have OE := hid oe
      clear oe hle
      obtain ⟨y0, -⟩ := id e0.reads
      obtain ⟨yg, -⟩ := id eg.reads
      go_wp2_with fail
      refine (CV.out _ _ be HSH.out).mono ?_
      rintro e W10 ⟨rfl, d10⟩
      have be2 := be.trans (d10.mono be.size)
      have f0 := e0.later d10
      have f2 := e2.later d10
      have fg := eg.later d10
      have OE2 := hid (OE.out.below d10)
      clear y0 yg OE HSH CV e0 e2 eg be
      obtain ⟨y0, -⟩ := id f0.reads
      obtain ⟨yg, -⟩ := id fg.reads
      cases b with
      | true =>
        have ex : xs = rs ++ [r] := by rw [HXS.out]; rfl
        obtain ⟨t0, tf⟩ := id f2.reads
        have tf0 := tf 0
        clear tf
        have o9 := OE2.out.keptT (by decide) (by decide) (but_set W10 (w.heap.size + 1 + 1) 0 (.slice A8 (rs.length + 1) c8)) (blk_type f2)
        have b9 := be2.setCell (p := ⟨w.heap.size + 1 + 1, 0, none⟩) (by show w.heap.size ≤ w.heap.size + 1 + 1; omega) (.slice A8 (rs.length + 1) c8)
        obtain ⟨p0, -⟩ := (f2.set0 (.slice A8 (rs.length + 1) c8)).reads
        clear CC f0 f2 fg
        go_wp2
        refine bodyPost_ret (v := .tuple #[.agg #[.slice A8 (rs.length + 1) c8], .bool true]) (by simp [results, Tryd.results62, go_sem, p0]) rfl ?_
        rw [ex]
        exact ⟨_, rfl, OwnShF.mk_ o9, b9⟩
      | false =>
        have ex : xs = rs := by rw [HXS.out]; rfl
        go_wp2_with fail
        refine (CC.out _ be2).mono ?_
        rintro e W11 ⟨v11, rfl, ⟨A11, c11, rfl, o11, hc11⟩, d11⟩
        unfold shV
        have be3 := be2.trans (d11.mono be2.size)
        have h2 := f2.later d11
        obtain ⟨t0, tf⟩ := id h2.reads
        have tf0 := tf 0
        clear tf
        have o9 := (o11.base (B' := w.heap.size) be2.size).keptT (by decide) (by decide) (but_set W11 (w.heap.size + 1 + 1) 0 (.slice A11 rs.length c11)) (blk_type h2)
        have b9 := be3.setCell (p := ⟨w.heap.size + 1 + 1, 0, none⟩) (by show w.heap.size ≤ w.heap.size + 1 + 1; omega) (.slice A11 rs.length c11)
        obtain ⟨p0, -⟩ := (h2.set0 (.slice A11 rs.length c11)).reads
        clear CC f0 f2 fg h2 o11 d11 y0 yg
        go_wp2
        refine bodyPost_ret (v := .tuple #[.agg #[.slice A11 rs.length c11], .bool false]) (by simp [results, Tryd.results62, go_sem, p0]) rfl ?_
        rw [ex]
        exact ⟨_, rfl, OwnShF.mk_ o9, b9⟩
end Go.Proofs.YthmnaljncapmeabDoor
namespace Go.Proofs.YthmnaljncapmeabDoor
open Go.RowKit Wo Pu Rf Lk Sh

section
variable {rs xs : List Rec} {t : Int} {us : List Up} {b : Bool}
theorem Sh.Voted.bad_ (h : Voted rs t us xs b) (hn : ¬ (Vld rs ∧ TV t ∧ UV us)) : xs = [] ∧ b = false := by
  cases h with
  | bad _ => exact ⟨rfl, rfl⟩
  | known h1 h2 h3 _ => exact absurd ⟨h1, h2, h3⟩ hn
  | yes h1 h2 h3 _ _ => exact absurd ⟨h1, h2, h3⟩ hn
  | no h1 h2 h3 _ _ _ => exact absurd ⟨h1, h2, h3⟩ hn
  | full h1 h2 h3 _ _ => exact absurd ⟨h1, h2, h3⟩ hn
theorem Sh.Voted.known_ (h : Voted rs t us xs b) (h1 : Vld rs) (h2 : TV t) (h3 : UV us) (ha : Sh.ask rs t ≠ 0) : xs = rs ∧ b = (Sh.ask rs t == 1) := by
  cases h with
  | bad hn => exact absurd ⟨h1, h2, h3⟩ hn
  | known _ _ _ _ => exact ⟨rfl, rfl⟩
  | yes _ _ _ h4 _ => exact absurd h4 ha
  | no _ _ _ h4 _ _ => exact absurd h4 ha
  | full _ _ _ h4 _ => exact absurd h4 ha
theorem Sh.Voted.new_ (h : Voted rs t us xs b) (h1 : Vld rs) (h2 : TV t) (h3 : UV us) (ha : Sh.ask rs t = 0) :
    (Vld (rs ++ [⟨1, t, us⟩]) ∧ xs = rs ++ [⟨1, t, us⟩] ∧ b = true) ∨ (¬ Vld (rs ++ [⟨1, t, us⟩]) ∧ b = false ∧ ∃ b3 : Bool, (b3 = true ↔ Vld (rs ++ [⟨3, t, []⟩])) ∧ xs = if b3 then rs ++ [⟨3, t, []⟩] else rs) := by
  obtain ⟨⟨s, hs⟩, hl⟩ := id h1
  have ab := Vld.abort_iff hs h2
  cases h with
  | bad hn => exact absurd ⟨h1, h2, h3⟩ hn
  | known _ _ _ h4 => exact absurd ha h4
  | yes _ _ _ _ h5 => exact .inl ⟨h5, rfl, rfl⟩
  | no _ _ _ _ h5 h6 => exact .inr ⟨h5, rfl, true, ⟨fun _ => ab.2 ⟨h6, .inl ha⟩, fun _ => rfl⟩, rfl⟩
  | full _ _ _ _ h5 =>
    refine .inr ⟨fun e => h5 ((Vld.prepare_iff hs h2 us).1 e).1, rfl, false, ⟨fun e => (by cases e), fun e => absurd (ab.1 e).1 h5⟩, rfl⟩
theorem Sh.Decided.bad_ {k : Int} (h : Decided rs t k xs b) (hn : ¬ (Vld rs ∧ TV t)) : xs = [] ∧ b = false := by
  cases h with
  | bad _ => exact ⟨rfl, rfl⟩
  | known h1 h2 _ => exact absurd ⟨h1, h2⟩ hn
  | yes h1 h2 _ _ => exact absurd ⟨h1, h2⟩ hn
  | no h1 h2 _ _ => exact absurd ⟨h1, h2⟩ hn
theorem Sh.Decided.known_ {k : Int} (h : Decided rs t k xs b) (h1 : Vld rs) (h2 : TV t) (ha : Sh.ask rs t = k) : xs = rs ∧ b = true := by
  cases h with
  | bad hn => exact absurd ⟨h1, h2⟩ hn
  | known _ _ _ => exact ⟨rfl, rfl⟩
  | yes _ _ h4 _ => exact absurd ha h4
  | no _ _ h4 _ => exact absurd ha h4
theorem Sh.Decided.new_ {k : Int} (h : Decided rs t k xs b) (h1 : Vld rs) (h2 : TV t) (ha : Sh.ask rs t ≠ k) : (b = true ↔ Vld (rs ++ [⟨k, t, []⟩])) ∧ xs = if b then rs ++ [⟨k, t, []⟩] else rs := by
  cases h with
  | bad hn => exact absurd ⟨h1, h2⟩ hn
  | known _ _ h4 => exact absurd h4 ha
  | yes _ _ _ h5 => exact ⟨⟨fun _ => h5, fun _ => rfl⟩, rfl⟩
  | no _ _ _ h5 => exact ⟨⟨fun e => (by cases e), fun e => absurd e h5⟩, rfl⟩
end
/- What lies in the box of w5 is told. -/
/- The same shard is told, and whether it has voted for it. -/
set_option linter.unusedSimpArgs false in
set_option maxRecDepth 100000 in
set_option maxHeartbeats 8000000 in
theorem specShardPrepare_is (xs : List Rec) (b : Bool) (v : Value) (rs : List Rec) (t : Int) (A2 : Option Addr) (c2 : Nat) (us : List Up) (w : World) (h : Shd w w.heap.size v rs) (hf : FitR rs) (hu : Row w w.heap.size A2 (upsV us)) (hul : us.length ≤ 1048576) (hV : Voted rs t us xs b) :
    Calls Tryd.prog 41 #[v, .int .i64 t, .slice A2 us.length c2] w (NewShB xs b w) := by
  have HR := hid hV
  clear hV
  obtain ⟨vs, hvs⟩ := bool_ofP (Vld rs)
  obtain ⟨vt, hvt⟩ := bool_of (TV t)
  obtain ⟨vu, hvu⟩ := bool_of (UV us)
  have CV := hid (specShardValid_is vs · rs · · hf hvs)
  have CT : Hid (∀ x, Calls Tryd.prog 63 #[.int .i64 t] x (Same (.bool vt) x)) := fun x => l12Txn_is vt t x hvt
  have CU : Hid (∀ x, Row x x.heap.size A2 (upsV us) → Calls Tryd.prog 72 #[.slice A2 us.length c2] x (Ret (.bool vu) x)) := fun x hx => specUpdatesValid_is vu A2 c2 us x hx (by omega) hvu
  have HC := hid (l21Copy_any · rs · · hf)
  obtain ⟨A, c, rfl, h0, hc⟩ := h
  unfold shV at *
  have b0 := ((Below.refl w.heap.size w).alloc (Nat.le_refl _) (.cells #[.slice A rs.length c] 25)).alloc (by simp) (.cells #[.slice none 0 0] 25)
  have x0 := (Blk1.new_ w 25 (.slice A rs.length c)).alloc (.cells #[.slice none 0 0] 25)
  have x1 := Blk1.new_ (w.alloc (.cells #[.slice A rs.length c] 25)) 25 (.slice none 0 0)
  rw [World.size_alloc] at x1
  go_enter Tryd.func41, Tryd.ntmps41
  go_upto_region 1 with fail
  obtain ⟨w1, hw1⟩ : ∃ w1, (w.alloc (.cells #[.slice A rs.length c] 25)).alloc (.cells #[.slice none 0 0] 25) = w1 := ⟨_, rfl⟩
  rw [hw1] at b0 x0 x1 ⊢
  clear hw1
  obtain ⟨y0, -⟩ := id x0.reads
  have h1 := h0.on b0
  go_wp2_with fail
  refine (CV.out _ w1 ⟨A, c, rfl, h1, hc⟩).mono ?_
  rintro e w2 ⟨rfl, d2⟩
  replace x0 := x0.later d2
  replace x1 := x1.later d2
  replace b0 := b0.trans ((d2).mono b0.size)
  replace h1 := h0.on b0
  clear y0
  obtain ⟨y0, -⟩ := id x0.reads
  clear d2 CV
  cases vs with
  | false =>
    obtain ⟨rfl, rfl⟩ := HR.out.bad_ fun e => by have := hvs.2 e.1; cases this
    clear hvs hvt hvu CT CU HC
    obtain ⟨t0, tf⟩ := id x1.reads
    have tf0 := tf 0
    obtain ⟨p0, -⟩ := (x1.set0 (.slice none 0 0)).reads
    have b9 := b0.setCell (p := ⟨w.heap.size + 1, 0, none⟩) (Nat.le_succ _) (.slice none 0 0)
    have o9 := OwnSh.none_ (w2.setCell ⟨w.heap.size + 1, 0, none⟩ (.slice none 0 0)) w.heap.size
    clear tf
    go_wp2
    exact bodyPost_ret (v := .tuple #[.agg #[.slice none 0 0], .bool false]) (by simp [results, Tryd.results41, go_sem, p0]) rfl ⟨_, rfl, o9, b9⟩
  | true =>
    have HV := hid (hvs.1 rfl)
    clear hvs
    go_wp2_with fail
    refine (CT.out _).mono ?_
    rintro e w3 ⟨rfl, rfl⟩
    clear CT
    cases vt with
    | false =>
      obtain ⟨rfl, rfl⟩ := HR.out.bad_ fun e => by have := hvt.2 e.2.1; cases this
      clear hvt hvu CU HC
      obtain ⟨t0, tf⟩ := id x1.reads
      have tf0 := tf 0
      obtain ⟨p0, -⟩ := (x1.set0 (.slice none 0 0)).reads
      have b9 := b0.setCell (p := ⟨w.heap.size + 1, 0, none⟩) (Nat.le_succ _) (.slice none 0 0)
      have o9 := OwnSh.none_ (w2.setCell ⟨w.heap.size + 1, 0, none⟩ (.slice none 0 0)) w.heap.size
      clear tf
      go_wp2
      exact bodyPost_ret (v := .tuple #[.agg #[.slice none 0 0], .bool false]) (by simp [results, Tryd.results41, go_sem, p0]) rfl ⟨_, rfl, o9, b9⟩
    | true =>
      have HT := hid (hvt.1 rfl)
      clear hvt
      have hu2 := hu.below b0 (Nat.le_refl _)
      replace hu2 := hu2.more b0.size
      go_wp2_with fail
      refine (CU.out _ hu2).mono ?_
      rintro e w3 ⟨rfl, d3⟩
      replace x0 := x0.later d3
      replace x1 := x1.later d3
      replace b0 := b0.trans ((d3).mono b0.size)
      replace h1 := h0.on b0
      clear y0
      obtain ⟨y0, -⟩ := id x0.reads
      clear d3 CU hu2
      cases vu with
      | false =>
        obtain ⟨rfl, rfl⟩ := HR.out.bad_ fun e => by have := hvu.2 e.2.2; cases this
        clear hvu HC
        obtain ⟨t0, tf⟩ := id x1.reads
        have tf0 := tf 0
        obtain ⟨p0, -⟩ := (x1.set0 (.slice none 0 0)).reads
        have b9 := b0.setCell (p := ⟨w.heap.size + 1, 0, none⟩) (Nat.le_succ _) (.slice none 0 0)
        have o9 := OwnSh.none_ (w3.setCell ⟨w.heap.size + 1, 0, none⟩ (.slice none 0 0)) w.heap.size
        clear tf
        go_wp2
        exact bodyPost_ret (v := .tuple #[.agg #[.slice none 0 0], .bool false]) (by simp [results, Tryd.results41, go_sem, p0]) rfl ⟨_, rfl, o9, b9⟩
      | true =>
        have HU := hid (hvu.1 rfl)
        clear hvu
        obtain ⟨z, hz⟩ : ∃ z, Sh.ask rs t = z := ⟨_, rfl⟩
        have CA : Hid (∀ x, Recs x x.heap.size A rs → Calls Tryd.prog 64 #[.slice A rs.length c, .int .i64 t] x (Same (.int .i64 z) x)) := fun x hx => l21Ask_is z A c rs t x x.heap.size hx (by have := hf.1; omega) hz
        have HZ := hid hz
        clear hz
        go_wp2_with fail
        refine (CA.out _ h1).mono ?_
        rintro e w4 ⟨rfl, rfl⟩
        by_cases h9 : z = 0
        · subst h9
          obtain ⟨b1, hb1⟩ := bool_ofP (Vld (rs ++ [⟨1, t, us⟩]))
          obtain ⟨xs1, hx1⟩ : ∃ xs1, xs1 = if b1 then rs ++ [⟨1, t, us⟩] else rs := ⟨_, rfl⟩
          have hu3 := (hu.below b0 (Nat.le_refl _)).more b0.size
          have h30 : rs.length ≤ 30 := HV.out.2
          have CD := hid (l21Add_any b1 xs1 _ rs A2 c2 ⟨1, t, us⟩ w3 ⟨A, c, rfl, h1, hc⟩ h30 hf hu3 hul hb1 hx1)
          have HX1 := hid hx1
          have HB1 := hid hb1
          have HW := hid (HR.out.new_ HV.out HT.out HU.out HZ.out)
          clear hx1 hb1 CA HR hu3
          go_wp2_with fail
          refine CD.out.mono ?_
          rintro e w5 ⟨v5, rfl, o5, d5⟩
          have z3 := b0.size
          replace x0 := x0.later d5
          replace x1 := x1.later d5
          replace b0 := b0.trans ((d5).mono b0.size)
          replace h1 := h0.on b0
          clear y0
          obtain ⟨y0, -⟩ := id x0.reads
          obtain ⟨A5, c5, rfl, o5, hc5⟩ := o5
          unfold shV
          have al := (Below.refl w5.heap.size w5).alloc (Nat.le_refl _) (.cells #[.slice A5 xs1.length c5] 25)
          have x8 := Blk1.new_ w5 25 (.slice A5 xs1.length c5)
          replace o5 := (o5.base z3).below al
          go_upto_region 6 with fail
          obtain ⟨w6, hw6⟩ : ∃ w6, w5.alloc (.cells #[.slice A5 xs1.length c5] 25) = w6 := ⟨_, rfl⟩
          rw [hw6] at al x8 o5 ⊢
          clear hw6 d5 CD
          have hg : w.heap.size + 1 < w5.heap.size := x1.lt
          replace x0 := x0.later al
          replace x1 := x1.later al
          replace b0 := b0.trans ((al).mono b0.size)
          replace h1 := h0.on b0
          clear y0
          obtain ⟨y0, -⟩ := id x0.reads
          clear al
          cases b1 with
          | true =>
            obtain rfl : xs1 = rs ++ [⟨1, t, us⟩] := by rw [HX1.out]; simp
            obtain ⟨rfl, rfl⟩ : xs = rs ++ [⟨1, t, us⟩] ∧ b = true := by
              rcases HW.out with ⟨_, h3, h4⟩ | ⟨h3, -⟩
              · exact ⟨h3, h4⟩
              · exact absurd (HB1.out.1 rfl) h3
            have hl9 : (rs ++ [(⟨1, t, us⟩ : Rec)]).length = rs.length + 1 := by simp
            rw [hl9] at x8 o5
            obtain ⟨t0, tf⟩ := id x1.reads
            have tf0 := tf 0
            obtain ⟨u0, -⟩ := id x8.reads
            obtain ⟨p0, -⟩ := (x1.set0 (.slice A5 (rs.length + 1) c5)).reads
            have b9 := b0.setCell (p := ⟨w.heap.size + 1, 0, none⟩) (Nat.le_succ _) (.slice A5 (rs.length + 1) c5)
            have o9 := o5.keptT (by decide) (by decide) (but_set w6 (w.heap.size + 1) 0 (.slice A5 (rs.length + 1) c5)) (blk_type x1)
            clear tf
            go_wp2
            exact bodyPost_ret (v := .tuple #[.agg #[.slice A5 (rs.length + 1) c5], .bool true]) (by simp [results, Tryd.results41, go_sem, p0]) rfl ⟨_, rfl, OwnSh.mk_ o9, b9⟩
          | false =>
            obtain rfl : xs1 = rs := by rw [HX1.out]; simp
            obtain ⟨rfl, b3, hb3, hx3⟩ : b = false ∧ ∃ b3 : Bool, (b3 = true ↔ Vld (xs1 ++ [⟨3, t, []⟩])) ∧ xs = if b3 then xs1 ++ [⟨3, t, []⟩] else xs1 := by
              rcases HW.out with ⟨h3, _, h4⟩ | ⟨_, h3, h4⟩
              · have := HB1.out.2 h3; cases this
              · exact ⟨h3, h4⟩
            have CD := hid (l21Add_any b3 xs _ xs1 none 0 ⟨3, t, []⟩ w6 ⟨A, c, rfl, h1, hc⟩ h30 hf (.inl rfl) (Nat.zero_le _) hb3 hx3)
            clear hb3 hx3 HW HB1 HX1
            go_wp2_with fail
            refine CD.out.mono ?_
            rintro e w7 ⟨v7, rfl, o7, d7⟩
            have z6 := b0.size
            replace x0 := x0.later d7
            replace x1 := x1.later d7
            replace b0 := b0.trans ((d7).mono b0.size)
            replace h1 := h0.on b0
            clear y0
            obtain ⟨y0, -⟩ := id x0.reads
            obtain ⟨A7, c7, rfl, o7, -⟩ := o7
            unfold shV
            replace x8 := x8.later d7
            have hne : w5.heap.size ≠ w.heap.size + 1 := by omega
            have y8 := x8.set0 (.slice A7 xs.length c7)
            have y1 := x1.far (p := ⟨w5.heap.size, 0, none⟩) hne.symm (.slice A7 xs.length c7)
            obtain ⟨u0, uf⟩ := id x8.reads
            obtain ⟨t0, tf⟩ := id x1.reads
            have uf0 := uf 0
            have tf0 := tf 0
            obtain ⟨p0, -⟩ := (y1.set0 (.slice A7 xs.length c7)).reads
            have b9 := (b0.setCell (p := ⟨w5.heap.size, 0, none⟩) (by show w.heap.size ≤ w5.heap.size; omega) (.slice A7 xs.length c7)).setCell (p := ⟨w.heap.size + 1, 0, none⟩) (Nat.le_succ _) (.slice A7 xs.length c7)
            have o9 := ((o7.keptT (by decide) (by decide) (but_set w7 w5.heap.size 0 (.slice A7 xs.length c7)) (blk_type x8)).keptT (by decide) (by decide) (but_set _ (w.heap.size + 1) 0 (.slice A7 xs.length c7)) (blk_type y1)).base z6
            clear tf uf y8 y1 o7 d7 x8
            go_wp2
            exact bodyPost_ret (v := .tuple #[.agg #[.slice A7 xs.length c7], .bool false]) (by simp [results, Tryd.results41, go_sem, p0]) rfl ⟨_, rfl, OwnSh.mk_ o9, b9⟩
        · have e9 : (z != 0) = true := by rw [bne_iff_ne]; exact h9
          obtain ⟨rfl, hb⟩ := HR.out.known_ HV.out HT.out HU.out (HZ.out ▸ h9)
          have HB : Hid (b = (z == 1)) := by show _ = _; rw [hb, HZ.out]
          clear hb h9
          go_wp2_with fail
          have HKP : Hid (∀ x, Below w3.heap.size w3 x → x.cell? ⟨w.heap.size, 0, none⟩ = some (.slice A xs.length c)) := fun x hx => (x0.later hx).reads.1
          have Dwd := (Below.refl w3.heap.size w3).drew
          refine wp_region_held_drew (S := fun x => x.cell? ⟨w.heap.size, 0, none⟩ = some (.slice A xs.length c)) (by kernel_rfl) (HKP.out _ Dwd) (fun hHeld => ?_)
          obtain ⟨wd, hwd⟩ : ∃ wd, w3.drew = wd := ⟨_, rfl⟩
          rw [hwd] at hHeld Dwd ⊢
          clear hwd
          refine wpAnyH_take (i := 0) (oi := _) (v := ?_) rfl (by kernel_rfl) (by kernel_rfl) (by kernel_rfl) (fun _ _ _ h => h) (Or.inl ⟨by rfl, ?_⟩) hHeld ?_
          rotate_left
          · (intro w' hSw; (try dsimp only at hSw); go_simp <;> with_reducible rfl)
          try simp only [Act.put, List.getElem_toArray, List.getElem_cons_succ, List.getElem_cons_zero, List.setIfInBounds_toArray, List.set_cons_zero, List.set_cons_succ]
          refine wpAnyH_take (i := 2) (oi := _) (v := ?_) rfl (by kernel_rfl) (by kernel_rfl) (by kernel_rfl) (fun _ _ _ h => h) (Or.inl ⟨by rfl, ?_⟩) hHeld ?_
          rotate_left
          · (intro w' hSw; (try dsimp only at hSw); go_simp <;> with_reducible rfl)
          try simp only [Act.put, List.getElem_toArray, List.getElem_cons_succ, List.getElem_cons_zero, List.setIfInBounds_toArray, List.set_cons_zero, List.set_cons_succ]
          refine wpAnyH_take (i := 3) (oi := _) (v := ?_) rfl (by kernel_rfl) (by kernel_rfl) (by kernel_rfl) (fun _ _ _ h => h) (Or.inl ⟨by rfl, ?_⟩) hHeld ?_
          rotate_left
          · (intro w' hSw; (try dsimp only at hSw); go_simp <;> with_reducible rfl)
          try simp only [Act.put, List.getElem_toArray, List.getElem_cons_succ, List.getElem_cons_zero, List.setIfInBounds_toArray, List.set_cons_zero, List.set_cons_succ]
          refine wpAnyH_take (i := 4) (oi := _) (v := ?_) rfl (by kernel_rfl) (by kernel_rfl) (by kernel_rfl) (fun _ _ _ h => h) (Or.inl ⟨by rfl, ?_⟩) hHeld ?_
          rotate_left
          · (intro w' hSw; (try dsimp only at hSw); go_simp <;> with_reducible rfl)
          try simp only [Act.put, List.getElem_toArray, List.getElem_cons_succ, List.getElem_cons_zero, List.setIfInBounds_toArray, List.set_cons_zero, List.set_cons_succ]
          refine wpAnyH_ready (rs := [1]) (by kernel_rfl) (by simp) (AllReadyH.cons (o := _) rfl (fun K hK => ?_) AllReadyH.nil)
          try simp only [Act.put, List.getElem_toArray, List.getElem_cons_succ, List.getElem_cons_zero, List.setIfInBounds_toArray, List.set_cons_zero, List.set_cons_succ]
          go_simp
          go_at_call 65
          refine (HC.out _ wd ⟨A, c, rfl, h1.on Dwd, hc⟩).mono ?_
          rintro e w4 ⟨v4, rfl, o4, d4⟩
          have D4 := Dwd.trans (d4.mono Dwd.size)
          obtain ⟨A4, c4, rfl, o4, -⟩ := o4
          unfold shV
          refine hK.out _ _ (HKP.out _ D4) (fun hHeld => ?_)
          clear hK K
          try simp only [Act.put, List.getElem_toArray, List.getElem_cons_succ, List.getElem_cons_zero, List.setIfInBounds_toArray, List.set_cons_zero, List.set_cons_succ]
          refine wpAnyH_ready (rs := [5]) (by kernel_rfl) (by simp) (AllReadyH.cons (o := _) rfl (fun K hK => ?_) AllReadyH.nil)
          try simp only [Act.put, List.getElem_toArray, List.getElem_cons_succ, List.getElem_cons_zero, List.setIfInBounds_toArray, List.set_cons_zero, List.set_cons_succ]
          go_simp
          go_at_call 64
          refine (CA.out w4 (h1.on D4)).mono ?_
          rintro e w5 ⟨rfl, rfl⟩
          refine hK.out _ _ (HKP.out _ D4) (fun hHeld => ?_)
          clear hK K
          try simp only [Act.put, List.getElem_toArray, List.getElem_cons_succ, List.getElem_cons_zero, List.setIfInBounds_toArray, List.set_cons_zero, List.set_cons_succ]
          have z3 := b0.size
          have zd := Dwd.size
          replace x1 := x1.later D4
          replace x0 := x0.later D4
          replace b0 := b0.trans (D4.mono z3)
          replace o4 := o4.base (Nat.le_trans z3 zd)
          obtain ⟨t0, tf⟩ := id x1.reads
          have tf0 := tf 0
          have HS9 := hid (x0.far (p := ⟨w.heap.size + 1, 0, none⟩) (by show w.heap.size ≠ w.heap.size + 1; omega) (.slice A4 xs.length c4)).reads.1
          clear tf h1 y0 CA HC
          refine wpAnyH_ready (rs := [6, 7]) (by kernel_rfl) (by simp) (AllReadyH.cons (o := _) rfl (fun K hK => ?_) (AllReadyH.cons (o := _) rfl (fun K hK => ?_) AllReadyH.nil))
          · skip
            try simp only [Act.put, List.getElem_toArray, List.getElem_cons_succ, List.getElem_cons_zero, List.setIfInBounds_toArray, List.set_cons_zero, List.set_cons_succ]
            go_simp
            refine hK.out _ _ x0.reads.1 (fun hHeld => ?_)
            clear hK K
            try simp only [Act.put, List.getElem_toArray, List.getElem_cons_succ, List.getElem_cons_zero, List.setIfInBounds_toArray, List.set_cons_zero, List.set_cons_succ]
            refine wpAnyH_ready (rs := [7]) (by kernel_rfl) (by simp) (AllReadyH.cons (o := _) rfl (fun K hK => ?_) AllReadyH.nil)
            try simp only [Act.put, List.getElem_toArray, List.getElem_cons_succ, List.getElem_cons_zero, List.setIfInBounds_toArray, List.set_cons_zero, List.set_cons_succ]
            go_simp
            refine hK.out _ _ HS9.out (fun hHeld => ?_)
            clear hK K
            try simp only [Act.put, List.getElem_toArray, List.getElem_cons_succ, List.getElem_cons_zero, List.setIfInBounds_toArray, List.set_cons_zero, List.set_cons_succ]
            refine wpAnyH_take (i := 8) (oi := _) (v := ?_) rfl (by kernel_rfl) (by kernel_rfl) (by kernel_rfl) (fun _ _ _ h => h) (Or.inl ⟨by rfl, ?_⟩) hHeld ?_
            rotate_left
            · (intro w' hSw; (try dsimp only at hSw); go_simp <;> with_reducible rfl)
            try simp only [Act.put, List.getElem_toArray, List.getElem_cons_succ, List.getElem_cons_zero, List.setIfInBounds_toArray, List.set_cons_zero, List.set_cons_succ]
            refine wpAnyH_done (by kernel_rfl) ?_ _
            obtain ⟨p0, -⟩ := (x1.set0 (.slice A4 xs.length c4)).reads
            have b9 := b0.setCell (p := ⟨w.heap.size + 1, 0, none⟩) (Nat.le_succ _) (.slice A4 xs.length c4)
            have o9 := o4.keptT (by decide) (by decide) (but_set w4 (w.heap.size + 1) 0 (.slice A4 xs.length c4)) (blk_type x1)
            clear hHeld t0 tf0
            go_wp2
            refine bodyPost_ret (v := .tuple #[.agg #[.slice A4 xs.length c4], .bool (z == 1)]) (by simp [results, Tryd.results41, go_sem, p0]) rfl ?_
            rw [HB.out]
            exact ⟨_, rfl, OwnSh.mk_ o9, b9⟩
          · skip
            try simp only [Act.put, List.getElem_toArray, List.getElem_cons_succ, List.getElem_cons_zero, List.setIfInBounds_toArray, List.set_cons_zero, List.set_cons_succ]
            go_simp
            refine hK.out _ _ HS9.out (fun hHeld => ?_)
            clear hK K
            try simp only [Act.put, List.getElem_toArray, List.getElem_cons_succ, List.getElem_cons_zero, List.setIfInBounds_toArray, List.set_cons_zero, List.set_cons_succ]
            refine wpAnyH_take (i := 6) (oi := _) (v := ?_) rfl (by kernel_rfl) (by kernel_rfl) (by kernel_rfl) (fun _ _ _ h => h) (Or.inl ⟨by rfl, ?_⟩) hHeld ?_
            rotate_left
            · (intro w' hSw; (try dsimp only at hSw); go_simp <;> with_reducible rfl)
            try simp only [Act.put, List.getElem_toArray, List.getElem_cons_succ, List.getElem_cons_zero, List.setIfInBounds_toArray, List.set_cons_zero, List.set_cons_succ]
            refine wpAnyH_take (i := 8) (oi := _) (v := ?_) rfl (by kernel_rfl) (by kernel_rfl) (by kernel_rfl) (fun _ _ _ h => h) (Or.inl ⟨by rfl, ?_⟩) hHeld ?_
            rotate_left
            · (intro w' hSw; (try dsimp only at hSw); go_simp <;> with_reducible rfl)
            try simp only [Act.put, List.getElem_toArray, List.getElem_cons_succ, List.getElem_cons_zero, List.setIfInBounds_toArray, List.set_cons_zero, List.set_cons_succ]
            refine wpAnyH_done (by kernel_rfl) ?_ _
            obtain ⟨p0, -⟩ := (x1.set0 (.slice A4 xs.length c4)).reads
            have b9 := b0.setCell (p := ⟨w.heap.size + 1, 0, none⟩) (Nat.le_succ _) (.slice A4 xs.length c4)
            have o9 := o4.keptT (by decide) (by decide) (but_set w4 (w.heap.size + 1) 0 (.slice A4 xs.length c4)) (blk_type x1)
            clear hHeld t0 tf0
            go_wp2
            refine bodyPost_ret (v := .tuple #[.agg #[.slice A4 xs.length c4], .bool (z == 1)]) (by simp [results, Tryd.results41, go_sem, p0]) rfl ?_
            rw [HB.out]
            exact ⟨_, rfl, OwnSh.mk_ o9, b9⟩
end Go.Proofs.YthmnaljncapmeabDoor
namespace Go.Proofs.YthmnaljncapmeabDoor
open Go.RowKit Wo Pu Rf Lk Sh

set_option linter.unusedSimpArgs false in
set_option maxRecDepth 100000 in
set_option maxHeartbeats 8000000 in
theorem specShardDecide_is (xs : List Rec) (b : Bool) (v : Value) (rs : List Rec) (t k : Int) (cm : Bool) (w : World) (h : Shd w w.heap.size v rs) (hf : FitR rs) (hk : k = if cm then 2 else 3) (hV : Decided rs t k xs b) :
    Calls Tryd.prog 30 #[v, .int .i64 t, .bool cm] w (NewShB xs b w) := by
  have HR := hid hV
  clear hV
  obtain ⟨vs, hvs⟩ := bool_ofP (Vld rs)
  obtain ⟨vt, hvt⟩ := bool_of (TV t)
  have CV := hid (specShardValid_is vs · rs · · hf hvs)
  have CT : Hid (∀ x, Calls Tryd.prog 63 #[.int .i64 t] x (Same (.bool vt) x)) := fun x => l12Txn_is vt t x hvt
  have HC := hid (l21Copy_any · rs · · hf)
  obtain ⟨A, c, rfl, h0, hc⟩ := h
  unfold shV at *
  have b0 := ((Below.refl w.heap.size w).alloc (Nat.le_refl _) (.cells #[.slice A rs.length c] 25)).alloc (by simp) (.cells #[.slice none 0 0] 25)
  have x0 := (Blk1.new_ w 25 (.slice A rs.length c)).alloc (.cells #[.slice none 0 0] 25)
  have x1 := Blk1.new_ (w.alloc (.cells #[.slice A rs.length c] 25)) 25 (.slice none 0 0)
  rw [World.size_alloc] at x1
  go_enter Tryd.func30, Tryd.ntmps30
  go_upto_region 1 with fail
  obtain ⟨w1, hw1⟩ : ∃ w1, (w.alloc (.cells #[.slice A rs.length c] 25)).alloc (.cells #[.slice none 0 0] 25) = w1 := ⟨_, rfl⟩
  rw [hw1] at b0 x0 x1 ⊢
  clear hw1
  obtain ⟨y0, -⟩ := id x0.reads
  have h1 := h0.on b0
  go_wp2_with fail
  refine (CV.out _ w1 ⟨A, c, rfl, h1, hc⟩).mono ?_
  rintro e w2 ⟨rfl, d2⟩
  replace x0 := x0.later d2
  replace x1 := x1.later d2
  replace b0 := b0.trans ((d2).mono b0.size)
  replace h1 := h0.on b0
  clear y0
  obtain ⟨y0, -⟩ := id x0.reads
  clear d2 CV
  cases vs with
  | false =>
    obtain ⟨rfl, rfl⟩ := HR.out.bad_ fun e => by have := hvs.2 e.1; cases this
    clear hvs hvt CT HC hk
    obtain ⟨t0, tf⟩ := id x1.reads
    have tf0 := tf 0
    obtain ⟨p0, -⟩ := (x1.set0 (.slice none 0 0)).reads
    have b9 := b0.setCell (p := ⟨w.heap.size + 1, 0, none⟩) (Nat.le_succ _) (.slice none 0 0)
    have o9 := OwnSh.none_ (w2.setCell ⟨w.heap.size + 1, 0, none⟩ (.slice none 0 0)) w.heap.size
    clear tf
    go_wp2
    exact bodyPost_ret (v := .tuple #[.agg #[.slice none 0 0], .bool false]) (by simp [results, Tryd.results30, go_sem, p0]) rfl ⟨_, rfl, o9, b9⟩
  | true =>
    have HV := hid (hvs.1 rfl)
    clear hvs
    go_wp2_with fail
    refine (CT.out _).mono ?_
    rintro e w3 ⟨rfl, rfl⟩
    clear CT
    cases vt with
    | false =>
      obtain ⟨rfl, rfl⟩ := HR.out.bad_ fun e => by have := hvt.2 e.2; cases this
      clear hvt HC hk
      obtain ⟨t0, tf⟩ := id x1.reads
      have tf0 := tf 0
      obtain ⟨p0, -⟩ := (x1.set0 (.slice none 0 0)).reads
      have b9 := b0.setCell (p := ⟨w.heap.size + 1, 0, none⟩) (Nat.le_succ _) (.slice none 0 0)
      have o9 := OwnSh.none_ (w2.setCell ⟨w.heap.size + 1, 0, none⟩ (.slice none 0 0)) w.heap.size
      clear tf
      go_wp2
      exact bodyPost_ret (v := .tuple #[.agg #[.slice none 0 0], .bool false]) (by simp [results, Tryd.results30, go_sem, p0]) rfl ⟨_, rfl, o9, b9⟩
    | true =>
      have HT := hid (hvt.1 rfl)
      clear hvt
      obtain ⟨z, hz⟩ : ∃ z, Sh.ask rs t = z := ⟨_, rfl⟩
      have CA : Hid (∀ x, Recs x x.heap.size A rs → Calls Tryd.prog 64 #[.slice A rs.length c, .int .i64 t] x (Same (.int .i64 z) x)) := fun x hx => l21Ask_is z A c rs t x x.heap.size hx (by have := hf.1; omega) hz
      have HZ := hid hz
      clear hz
      cases cm with
      | true =>
        obtain rfl : k = 2 := hk
        go_wp2_with fail
        refine (CA.out _ h1).mono ?_
        rintro e w4 ⟨rfl, rfl⟩
        by_cases h9 : z = 2
        · have e9 : (z == 2) = true := by rw [beq_iff_eq]; exact h9
          obtain ⟨rfl, rfl⟩ := HR.out.known_ HV.out HT.out (HZ.out.trans h9)
          clear h9 CA HR
          go_wp2_with fail
          refine (HC.out _ w2 ⟨A, c, rfl, h1, hc⟩).mono ?_
          rintro e w5 ⟨v5, rfl, o5, d5⟩
          have z3 := b0.size
          replace x0 := x0.later d5
          replace x1 := x1.later d5
          replace b0 := b0.trans ((d5).mono b0.size)
          replace h1 := h0.on b0
          clear y0
          obtain ⟨y0, -⟩ := id x0.reads
          obtain ⟨A5, c5, rfl, o5, -⟩ := o5
          unfold shV
          replace o5 := o5.base z3
          obtain ⟨t0, tf⟩ := id x1.reads
          have tf0 := tf 0
          obtain ⟨p0, -⟩ := (x1.set0 (.slice A5 xs.length c5)).reads
          have b9 := b0.setCell (p := ⟨w.heap.size + 1, 0, none⟩) (Nat.le_succ _) (.slice A5 xs.length c5)
          have o9 := o5.keptT (by decide) (by decide) (but_set w5 (w.heap.size + 1) 0 (.slice A5 xs.length c5)) (blk_type x1)
          clear tf d5
          go_wp2
          exact bodyPost_ret (v := .tuple #[.agg #[.slice A5 xs.length c5], .bool true]) (by simp [results, Tryd.results30, go_sem, p0]) rfl ⟨_, rfl, OwnSh.mk_ o9, b9⟩
        · have e9 : (z == 2) = false := by rw [beq_eq_false_iff_ne]; exact h9
          obtain ⟨hb1, hx1⟩ := HR.out.new_ HV.out HT.out (fun e => h9 (HZ.out.symm.trans e))
          have CD := hid (l21Add_any b xs _ rs none 0 ⟨2, t, []⟩ w2 ⟨A, c, rfl, h1, hc⟩ HV.out.2 hf (.inl rfl) (Nat.zero_le _) hb1 hx1)
          clear hb1 hx1 h9 CA HR
          go_wp2_with fail
          refine CD.out.mono ?_
          rintro e w5 ⟨v5, rfl, o5, d5⟩
          have z3 := b0.size
          replace x0 := x0.later d5
          replace x1 := x1.later d5
          replace b0 := b0.trans ((d5).mono b0.size)
          replace h1 := h0.on b0
          clear y0
          obtain ⟨y0, -⟩ := id x0.reads
          obtain ⟨A5, c5, rfl, o5, -⟩ := o5
          unfold shV
          replace o5 := o5.base z3
          obtain ⟨t0, tf⟩ := id x1.reads
          have tf0 := tf 0
          obtain ⟨p0, -⟩ := (x1.set0 (.slice A5 xs.length c5)).reads
          have b9 := b0.setCell (p := ⟨w.heap.size + 1, 0, none⟩) (Nat.le_succ _) (.slice A5 xs.length c5)
          have o9 := o5.keptT (by decide) (by decide) (but_set w5 (w.heap.size + 1) 0 (.slice A5 xs.length c5)) (blk_type x1)
          clear tf d5 CD
          go_wp2
          exact bodyPost_ret (v := .tuple #[.agg #[.slice A5 xs.length c5], .bool b]) (by simp [results, Tryd.results30, go_sem, p0]) rfl ⟨_, rfl, OwnSh.mk_ o9, b9⟩
      | false =>
        obtain rfl : k = 3 := hk
        go_wp2_with fail
        refine (CA.out _ h1).mono ?_
        rintro e w4 ⟨rfl, rfl⟩
        by_cases h9 : z = 3
        · have e9 : (z == 3) = true := by rw [beq_iff_eq]; exact h9
          obtain ⟨rfl, rfl⟩ := HR.out.known_ HV.out HT.out (HZ.out.trans h9)
          clear h9 CA HR
          go_wp2_with fail
          refine (HC.out _ w2 ⟨A, c, rfl, h1, hc⟩).mono ?_
          rintro e w5 ⟨v5, rfl, o5, d5⟩
          have z3 := b0.size
          replace x0 := x0.later d5
          replace x1 := x1.later d5
          replace b0 := b0.trans ((d5).mono b0.size)
          replace h1 := h0.on b0
          clear y0
          obtain ⟨y0, -⟩ := id x0.reads
          obtain ⟨A5, c5, rfl, o5, -⟩ := o5
          unfold shV
          replace o5 := o5.base z3
          obtain ⟨t0, tf⟩ := id x1.reads
          have tf0 := tf 0
          obtain ⟨p0, -⟩ := (x1.set0 (.slice A5 xs.length c5)).reads
          have b9 := b0.setCell (p := ⟨w.heap.size + 1, 0, none⟩) (Nat.le_succ _) (.slice A5 xs.length c5)
          have o9 := o5.keptT (by decide) (by decide) (but_set w5 (w.heap.size + 1) 0 (.slice A5 xs.length c5)) (blk_type x1)
          clear tf d5
          go_wp2
          exact bodyPost_ret (v := .tuple #[.agg #[.slice A5 xs.length c5], .bool true]) (by simp [results, Tryd.results30, go_sem, p0]) rfl ⟨_, rfl, OwnSh.mk_ o9, b9⟩
        · have e9 : (z == 3) = false := by rw [beq_eq_false_iff_ne]; exact h9
          obtain ⟨hb1, hx1⟩ := HR.out.new_ HV.out HT.out (fun e => h9 (HZ.out.symm.trans e))
          have CD := hid (l21Add_any b xs _ rs none 0 ⟨3, t, []⟩ w2 ⟨A, c, rfl, h1, hc⟩ HV.out.2 hf (.inl rfl) (Nat.zero_le _) hb1 hx1)
          clear hb1 hx1 h9 CA HR
          go_wp2_with fail
          refine CD.out.mono ?_
          rintro e w5 ⟨v5, rfl, o5, d5⟩
          have z3 := b0.size
          replace x0 := x0.later d5
          replace x1 := x1.later d5
          replace b0 := b0.trans ((d5).mono b0.size)
          replace h1 := h0.on b0
          clear y0
          obtain ⟨y0, -⟩ := id x0.reads
          obtain ⟨A5, c5, rfl, o5, -⟩ := o5
          unfold shV
          replace o5 := o5.base z3
          obtain ⟨t0, tf⟩ := id x1.reads
          have tf0 := tf 0
          obtain ⟨p0, -⟩ := (x1.set0 (.slice A5 xs.length c5)).reads
          have b9 := b0.setCell (p := ⟨w.heap.size + 1, 0, none⟩) (Nat.le_succ _) (.slice A5 xs.length c5)
          have o9 := o5.keptT (by decide) (by decide) (but_set w5 (w.heap.size + 1) 0 (.slice A5 xs.length c5)) (blk_type x1)
          clear tf d5 CD
          go_wp2
          exact bodyPost_ret (v := .tuple #[.agg #[.slice A5 xs.length c5], .bool b]) (by simp [results, Tryd.results30, go_sem, p0]) rfl ⟨_, rfl, OwnSh.mk_ o9, b9⟩
theorem com_len (rs : List Rec) : (Sh.com rs).length ≤ rs.length := by
  unfold Sh.com
  rw [List.length_map]
  exact List.length_filter_le _ _
/-- The committed transactions of a valid shard, or none. -/
def ComOf (rs : List Rec) (zs : List Int) : Prop := (Vld rs ∧ zs = Sh.com rs) ∨ (¬ Vld rs ∧ zs = [])
theorem comOf_ex (rs : List Rec) : ∃ zs, ComOf rs zs := by
  by_cases h : Vld rs
  · exact ⟨_, .inl ⟨h, rfl⟩⟩
  · exact ⟨_, .inr ⟨h, rfl⟩⟩
set_option linter.unusedSimpArgs false in
set_option maxRecDepth 100000 in
set_option maxHeartbeats 8000000 in
theorem specShardCommitted_is (zs : List Int) (v : Value) (rs : List Rec) (w : World) (h : Shd w w.heap.size v rs) (hf : FitR rs) (hz : ComOf rs zs) :
    Calls Tryd.prog 25 #[v] w (IntsOf zs w) := by
  obtain ⟨i0, hi, hz0, hz1, hz2⟩ := info_of info_int
  have HZ := hid hz
  clear hz
  obtain ⟨vs, hvs⟩ := bool_ofP (Vld rs)
  have HVS := hid hvs
  have CV := hid (specShardValid_is vs · rs · · hf hvs)
  clear hvs
  obtain ⟨A, c, rfl, h0, hc⟩ := h
  unfold shV at *
  have b0 := (Below.refl w.heap.size w).alloc (Nat.le_refl _) (.cells #[.slice A rs.length c] 25)
  have x0 := Blk1.new_ w 25 (.slice A rs.length c)
  go_enter Tryd.func25, Tryd.ntmps25
  go_upto_region 1 with fail
  obtain ⟨w1, hw1⟩ : ∃ w1, w.alloc (.cells #[.slice A rs.length c] 25) = w1 := ⟨_, rfl⟩
  rw [hw1] at b0 x0 ⊢
  clear hw1
  have al := (Below.refl w1.heap.size w1).alloc (Nat.le_refl _) (.cells #[] 3)
  have on0 : OwnI _ w.heap.size (.slice (some ⟨w1.heap.size, 0, none⟩) 0 0) [] := OwnI.nil_new (w := w1) b0.size
  replace x0 := x0.later al
  replace b0 := b0.trans (al.mono b0.size)
  clear al
  go_wp2_with fail
  go_loopw [3, 4] (fun q i wr => ∃ (k : Nat) (ys : List Int), k ≤ rs.length ∧ i = .int .i64 k ∧ Hid (ys.length ≤ k) ∧ OwnI wr w.heap.size q ys ∧ Hid (ys = Sh.com (rs.take k)) ∧ Hid (k = 0 ∨ Vld rs) ∧ Blk1 wr w.heap.size 25 (.slice A rs.length c) ∧ Below w.heap.size w wr) (fun _ i _ => rs.length - (intOf i).toNat)
  case atStart => exact ⟨0, [], Nat.zero_le _, rfl, Nat.le_refl _, on0, rfl, .inl rfl, x0, b0⟩
  case round =>
    clear on0 x0 b0
    obtain ⟨k, ys, hk, rfl, HL, ho, H, HK, hx, hbr⟩ := hrel
    have hzw := hbr.size
    obtain ⟨y0, -⟩ := id hx.reads
    by_cases hlt : k < rs.length
    · go_wp2_with fail
      refine (CV.out _ wr ⟨A, c, rfl, (h0.on hbr), hc⟩).mono ?_
      rintro e w2 ⟨rfl, d2⟩
      replace hx := hx.later d2
      replace ho := ho.below d2 (Nat.le_refl _)
      replace hbr := hbr.trans (d2.mono hzw)
      clear y0 d2
      obtain ⟨y0, -⟩ := id hx.reads
      cases vs with
      | false =>
        have e0 : Hid (zs = ys) := by
          show _ = _
          rcases HZ.out with ⟨h3, -⟩ | ⟨-, h3⟩
          · have := HVS.out.2 h3; cases this
          · rcases HK.out with rfl | h4
            · rw [h3, H.out]; rfl
            · have := HVS.out.2 h4; cases this
        clear HL H HK
        go_wp2
        go_ret
        rw [e0.out]
        exact .mk_ ho hbr
      | true =>
        have HV := hid (HVS.out.1 rfl)
        obtain ⟨r, ad, A', c', hr, rfl, ha, g0, g1, g2, g3, g4⟩ := (h0.below hbr (Nat.le_refl _)).rec hlt
        have q0 : (0 : Int) ≤ (k : Int) := by omega
        have q1 : (k : Int) < (rs.length : Int) := by omega
        have hf1 := hf.1
        have HN : Hid (Sh.com (rs.take (k + 1)) = ys ++ if r.k = 2 then [r.t] else []) := by
          show _ = _
          rw [List.take_succ_eq_append_getElem hlt, hr, Sh.com_snoc, H.out]
        have hzw2 := hbr.size
        have HL1 : Hid (ys.length ≤ 1048600) := by have := HL.out; show _ ≤ _; omega
        have HL2 : Hid (∀ x : Int, (ys ++ [x]).length ≤ k + 1) := fun x => by rw [List.length_append]; have := HL.out; simpa using this
        clear H HK hr g2 g3 g4 hzw
        by_cases hv : r.k = 2
        · have e0 : (r.k == 2) = true := by rw [beq_iff_eq]; exact hv
          have HM : Hid (ys ++ [r.t] = Sh.com (rs.take (k + 1))) := by show _ = _; rw [HN.out, if_pos hv]
          have oB : (w2.alloc (.cells #[.int .i64 r.t] 3)).ownsRow w.heap.size 3 1 _ ys.length (ints ys) := World.ownsRow.alloc ho _
          have lt1 := World.ownsRow.lt oB
          have hx1 := hx.alloc (.cells #[.int .i64 r.t] 3)
          clear hv HN HL
          go_wp2_with (at_builtin; go_must (refine wpList_append_own _ rfl _ _ 28 rfl w.heap.size 3 i0 (.int .i64 0) 1 8 Tryd.underlying28 hi hz0 hz1 hz2 rfl (by decide) _ ys.length (ints ys) rfl oB ⟨w2.heap.size, 0, none⟩ 1 1 [.int .i64 r.t] rfl rfl (cell_one_new _ _ _) (one_int _) (by have := HL1.out; unfold maxLen; omega) (by have := HL1.out; omega) (by simp; omega) ?_); intro u9 w9 hown hg _)
          have o9 := OwnI.app hown
          have b9 : Below w.heap.size w w9 := hbr.trans (((Below.refl w.heap.size w2).alloc hzw2 _).grown hg (by simp; omega) (fun j hj => (lt1 j hj).1))
          have x9 := hx1.grown hg (blk_ne_row hx1 oB (by decide))
          clear hown hg oB lt1 ho hbr hx hx1
          go_wp2
          go_roundw
          case rel => exact ⟨k + 1, ys ++ [r.t], by omega, by go_num, HL2.out _, o9, HM, .inr HV.out, x9, b9⟩
          case measure => simp [intOf]; omega
        · have e0 : (r.k == 2) = false := by rw [beq_eq_false_iff_ne]; exact hv
          have HM : Hid (ys = Sh.com (rs.take (k + 1))) := by show _ = _; rw [HN.out, if_neg hv, List.append_nil]
          have HL3 : Hid (ys.length ≤ k + 1) := by have := HL.out; show _ ≤ _; omega
          clear hv HN HL
          go_wp2_with fail
          go_roundw
          case rel => exact ⟨k + 1, ys, by omega, by go_num, HL3, ho, HM, .inr HV.out, hx, hbr⟩
          case measure => simp [intOf]; omega
    · have hk' : k = rs.length := by omega
      subst hk'
      have e0 : Hid (zs = ys) := by
        show _ = _
        have h5 := H.out
        rw [List.take_length] at h5
        rcases HZ.out with ⟨-, h3⟩ | ⟨h4, h3⟩
        · rw [h3, h5]
        · rcases HK.out with h6 | h6
          · rw [h3, h5, List.eq_nil_of_length_eq_zero h6]; rfl
          · exact absurd h6 h4
      clear HL H HK
      go_wp2
      go_ret
      rw [e0.out]
      exact .mk_ ho hbr
end Go.Proofs.YthmnaljncapmeabDoor
namespace Go.Proofs.YthmnaljncapmeabDoor
open Go.RowKit Wo Pu Rf Lk Sh

set_option linter.unusedSimpArgs false in
set_option maxHeartbeats 2000000 in
theorem sameRecord_is (A A' : Option Addr) (c c' : Nat) (r : Rec) (w : World) (B : Nat) (hr : Row w B A (upsV r.us)) (hr' : Row w B A' (upsV r.us)) (hB : B ≤ w.heap.size) (hm : r.us.length ≤ 1048576) :
    Calls Tryd.prog 67 #[.agg #[.int .i64 r.k, .int .i64 r.t, .slice A r.us.length c], .agg #[.int .i64 r.k, .int .i64 r.t, .slice A' r.us.length c']] w (Ret (.bool true) w) := by
  go_enter Tryd.func67, Tryd.ntmps67
  have al := ((Below.refl w.heap.size w).alloc (Nat.le_refl _) (.cells #[.int .i64 r.k, .int .i64 r.t, .slice A r.us.length c] 42)).alloc (by simp) (.cells #[.int .i64 r.k, .int .i64 r.t, .slice A' r.us.length c'] 42)
  have CU := hid (fun x (hx : Below w.heap.size w x) => sameUpdates_ret A A' c c' r.us x B B (hr.below hx hB) (hr'.below hx hB) (by omega))
  obtain ⟨w1, hw1⟩ : ∃ w1, (w.alloc (.cells #[.int .i64 r.k, .int .i64 r.t, .slice A r.us.length c] 42)).alloc (.cells #[.int .i64 r.k, .int .i64 r.t, .slice A' r.us.length c'] 42) = w1 := ⟨_, rfl⟩
  have x0 := (Blk3s.new_ w 42 (.int .i64 r.k) (.int .i64 r.t) (.slice A r.us.length c)).alloc (.cells #[.int .i64 r.k, .int .i64 r.t, .slice A' r.us.length c'] 42)
  have x1 := Blk3s.new_ (w.alloc (.cells #[.int .i64 r.k, .int .i64 r.t, .slice A r.us.length c] 42)) 42 (.int .i64 r.k) (.int .i64 r.t) (.slice A' r.us.length c')
  rw [World.size_alloc] at x1
  rw [hw1] at al x0 x1
  obtain ⟨y0, y1, y2, -⟩ := id x0.reads
  obtain ⟨z0, z1, z2, -⟩ := id x1.reads
  go_wp2_with fail
  refine (CU.out w1 al).mono ?_
  rintro e w2 ⟨rfl, d2⟩
  clear y0 y1 y2 z0 z1 z2 hw1
  go_wp2
  go_ret
  exact ⟨rfl, al.trans (d2.mono al.size)⟩
theorem RowU.later {B : Nat} {W : World} {A : Option Addr} {xs : List Value} (h : Row W B A xs) (x : Later B W) : Row x.w B A xs := h.below x.h (Nat.le_refl _)
set_option linter.unusedSimpArgs false in
set_option maxRecDepth 100000 in
set_option maxHeartbeats 4000000 in
theorem sameShard_is (v v' : Value) (rs : List Rec) (w : World) (h : Shd w w.heap.size v rs) (h' : Shd w w.heap.size v' rs) (hf : FitR rs) :
    Calls Tryd.prog 31 #[v, v'] w (Ret (.bool true) w) := by
  obtain ⟨A, c, rfl, h0, hc⟩ := h
  obtain ⟨A', c', rfl, h0', hc'⟩ := h'
  unfold shV
  go_enter Tryd.func31, Tryd.ntmps31
  have al := ((Below.refl w.heap.size w).alloc (Nat.le_refl _) (.cells #[.slice A rs.length c] 25)).alloc (by simp) (.cells #[.slice A' rs.length c'] 25)
  have x0 := (Blk1.new_ w 25 (.slice A rs.length c)).alloc (.cells #[.slice A' rs.length c'] 25)
  have x1 := Blk1.new_ (w.alloc (.cells #[.slice A rs.length c] 25)) 25 (.slice A' rs.length c')
  rw [World.size_alloc] at x1
  obtain ⟨w1, hw1⟩ : ∃ w1, (w.alloc (.cells #[.slice A rs.length c] 25)).alloc (.cells #[.slice A' rs.length c'] 25) = w1 := ⟨_, rfl⟩
  rw [hw1] at al x0 x1
  obtain ⟨y0, -⟩ := id x0.reads
  obtain ⟨z0, -⟩ := id x1.reads
  go_wp2_with fail
  clear hw1 y0 z0
  go_loopw [5] (fun i wr => ∃ k : Nat, k ≤ rs.length ∧ i = .int .i64 k ∧ Below w1.heap.size w1 wr) (fun i _ => rs.length - (intOf i).toNat)
  case atStart => exact ⟨0, Nat.zero_le _, rfl, Below.refl _ _⟩
  case round =>
    obtain ⟨k, hk, rfl, hb⟩ := hrel
    have hbw := al.trans (hb.mono al.size)
    obtain ⟨y0, -⟩ := id (x0.later hb).reads
    obtain ⟨z0, -⟩ := id (x1.later hb).reads
    by_cases hlt : k < rs.length
    · obtain ⟨r, ad, A1, c1, ho, rfl, ha1, g0, g1, g2, -, g3⟩ := (h0.below hbw (Nat.le_refl _)).rec hlt
      obtain ⟨r2, ad2, A2, c2, ho2, rfl, ha2, g20, g21, g22, -, g23⟩ := (h0'.below hbw (Nat.le_refl _)).rec hlt
      obtain rfl : r = r2 := by rw [← ho, ← ho2]
      have hmk : r.us.length ≤ 1048576 := by rw [← ho]; exact hf.2 _ (List.getElem_mem hlt)
      have k0 : 0 ≤ (k : Int) := by omega
      have k1 : (k : Int) < (rs.length : Int) := by omega
      have hz := hbw.size
      have HKP : Hid (∀ x, Below wr.heap.size wr x → x.cell? ⟨w.heap.size, 0, none⟩ = some (.slice (some ad) rs.length c) ∧ x.cell? ⟨w.heap.size + 1, 0, none⟩ = some (.slice (some ad2) rs.length c') ∧ x.cell? (ad.add (k * 3)) = some (.int .i64 r.k) ∧ x.cell? ⟨(ad.add (k * 3)).block, (ad.add (k * 3)).off + 1, none⟩ = some (.int .i64 r.t) ∧ x.cell? ⟨(ad.add (k * 3)).block, (ad.add (k * 3)).off + 2, none⟩ = some (.slice A1 r.us.length c1) ∧
          x.cell? (ad2.add (k * 3)) = some (.int .i64 r.k) ∧ x.cell? ⟨(ad2.add (k * 3)).block, (ad2.add (k * 3)).off + 1, none⟩ = some (.int .i64 r.t) ∧ x.cell? ⟨(ad2.add (k * 3)).block, (ad2.add (k * 3)).off + 2, none⟩ = some (.slice A2 r.us.length c2)) := fun x hx =>
        ⟨((x0.later hb).later hx).reads.1, ((x1.later hb).later hx).reads.1, (hx.cell (Nat.lt_of_lt_of_le ha1 hz)).trans g0, (hx.cell (p := ⟨(ad.add (k * 3)).block, (ad.add (k * 3)).off + 1, none⟩) (Nat.lt_of_lt_of_le ha1 hz)).trans g1, (hx.cell (p := ⟨(ad.add (k * 3)).block, (ad.add (k * 3)).off + 2, none⟩) (Nat.lt_of_lt_of_le ha1 hz)).trans g2,
          (hx.cell (Nat.lt_of_lt_of_le ha2 hz)).trans g20, (hx.cell (p := ⟨(ad2.add (k * 3)).block, (ad2.add (k * 3)).off + 1, none⟩) (Nat.lt_of_lt_of_le ha2 hz)).trans g21, (hx.cell (p := ⟨(ad2.add (k * 3)).block, (ad2.add (k * 3)).off + 2, none⟩) (Nat.lt_of_lt_of_le ha2 hz)).trans g22⟩
      clear ho ho2 g0 g1 g2 g20 g21 g22
      go_wp2_with fail
      have Dwd := (Below.refl wr.heap.size wr).drew
      refine wp_region_held_drew (S := fun x => x.cell? ⟨w.heap.size, 0, none⟩ = some (.slice (some ad) rs.length c) ∧ x.cell? ⟨w.heap.size + 1, 0, none⟩ = some (.slice (some ad2) rs.length c') ∧ x.cell? (ad.add (k * 3)) = some (.int .i64 r.k) ∧ x.cell? ⟨(ad.add (k * 3)).block, (ad.add (k * 3)).off + 1, none⟩ = some (.int .i64 r.t) ∧ x.cell? ⟨(ad.add (k * 3)).block, (ad.add (k * 3)).off + 2, none⟩ = some (.slice A1 r.us.length c1) ∧
          x.cell? (ad2.add (k * 3)) = some (.int .i64 r.k) ∧ x.cell? ⟨(ad2.add (k * 3)).block, (ad2.add (k * 3)).off + 1, none⟩ = some (.int .i64 r.t) ∧ x.cell? ⟨(ad2.add (k * 3)).block, (ad2.add (k * 3)).off + 2, none⟩ = some (.slice A2 r.us.length c2)) (by kernel_rfl) (HKP.out _ Dwd) (fun hHeld => ?_)
      obtain ⟨wd, hwd⟩ : ∃ wd, wr.drew = wd := ⟨_, rfl⟩
      rw [hwd] at hHeld Dwd ⊢
      clear hwd
      refine wpAnyH_take (i := 0) (oi := _) (v := ?_) rfl (by kernel_rfl) (by kernel_rfl) (by kernel_rfl) (fun _ _ _ h => h) (Or.inl ⟨by rfl, ?_⟩) hHeld ?_
      rotate_left
      · (intro w' hSw; (try dsimp only at hSw); go_simp <;> with_reducible rfl)
      try simp only [Act.put, List.getElem_toArray, List.getElem_cons_succ, List.getElem_cons_zero, List.setIfInBounds_toArray, List.set_cons_zero, List.set_cons_succ]
      refine wpAnyH_take (i := 1) (oi := _) (v := ?_) rfl (by kernel_rfl) (by kernel_rfl) (by kernel_rfl) (fun _ _ _ h => h) (Or.inl ⟨by rfl, ?_⟩) hHeld ?_
      rotate_left
      · (intro w' hSw; (try dsimp only at hSw); go_simp <;> with_reducible rfl)
      try simp only [Act.put, List.getElem_toArray, List.getElem_cons_succ, List.getElem_cons_zero, List.setIfInBounds_toArray, List.set_cons_zero, List.set_cons_succ]
      refine wpAnyH_take (i := 2) (oi := _) (v := ?_) rfl (by kernel_rfl) (by kernel_rfl) (by kernel_rfl) (fun _ _ _ h => h) (Or.inl ⟨by rfl, ?_⟩) hHeld ?_
      rotate_left
      · (intro w' hSw; (try dsimp only at hSw); go_simp <;> with_reducible rfl)
      try simp only [Act.put, List.getElem_toArray, List.getElem_cons_succ, List.getElem_cons_zero, List.setIfInBounds_toArray, List.set_cons_zero, List.set_cons_succ]
      refine wpAnyH_take (i := 3) (oi := _) (v := ?_) rfl (by kernel_rfl) (by kernel_rfl) (by kernel_rfl) (fun _ _ _ h => h) (Or.inl ⟨by rfl, ?_⟩) hHeld ?_
      rotate_left
      · (intro w' hSw; (try dsimp only at hSw); go_simp <;> with_reducible rfl)
      try simp only [Act.put, List.getElem_toArray, List.getElem_cons_succ, List.getElem_cons_zero, List.setIfInBounds_toArray, List.set_cons_zero, List.set_cons_succ]
      refine wpAnyH_take (i := 4) (oi := _) (v := ?_) rfl (by kernel_rfl) (by kernel_rfl) (by kernel_rfl) (fun _ _ _ h => h) (Or.inl ⟨by rfl, ?_⟩) hHeld ?_
      rotate_left
      · (intro w' hSw; (try dsimp only at hSw); go_simp <;> with_reducible rfl)
      try simp only [Act.put, List.getElem_toArray, List.getElem_cons_succ, List.getElem_cons_zero, List.setIfInBounds_toArray, List.set_cons_zero, List.set_cons_succ]
      refine wpAnyH_take (i := 5) (oi := _) (v := ?_) rfl (by kernel_rfl) (by kernel_rfl) (by kernel_rfl) (fun _ _ _ h => h) (Or.inl ⟨by rfl, ?_⟩) hHeld ?_
      rotate_left
      · (intro w' hSw; (try dsimp only at hSw); go_simp <;> with_reducible rfl)
      try simp only [Act.put, List.getElem_toArray, List.getElem_cons_succ, List.getElem_cons_zero, List.setIfInBounds_toArray, List.set_cons_zero, List.set_cons_succ]
      refine wpAnyH_take (i := 6) (oi := _) (v := ?_) rfl (by kernel_rfl) (by kernel_rfl) (by kernel_rfl) (fun _ _ _ h => h) (Or.inl ⟨by rfl, ?_⟩) hHeld ?_
      rotate_left
      · (intro w' hSw; (try dsimp only at hSw); go_simp <;> with_reducible rfl)
      try simp only [Act.put, List.getElem_toArray, List.getElem_cons_succ, List.getElem_cons_zero, List.setIfInBounds_toArray, List.set_cons_zero, List.set_cons_succ]
      refine wpAnyH_take (i := 7) (oi := _) (v := ?_) rfl (by kernel_rfl) (by kernel_rfl) (by kernel_rfl) (fun _ _ _ h => h) (Or.inl ⟨by rfl, ?_⟩) hHeld ?_
      rotate_left
      · (intro w' hSw; (try dsimp only at hSw); go_simp <;> with_reducible rfl)
      try simp only [Act.put, List.getElem_toArray, List.getElem_cons_succ, List.getElem_cons_zero, List.setIfInBounds_toArray, List.set_cons_zero, List.set_cons_succ]
      refine wpAnyH_take (i := 8) (oi := _) (v := ?_) rfl (by kernel_rfl) (by kernel_rfl) (by kernel_rfl) (fun _ _ _ h => h) (Or.inl ⟨by rfl, ?_⟩) hHeld ?_
      rotate_left
      · (intro w' hSw; (try dsimp only at hSw); go_simp <;> with_reducible rfl)
      try simp only [Act.put, List.getElem_toArray, List.getElem_cons_succ, List.getElem_cons_zero, List.setIfInBounds_toArray, List.set_cons_zero, List.set_cons_succ]
      refine wpAnyH_take (i := 9) (oi := _) (v := ?_) rfl (by kernel_rfl) (by kernel_rfl) (by kernel_rfl) (fun _ _ _ h => h) (Or.inl ⟨by rfl, ?_⟩) hHeld ?_
      rotate_left
      · (intro w' hSw; (try dsimp only at hSw); go_simp <;> with_reducible rfl)
      try simp only [Act.put, List.getElem_toArray, List.getElem_cons_succ, List.getElem_cons_zero, List.setIfInBounds_toArray, List.set_cons_zero, List.set_cons_succ]
      refine wpAnyH_ready (rs := [10]) (by kernel_rfl) (by simp) (AllReadyH.cons (o := _) rfl (fun K hK => ?_) AllReadyH.nil)
      try simp only [Act.put, List.getElem_toArray, List.getElem_cons_succ, List.getElem_cons_zero, List.setIfInBounds_toArray, List.set_cons_zero, List.set_cons_succ]
      go_simp
      go_at_call 67
      refine (sameRecord_is A1 A2 c1 c2 r wd w.heap.size (g3.below Dwd hz) (g23.below Dwd hz) (Nat.le_trans hz Dwd.size) hmk).mono ?_
      rintro e we ⟨rfl, de⟩
      have De := Dwd.trans (de.mono Dwd.size)
      have hb9 := hb.trans (De.mono hb.size)
      refine hK.out _ _ (HKP.out _ De) (fun hHeld => ?_)
      clear hK K
      try simp only [Act.put, List.getElem_toArray, List.getElem_cons_succ, List.getElem_cons_zero, List.setIfInBounds_toArray, List.set_cons_zero, List.set_cons_succ]
      refine wpAnyH_take (i := 11) (oi := _) (v := ?_) rfl (by kernel_rfl) (by kernel_rfl) (by kernel_rfl) (fun _ _ _ h => h) (Or.inl ⟨by rfl, ?_⟩) hHeld ?_
      rotate_left
      · (intro w' hSw; (try dsimp only at hSw); go_simp <;> with_reducible rfl)
      try simp only [Act.put, List.getElem_toArray, List.getElem_cons_succ, List.getElem_cons_zero, List.setIfInBounds_toArray, List.set_cons_zero, List.set_cons_succ]
      refine wpAnyH_done (by kernel_rfl) ?_ _
      have hf1 := hf.1
      clear hHeld HKP Dwd de De
      go_wp2
      go_roundw
      case rel => exact ⟨k + 1, by omega, by go_num, hb9⟩
      case measure => simp [intOf]; omega
    · have hk' : k = rs.length := by omega
      subst hk'
      go_wp2
      go_ret
      exact ⟨rfl, hbw⟩
set_option linter.unusedSimpArgs false in
set_option maxHeartbeats 2000000 in
theorem sameState_is (v v' : Value) (s : St) (w : World) (h : Stt w w.heap.size v s) (h' : Stt w w.heap.size v' s) (h4 : s.refs.length ≤ 4) (h4' : s.locks.length ≤ 4) :
    Calls Tryd.prog 21 #[v, v'] w (Ret (.bool true) w) := by
  obtain ⟨A, c, A2, c2, rfl, r1, -, r2, -⟩ := h
  obtain ⟨A', c', A2', c2', rfl, r1', -, r2', -⟩ := h'
  unfold stV
  have al := ((Below.refl w.heap.size w).alloc (Nat.le_refl _) (.cells #[.slice A s.refs.length c, .slice A2 s.locks.length c2] 30)).alloc (by simp) (.cells #[.slice A' s.refs.length c', .slice A2' s.locks.length c2'] 30)
  have C1 := hid (fun x (hx : Below w.heap.size w x) => sameInts_ret A A' c c' s.refs x w.heap.size w.heap.size (r1.below hx (Nat.le_refl _)) (r1'.below hx (Nat.le_refl _)) (by unfold maxLen; omega))
  have C2 := hid (fun x (hx : Below w.heap.size w x) => sameInts_ret A2 A2' c2 c2' s.locks x w.heap.size w.heap.size (r2.below hx (Nat.le_refl _)) (r2'.below hx (Nat.le_refl _)) (by unfold maxLen; omega))
  go_enter Tryd.func21, Tryd.ntmps21
  obtain ⟨w1, hw1⟩ : ∃ w1, (w.alloc (.cells #[.slice A s.refs.length c, .slice A2 s.locks.length c2] 30)).alloc (.cells #[.slice A' s.refs.length c', .slice A2' s.locks.length c2'] 30) = w1 := ⟨_, rfl⟩
  have x0 := (Blk2s.new_ w 30 (.slice A s.refs.length c) (.slice A2 s.locks.length c2)).alloc (.cells #[.slice A' s.refs.length c', .slice A2' s.locks.length c2'] 30)
  have x1 := Blk2s.new_ (w.alloc (.cells #[.slice A s.refs.length c, .slice A2 s.locks.length c2] 30)) 30 (.slice A' s.refs.length c') (.slice A2' s.locks.length c2')
  rw [World.size_alloc] at x1
  rw [hw1] at al x0 x1
  obtain ⟨y0, y1, -⟩ := id x0.reads
  obtain ⟨z0, z1, -⟩ := id x1.reads
  go_wp2_with fail
  refine (C1.out w1 al).mono ?_
  rintro e w2 ⟨rfl, d2⟩
  clear y0 y1 z0 z1 hw1
  have al2 := al.trans (d2.mono al.size)
  obtain ⟨y0, y1, -⟩ := id (x0.later d2).reads
  obtain ⟨z0, z1, -⟩ := id (x1.later d2).reads
  go_wp2_with fail
  refine (C2.out w2 al2).mono ?_
  rintro e w3 ⟨rfl, d3⟩
  clear y0 y1 z0 z1
  go_wp2
  go_ret
  exact ⟨rfl, al2.trans (d3.mono al2.size)⟩
end Go.Proofs.YthmnaljncapmeabDoor
