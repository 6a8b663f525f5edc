/- The coordinator with the slices $SA and $SB is stored as the answer, with the word $BB. -/
/-
  Walks: the program's ids, updates and arrays of refs.
-/
import Derived.Test.YteeffchnbkkpfabDoorG5C
namespace Go.Proofs.YteeffchnbkkpfabDoor
open Go.RowKit Wo Pu Rf

theorem refIdValid_is (b : Bool) (n : Int) (w : World) (hb : b = true ↔ Val n) : Calls Tryd.prog 81 #[.int .i64 n] w (Same (.bool b) w) := by
  have HB := hid hb
  clear hb
  by_cases h0 : n = -1
  · have F := hid (HB.out.2 ⟨by omega, by omega⟩)
    have e0 : (n == -1) = true := by rw [beq_iff_eq]; exact h0
    clear h0
    go_enter Tryd.func81, Tryd.ntmps81
    go_wp2
    go_ret
    rw [F.out]
    exact ⟨rfl, rfl⟩
  · have e0 : (n == -1) = false := by rw [beq_eq_false_iff_ne]; exact h0
    by_cases h1 : 0 ≤ n
    · have e1 : decide (0 ≤ n) = true := decide_eq_true h1
      by_cases h2 : n < 991
      · have F := hid (HB.out.2 ⟨by omega, by omega⟩)
        have e2 : decide (n < 991) = true := decide_eq_true h2
        clear h0 h1 h2
        go_enter Tryd.func81, Tryd.ntmps81
        go_wp2
        go_ret
        rw [F.out]
        exact ⟨rfl, rfl⟩
      · have F : Hid (b = false) := by
          show b = false
          rw [← Bool.not_eq_true]
          exact fun e => by have := (HB.out.1 e).2; omega
        have e2 : decide (n < 991) = false := decide_eq_false h2
        clear h0 h1 h2
        go_enter Tryd.func81, Tryd.ntmps81
        go_wp2
        go_ret
        rw [F.out]
        exact ⟨rfl, rfl⟩
    · have F : Hid (b = false) := by
        show b = false
        rw [← Bool.not_eq_true]
        exact fun e => by have := (HB.out.1 e).1; omega
      have e1 : decide (0 ≤ n) = false := decide_eq_false h1
      clear h0 h1
      go_enter Tryd.func81, Tryd.ntmps81
      go_wp2
      go_ret
      rw [F.out]
      exact ⟨rfl, rfl⟩

/-! ### Arrays of refs. -/
theorem info_refs : (Tryd.prog.info? 73).map (·.size) = some 4 := by kernel_rfl
theorem ints_ones (zs : List Int) : (ints zs).toArray.all (·.oneCell') = true := by
  rw [Array.all_eq_true]
  intro i hi
  simp [ints, Value.oneCell']
theorem results_cell_slot {fn : Func} {p s : Tmp} {ty : TypeId} (h : fn.results = #[.cell p ty, .tmp s]) (tmps : Array Value) (w : World) (g : Nat) (t : TypeId) (cs : Array Value) (fr : Nat × Nat) (n : Nat) (el : TypeId) (v : Value)
    (hp : tmps.getD p undef = .pointer (some ⟨g, 0, none⟩)) (hs : tmps.getD s undef = v) (hg : w.heap[g]? = some (.cells cs t fr))
    (hu : Tryd.prog.underlying ty = some (.array n el)) (hi : (Tryd.prog.info? ty).map (·.size) = some cs.size) :
    (results fn tmps).run Tryd.prog w = .ok (.tuple #[.agg cs, v]) w := by
  have hp' : tmps[p]?.getD undef = .pointer (some ⟨g, 0, none⟩) := by simpa using hp
  have hs' : tmps[s]?.getD undef = v := by simpa using hs
  simp [results, h, hp', hs', asAddr, run_loadVar_row w g t ty cs fr _ hg hu rfl hi]

/-- What readRefs answers: the refs as an array, and whether they are valid. -/
def ReadR (b : Bool) (zs : List Int) (w : World) (e : Ending) (w' : World) : Prop := e = .returned (.tuple #[.agg (ints (if b then zs else [0, 0, 0, 0])).toArray, .bool b]) ∧ Below w.heap.size w w'
set_option maxRecDepth 100000 in
set_option maxHeartbeats 4000000 in
theorem readRefs_is (b : Bool) (A : Option Addr) (c : Nat) (zs : List Int) (w : World) (B : Nat) (hr : Row w B A (ints zs)) (hB : B ≤ w.heap.size) (hb : b = true ↔ RV zs) :
    Calls Tryd.prog 53 #[.slice A zs.length c] w (ReadR b zs w) := by
  have HB := hid hb
  clear hb
  have al := (Below.refl w.heap.size w).alloc (Nat.le_refl _) (.cells #[.int .i64 0, .int .i64 0, .int .i64 0, .int .i64 0] 73)
  by_cases h4 : zs.length = 4
  · have H4 := hid h4
    have e0 : ((zs.length : Int) != 4) = false := by rw [bne_eq_false_iff_eq]; omega
    clear h4
    go_enter Tryd.func53, Tryd.ntmps53
    go_wp2_with fail
    have a1 := Arr4.new_ (w.alloc (.cells #[.int .i64 0, .int .i64 0, .int .i64 0, .int .i64 0] 73)) 73 (ints [0, 0, 0, 0])
    have a0 := (Arr4.new_ w 73 (ints [0, 0, 0, 0])).below ((Below.refl _ _).alloc (Nat.le_refl _) (.cells #[.int .i64 0, .int .i64 0, .int .i64 0, .int .i64 0] 73)) (by simp)
    have al2 := al.alloc al.size (.cells #[.int .i64 0, .int .i64 0, .int .i64 0, .int .i64 0] 73)
    rw [World.size_alloc] at a1
    go_loopw [13] (fun i wr => ∃ k : Nat, k ≤ 4 ∧ i = .int .i64 k ∧ Hid (ValTo zs k) ∧ Arr4 wr (w.heap.size + 1) 73 (ints (pad zs k)) ∧ Arr4 wr w.heap.size 73 (ints [0, 0, 0, 0]) ∧ Below w.heap.size w wr) (fun i _ => 4 - (intOf i).toNat)
    case atStart => exact ⟨0, Nat.zero_le _, rfl, .zero zs, by rw [pad_zero]; exact a1, a0, al2⟩
    case round =>
      obtain ⟨k, hk, rfl, H, ha, h0, hbr⟩ := hrel
      clear a1 a0 al2 al
      by_cases hlt : k < 4
      · have hltz : k < zs.length := by rw [H4.out]; exact hlt
        obtain ⟨ad, rfl, hbl, hc⟩ := ((hr.more hB).below hbr (Nat.le_refl _)).int_ hltz
        have q0 : (0 : Int) ≤ (k : Int) := by omega
        have q1 : (k : Int) < 4 := by omega
        have q2 : (k : Int) < (zs.length : Int) := by omega
        by_cases hv : Val zs[k]
        · have CV : Hid (∀ x, Calls Tryd.prog 81 #[.int .i64 zs[k]] x (Same (.bool true) x)) := fun x => refIdValid_is true _ x (by simp [hv])
          have HN := hid (H.out.next hltz hv)
          have hl4 := pad_length H4.out hk
          have y0 := ha.read (i := k) (by rw [ints_length]; omega)
          have f0 := ha.frozen k
          have ha2 := ha.set k (.int .i64 zs[k])
          rw [ints_set, pad_set H4.out hlt] at ha2
          have h02 := h0.far (p := ⟨w.heap.size + 1, k, none⟩) (by show w.heap.size ≠ w.heap.size + 1; omega) (.int .i64 zs[k])
          have hb2 := hbr.setCell (p := ⟨w.heap.size + 1, k, none⟩) (Nat.le_succ _) (.int .i64 zs[k])
          clear H hv ha h0
          go_wp2_with (go_at_call 81; refine (CV.out _).mono ?_; rintro e w' ⟨rfl, rfl⟩)
          go_roundw
          case rel => exact ⟨k + 1, by omega, by go_num, HN, ha2, h02, hb2⟩
          case measure => simp [intOf]; omega
        · have CV : Hid (∀ x, Calls Tryd.prog 81 #[.int .i64 zs[k]] x (Same (.bool false) x)) := fun x => refIdValid_is false _ x (by simp [hv])
          have F : Hid (b = false) := by
            show b = false
            rw [← Bool.not_eq_true]
            exact fun e => hv ((HB.out.1 e).2 _ (List.getElem_mem hltz))
          clear H hv ha
          have h0' : wr.heap[w.heap.size]? = some (.cells (ints [0, 0, 0, 0]).toArray 73 (0, 0)) := h0
          go_wp2_with (first
            | (go_at_call 81; refine (CV.out _).mono ?_; rintro e w' ⟨rfl, rfl⟩)
            | (refine wpList_store_rowTo rfl 73 _ _ rfl rfl w.heap.size (ints [0, 0, 0, 0]).toArray rfl rfl 73 _ h0' info_refs rfl (ints_ones _) ?_))
          have h2 : (wr.setRow w.heap.size (ints [0, 0, 0, 0]).toArray).heap[w.heap.size]? = some (.cells (ints [0, 0, 0, 0]).toArray 73 (0, 0)) := setRow_heap wr _ _ _ _ _ h0'
          have hb2 := below_setRow hbr (Nat.le_refl _) (ints [0, 0, 0, 0]).toArray
          rw [F.out]
          refine bodyPost_ret (v := .tuple #[.agg (ints [0, 0, 0, 0]).toArray, .bool false]) (results_cell_slot (p := 2) (s := 3) (by kernel_rfl) _ _ w.heap.size 73 _ (0, 0) _ _ _ rfl rfl h2 Tryd.underlying73 info_refs) rfl ⟨rfl, hb2⟩
      · have hk' : k = 4 := by omega
        have F := hid (HB.out.2 ⟨H4.out, by have := H.out; rw [hk', ← H4.out] at this; exact this.all⟩)
        rw [hk', pad_all H4.out] at ha
        have e1 : decide ((k : Int) < (zs.length : Int)) = false := decide_eq_false (by rw [H4.out]; omega)
        have e2 : decide (k < zs.length) = false := decide_eq_false (by rw [H4.out]; omega)
        clear H hk' hlt hk
        have ha' : wr.heap[w.heap.size + 1]? = some (.cells (ints zs).toArray 73 (0, 0)) := ha
        have h0' : wr.heap[w.heap.size]? = some (.cells (ints [0, 0, 0, 0]).toArray 73 (0, 0)) := h0
        have hsz : (ints zs).toArray.size = 4 := by rw [List.size_toArray, ints_length, H4.out]
        have hsz' : (Tryd.prog.info? 73).map (·.size) = some (ints zs).toArray.size := by rw [hsz]; exact info_refs
        have HSZ := hid hsz
        have HSZ' := hid hsz'
        clear hsz hsz'
        go_wp2_with (first
          | (refine wpList_load_row rfl 73 _ rfl (w.heap.size + 1) rfl 73 (ints zs).toArray (0, 0) _ ha' Tryd.underlying73 rfl HSZ'.out ?_)
          | (refine wpList_store_rowTo rfl 73 _ _ rfl rfl w.heap.size (ints zs).toArray rfl rfl 73 (ints [0, 0, 0, 0]).toArray h0' HSZ'.out HSZ.out.symm (ints_ones _) ?_))
        have h2 : (wr.setRow w.heap.size (ints zs).toArray).heap[w.heap.size]? = some (.cells (ints zs).toArray 73 (0, 0)) := setRow_heap wr _ _ _ _ _ h0'
        have hb2 := below_setRow hbr (Nat.le_refl _) (ints zs).toArray
        rw [F.out]
        refine bodyPost_ret (v := .tuple #[.agg (ints zs).toArray, .bool true]) (results_cell_slot (p := 2) (s := 3) (by kernel_rfl) _ _ w.heap.size 73 _ (0, 0) _ _ _ rfl rfl h2 Tryd.underlying73 HSZ'.out) rfl ⟨rfl, hb2⟩
  · have F : Hid (b = false) := by
      show b = false
      rw [← Bool.not_eq_true]
      exact fun e => h4 (HB.out.1 e).1
    have e0 : ((zs.length : Int) != 4) = true := by rw [bne_iff_ne]; omega
    clear h4
    go_enter Tryd.func53, Tryd.ntmps53
    go_wp2_with fail
    rw [F.out]
    refine bodyPost_ret (v := .tuple #[.agg (ints [0, 0, 0, 0]).toArray, .bool false]) (results_cell_slot (p := 2) (s := 3) (by kernel_rfl) _ _ w.heap.size 73 _ (0, 0) _ _ _ rfl rfl (heap_alloc_new _ _) Tryd.underlying73 info_refs) rfl ⟨rfl, al⟩

/-! ### Updates. -/
set_option maxHeartbeats 2000000 in
theorem valid_is (b : Bool) (u : Up) (w : World) (hb : b = true ↔ Ok u) : Calls Tryd.prog 82 #[upA u] w (Ret (.bool b) w) := by
  obtain ⟨bo, hbo⟩ := bool_of (Val u.o)
  obtain ⟨bn, hbn⟩ := bool_of (Val u.n)
  obtain ⟨b0, hb0⟩ := bool_of (0 ≤ u.r)
  obtain ⟨b1, hb1⟩ := bool_of (u.r < 4)
  obtain ⟨bd, hbd⟩ := bool_of (u.o ≠ u.n)
  have F : Hid (b = (b0 && b1 && bo && bn && bd)) := by
    show b = _
    rw [Bool.eq_iff_iff, hb]
    simp only [Bool.and_eq_true, hbo, hbn, hb0, hb1, hbd]
    unfold Ok
    constructor
    · rintro ⟨⟨h1, h2⟩, h3, h4, h5⟩; exact ⟨⟨⟨⟨h1, by omega⟩, h3⟩, h4⟩, h5⟩
    · rintro ⟨⟨⟨⟨h1, h2⟩, h3⟩, h4⟩, h5⟩; exact ⟨⟨h1, by omega⟩, h3, h4, h5⟩
  have CO : Hid (∀ x, Calls Tryd.prog 81 #[.int .i64 u.o] x (Same (.bool bo) x)) := fun x => refIdValid_is bo _ x hbo
  have CN : Hid (∀ x, Calls Tryd.prog 81 #[.int .i64 u.n] x (Same (.bool bn) x)) := fun x => refIdValid_is bn _ x hbn
  have e0 : decide (0 ≤ u.r) = b0 := by rw [Bool.eq_iff_iff, decide_eq_true_iff, hb0]
  have e1 : decide (u.r < 4) = b1 := by rw [Bool.eq_iff_iff, decide_eq_true_iff, hb1]
  have e2 : (u.o != u.n) = bd := by rw [Bool.eq_iff_iff, bne_iff_ne, hbd]
  have al := (Below.refl w.heap.size w).alloc (Nat.le_refl _) (.cells #[.int .i64 u.r, .int .i64 u.o, .int .i64 u.n] 100)
  clear hb hbo hbn hb0 hb1 hbd
  unfold upA
  cases b0 with
  | false =>
    go_enter Tryd.func82, Tryd.ntmps82
    go_wp2_with fail
    go_ret
    rw [F.out]
    exact .mk_ al
  | true =>
    cases b1 with
    | false =>
      go_enter Tryd.func82, Tryd.ntmps82
      go_wp2_with fail
      go_ret
      rw [F.out]
      exact .mk_ al
    | true =>
      cases bo with
      | false =>
        go_enter Tryd.func82, Tryd.ntmps82
        go_wp2_with fail
        refine (CO.out _).mono ?_
        rintro e w' ⟨rfl, rfl⟩
        go_wp2_with fail
        go_ret
        rw [F.out]
        exact .mk_ al
      | true =>
        cases bn with
        | false =>
          go_enter Tryd.func82, Tryd.ntmps82
          go_wp2_with fail
          refine (CO.out _).mono ?_
          rintro e w' ⟨rfl, rfl⟩
          go_wp2_with fail
          refine (CN.out _).mono ?_
          rintro e w' ⟨rfl, rfl⟩
          go_wp2_with fail
          go_ret
          rw [F.out]
          exact .mk_ al
        | true =>
          go_enter Tryd.func82, Tryd.ntmps82
          go_wp2_with fail
          refine (CO.out _).mono ?_
          rintro e w' ⟨rfl, rfl⟩
          go_wp2_with fail
          refine (CN.out _).mono ?_
          rintro e w' ⟨rfl, rfl⟩
          go_wp2_with fail
          go_ret
          rw [F.out]
          exact .mk_ al
end Go.Proofs.YteeffchnbkkpfabDoor
