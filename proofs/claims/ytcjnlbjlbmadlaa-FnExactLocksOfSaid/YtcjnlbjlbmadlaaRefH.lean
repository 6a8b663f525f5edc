/-
  Walks: the program's ids, updates and arrays of refs.
-/
import Derived.Test.YtcjnlbjlbmadlaaRefG
namespace Go.Proofs.Ytcjnlbjlbmadlaa
open Go.RowKit Wo Pu Rf

theorem refIdValid_is (b : Bool) (n : Int) (w : World) (hb : b = true ↔ Val n) : Calls Try.prog 49 #[.int .i64 n] w (Same (.bool b) w) := by
  have HB := hid hb
  clear hb
  by_cases h0 : n = -1
  · have F := hid (HB.out.2 ⟨by omega, by omega⟩)
    have e0 : (n == -1) = true := by rw [beq_iff_eq]; exact h0
    clear h0
    go_enter Try.func49, Try.ntmps49
    go_wp2
    go_ret
    rw [F.out]
    exact ⟨rfl, rfl⟩
  · have e0 : (n == -1) = false := by rw [beq_eq_false_iff_ne]; exact h0
    by_cases h1 : 0 ≤ n
    · have e1 : decide (0 ≤ n) = true := decide_eq_true h1
      by_cases h2 : n < 991
      · have F := hid (HB.out.2 ⟨by omega, by omega⟩)
        have e2 : decide (n < 991) = true := decide_eq_true h2
        clear h0 h1 h2
        go_enter Try.func49, Try.ntmps49
        go_wp2
        go_ret
        rw [F.out]
        exact ⟨rfl, rfl⟩
      · have F : Hid (b = false) := by
          show b = false
          rw [← Bool.not_eq_true]
          exact fun e => by have := (HB.out.1 e).2; omega
        have e2 : decide (n < 991) = false := decide_eq_false h2
        clear h0 h1 h2
        go_enter Try.func49, Try.ntmps49
        go_wp2
        go_ret
        rw [F.out]
        exact ⟨rfl, rfl⟩
    · have F : Hid (b = false) := by
        show b = false
        rw [← Bool.not_eq_true]
        exact fun e => by have := (HB.out.1 e).1; omega
      have e1 : decide (0 ≤ n) = false := decide_eq_false h1
      clear h0 h1
      go_enter Try.func49, Try.ntmps49
      go_wp2
      go_ret
      rw [F.out]
      exact ⟨rfl, rfl⟩

/-! ### Arrays of refs. -/
theorem ints_ones (zs : List Int) : (ints zs).toArray.all (·.oneCell') = true := by
  rw [Array.all_eq_true]
  intro i hi
  simp [ints, Value.oneCell']
theorem results_cell_slot {fn : Func} {p s : Tmp} {ty : TypeId} (h : fn.results = #[.cell p ty, .tmp s]) (tmps : Array Value) (w : World) (g : Nat) (t : TypeId) (cs : Array Value) (fr : Nat × Nat) (n : Nat) (el : TypeId) (v : Value)
    (hp : tmps.getD p undef = .pointer (some ⟨g, 0, none⟩)) (hs : tmps.getD s undef = v) (hg : w.heap[g]? = some (.cells cs t fr))
    (hu : Try.prog.underlying ty = some (.array n el)) (hi : (Try.prog.info? ty).map (·.size) = some cs.size) :
    (results fn tmps).run Try.prog w = .ok (.tuple #[.agg cs, v]) w := by
  have hp' : tmps[p]?.getD undef = .pointer (some ⟨g, 0, none⟩) := by simpa using hp
  have hs' : tmps[s]?.getD undef = v := by simpa using hs
  simp [results, h, hp', hs', asAddr, run_loadVar_row w g t ty cs fr _ hg hu rfl hi]

/-! ### Updates. -/
set_option maxHeartbeats 2000000 in
theorem valid_is (b : Bool) (u : Up) (w : World) (hb : b = true ↔ Ok u) : Calls Try.prog 43 #[upA u] w (Ret (.bool b) w) := by
  obtain ⟨bo, hbo⟩ := bool_of (Val u.o)
  obtain ⟨bn, hbn⟩ := bool_of (Val u.n)
  obtain ⟨b0, hb0⟩ := bool_of (0 ≤ u.r)
  obtain ⟨b1, hb1⟩ := bool_of (u.r < 4)
  obtain ⟨bd, hbd⟩ := bool_of (u.o ≠ u.n)
  have F : Hid (b = (b0 && b1 && bo && bn && bd)) := by
    show b = _
    rw [Bool.eq_iff_iff, hb]
    simp only [Bool.and_eq_true, hbo, hbn, hb0, hb1, hbd]
    unfold Ok
    constructor
    · rintro ⟨⟨h1, h2⟩, h3, h4, h5⟩; exact ⟨⟨⟨⟨h1, by omega⟩, h3⟩, h4⟩, h5⟩
    · rintro ⟨⟨⟨⟨h1, h2⟩, h3⟩, h4⟩, h5⟩; exact ⟨⟨h1, by omega⟩, h3, h4, h5⟩
  have CO : Hid (∀ x, Calls Try.prog 49 #[.int .i64 u.o] x (Same (.bool bo) x)) := fun x => refIdValid_is bo _ x hbo
  have CN : Hid (∀ x, Calls Try.prog 49 #[.int .i64 u.n] x (Same (.bool bn) x)) := fun x => refIdValid_is bn _ x hbn
  have e0 : decide (0 ≤ u.r) = b0 := by rw [Bool.eq_iff_iff, decide_eq_true_iff, hb0]
  have e1 : decide (u.r < 4) = b1 := by rw [Bool.eq_iff_iff, decide_eq_true_iff, hb1]
  have e2 : (u.o != u.n) = bd := by rw [Bool.eq_iff_iff, bne_iff_ne, hbd]
  have al := (Below.refl w.heap.size w).alloc (Nat.le_refl _) (.cells #[.int .i64 u.r, .int .i64 u.o, .int .i64 u.n] 53)
  clear hb hbo hbn hb0 hb1 hbd
  unfold upA
  cases b0 with
  | false =>
    go_enter Try.func43, Try.ntmps43
    go_wp2_with fail
    go_ret
    rw [F.out]
    exact .mk_ al
  | true =>
    cases b1 with
    | false =>
      go_enter Try.func43, Try.ntmps43
      go_wp2_with fail
      go_ret
      rw [F.out]
      exact .mk_ al
    | true =>
      cases bo with
      | false =>
        go_enter Try.func43, Try.ntmps43
        go_wp2_with fail
        refine (CO.out _).mono ?_
        rintro e w' ⟨rfl, rfl⟩
        go_wp2_with fail
        go_ret
        rw [F.out]
        exact .mk_ al
      | true =>
        cases bn with
        | false =>
          go_enter Try.func43, Try.ntmps43
          go_wp2_with fail
          refine (CO.out _).mono ?_
          rintro e w' ⟨rfl, rfl⟩
          go_wp2_with fail
          refine (CN.out _).mono ?_
          rintro e w' ⟨rfl, rfl⟩
          go_wp2_with fail
          go_ret
          rw [F.out]
          exact .mk_ al
        | true =>
          go_enter Try.func43, Try.ntmps43
          go_wp2_with fail
          refine (CO.out _).mono ?_
          rintro e w' ⟨rfl, rfl⟩
          go_wp2_with fail
          refine (CN.out _).mono ?_
          rintro e w' ⟨rfl, rfl⟩
          go_wp2_with fail
          go_ret
          rw [F.out]
          exact .mk_ al
end Go.Proofs.Ytcjnlbjlbmadlaa
