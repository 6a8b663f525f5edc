/-
  Walks: what the laws on refs draw.
  Walks: the laws' own helpers on updates: compared, turned round.
  Plain facts: arrays in memory; lists of refs that are being filled; which refs have been marked.
  The coordinator with the slices $SA and $SB is stored as the answer, with the word $BB.
  Walks: the program's updates of an array of refs; which refs are updated.
  The coordinator with the slices $SA and $SB is stored as the answer, with the word $BB.
  Walks: drawn locks and transactions.
  Walks: what the laws on locks draw.
  Walk: the program's refs without ids, as an array.
-/
import Derived.Test.YteeffchnbkkpfaaDoorDrawU
import Derived.Test.YteeffchnbkkpfaaDoorG3C
import Derived.Laws.Rows
import Derived.Laws.Tables
import Derived.Laws.CopyOwn
import Derived.Great.BuildSlice
namespace Go.Proofs.YteeffchnbkkpfaaDoor
open Go.RowKit Wo Pu Rf

/-- Drawn refs. -/
def RefsMade (w : World) (e : Ending) (w' : World) : Prop := ∃ A c zs, e = .returned (.slice A zs.length c) ∧ Row w' w'.heap.size A (ints zs) ∧ zs.length ≤ 4 ∧ zs.length ≤ c ∧ Below w.heap.size w w'
/-- Drawn updates. -/
def UpsMade (w : World) (e : Ending) (w' : World) : Prop := ∃ A c us, e = .returned (.slice A us.length c) ∧ Row w' w'.heap.size A (upsV us) ∧ us.length ≤ 4 ∧ us.length ≤ c ∧ Below w.heap.size w w'
/-- Drawn refs and updates. -/
def BothMade (w : World) (e : Ending) (w' : World) : Prop := ∃ A c zs A2 c2 us, e = .returned (.tuple #[.slice A zs.length c, .slice A2 us.length c2]) ∧ Row w' w'.heap.size A (ints zs) ∧ zs.length ≤ 4 ∧ Row w' w'.heap.size A2 (upsV us) ∧ us.length ≤ 4 ∧ Below w.heap.size w w'
/-- Two drawn lists of refs. -/
def TwoRefs (w : World) (e : Ending) (w' : World) : Prop := ∃ A c zs A2 c2 ys, e = .returned (.tuple #[.slice A zs.length c, .slice A2 ys.length c2]) ∧ Row w' w'.heap.size A (ints zs) ∧ zs.length ≤ 4 ∧ Row w' w'.heap.size A2 (ints ys) ∧ ys.length ≤ 4 ∧ Below w.heap.size w w'
/-- Two drawn lists of updates. -/
def TwoUps (w : World) (e : Ending) (w' : World) : Prop := ∃ A c us A2 c2 vs, e = .returned (.tuple #[.slice A us.length c, .slice A2 vs.length c2]) ∧ Row w' w'.heap.size A (upsV us) ∧ us.length ≤ 4 ∧ Row w' w'.heap.size A2 (upsV vs) ∧ vs.length ≤ 4 ∧ Below w.heap.size w w'
theorem OwnI.ne {w : World} {B R n c : Nat} {A : Option Addr} {zs : List Int} (h : OwnI w B (.slice A n c) zs) (hR : R < B) : ∀ ad, A = some ad → ad.block ≠ R := fun ad e => by
  subst e
  have := (World.ownsRow.lt h ad.block rfl).1
  omega
theorem OwnUps.row {w : World} {B c : Nat} {A : Option Addr} {n : Nat} {us : List Up} (h : OwnUps w B (.slice A n c) us) : Row w w.heap.size A (upsV us) := by
  obtain ⟨A', c', e, hr, _⟩ := h.form
  injection e with e1
  subst e1
  exact hr
theorem row_wide {w : World} {B B' : Nat} {A : Option Addr} {vs : List Value} (h : Row w B A vs) (hB : B ≤ B') : Row w B' A vs := by
  rcases h with rfl | ⟨ad, e, hb, hc⟩
  · exact .inl rfl
  · exact .inr ⟨ad, e, Nat.lt_of_lt_of_le hb hB, hc⟩
theorem OwnI.wide {w w' : World} {B c n : Nat} {A : Option Addr} {zs : List Int} (h : OwnI w B (.slice A n c) zs) (hb : Below w.heap.size w w') : Row w' w'.heap.size A (ints zs) := (h.below hb (Nat.le_refl _)).row
end Go.Proofs.YteeffchnbkkpfaaDoor
namespace Go.Proofs.YteeffchnbkkpfaaDoor
open Go.RowKit Wo Pu Rf

set_option maxHeartbeats 2000000 in
theorem sameUpdates_ret (A A2 : Option Addr) (c c2 : Nat) (os : List Up) (w : World) (B C : Nat) (h : Row w B A (upsV os)) (h2 : Row w C A2 (upsV os)) (hn : os.length ≤ 1048600) :
    Calls Tryd.prog 67 #[.slice A os.length c, .slice A2 os.length c2] w (Ret (.bool true) w) := by
  go_enter Tryd.func67, Tryd.ntmps67
  go_wp2
  go_loopw [5] (fun i wr => ∃ k : Nat, k ≤ os.length ∧ i = .int .i64 k ∧ Dr w wr) (fun i _ => os.length - (intOf i).toNat)
  case atStart => exact ⟨0, Nat.zero_le _, rfl, .refl _⟩
  case round =>
    obtain ⟨k, hk, rfl, HW⟩ := hrel
    by_cases hlt : k < os.length
    · obtain ⟨o, ad, ho, rfl, ha1, g0, g1, g2⟩ := (HW.row h).up_ hlt
      obtain ⟨o2, ad2, ho2, rfl, ha2, g20, g21, g22⟩ := (HW.row h2).up_ hlt
      obtain rfl : o = o2 := by rw [← ho, ← ho2]
      have k0 : 0 ≤ (k : Int) := by omega
      have k1 : (k : Int) < (os.length : Int) := by omega
      clear ho ho2
      go_wp2
      go_quiet (fail)
      go_wp2
      go_roundw
      case rel => exact ⟨k + 1, by omega, by go_num, HW.drewN _⟩
      case measure => simp [intOf]; omega
    · have hk' : k = os.length := by omega
      subst hk'
      go_wp2
      go_ret
      exact .mk_ (HW.below _)
end Go.Proofs.YteeffchnbkkpfaaDoor
namespace Go.Proofs.YteeffchnbkkpfaaDoor
open Go.RowKit Wo Pu Rf

/-- Block g is an array of the values vs. -/
def Arr4 (w : World) (g : Nat) (t : TypeId) (vs : List Value) : Prop := w.heap[g]? = some (.cells vs.toArray t (0, 0))
section
variable {w w' : World} {g : Nat} {t : TypeId} {vs : List Value}
theorem Arr4.new_ (w : World) (t : TypeId) (vs : List Value) : Arr4 (w.alloc (.cells vs.toArray t)) w.heap.size t vs := heap_alloc_new w _
theorem Arr4.lt (h : Arr4 w g t vs) : g < w.heap.size := by
  rcases Nat.lt_or_ge g w.heap.size with h1 | h1
  · exact h1
  · unfold Arr4 at h; rw [Array.getElem?_eq_none h1] at h; cases h
theorem Arr4.read (h : Arr4 w g t vs) {i : Nat} (hi : i < vs.length) : w.cell? ⟨g, i, none⟩ = some vs[i] := by
  unfold Arr4 at h
  simp [World.cell?, h, hi]
theorem Arr4.frozen (h : Arr4 w g t vs) (o : Nat) : w.frozen? ⟨g, o, none⟩ = false := by
  unfold Arr4 at h
  simp [World.frozen?, h]
theorem Arr4.below {C : Nat} (h : Arr4 w g t vs) (hb : Below C w w') (hC : g < C) : Arr4 w' g t vs := (hb.block g hC).trans h
theorem Arr4.far (h : Arr4 w g t vs) {p : Addr} (hp : g ≠ p.block) (u : Value) : Arr4 (w.setCell p u) g t vs := (Below.heap_setCell w p u g hp).trans h
theorem Arr4.set (h : Arr4 w g t vs) (i : Nat) (u : Value) : Arr4 (w.setCell ⟨g, i, none⟩ u) g t (vs.set i u) := by
  unfold Arr4 at h ⊢
  simp [World.setCell, Array.getElem?_modify, h]
theorem Arr4.row (h : Arr4 w g t vs) : Row w w.heap.size (some ⟨g, 0, none⟩) vs := by
  refine .inr ⟨_, rfl, h.lt, fun j v hj => ?_⟩
  have e : (⟨g, 0, none⟩ : Addr).add j = ⟨g, j, none⟩ := by unfold Addr.add; split <;> simp_all
  rw [e]
  unfold Arr4 at h
  simp [World.cell?, h, hj]
end
/-- The first k are zs's, the others 0. -/
def pad (zs : List Int) (k : Nat) : List Int := zs.take k ++ List.replicate (4 - k) 0
theorem pad_zero (zs : List Int) : pad zs 0 = [0, 0, 0, 0] := by simp [pad, List.replicate]
theorem pad_all {zs : List Int} (h : zs.length = 4) : pad zs 4 = zs := by simp [pad, List.take_of_length_le, h]
theorem pad_length {zs : List Int} {k : Nat} (h : zs.length = 4) (hk : k ≤ 4) : (pad zs k).length = 4 := by simp [pad]; omega
theorem pad_set {zs : List Int} {k : Nat} (h : zs.length = 4) (hk : k < 4) : (pad zs k).set k (zs[k]'(by omega)) = pad zs (k + 1) := by
  apply List.ext_getElem?
  intro i
  unfold pad
  rw [List.getElem?_set, List.length_append, List.length_take, List.length_replicate]
  have hk' : k < zs.length := by omega
  by_cases e : k = i
  · subst e
    rw [if_pos rfl, if_pos (by omega), List.getElem?_append_left (by simp; omega), List.getElem?_take, if_pos (by omega), List.getElem?_eq_getElem hk']
  · rw [if_neg e]
    by_cases hi : i < k
    · rw [List.getElem?_append_left (by simp; omega), List.getElem?_append_left (by simp; omega), List.getElem?_take, List.getElem?_take, if_pos hi, if_pos (by omega)]
    · rw [List.getElem?_append_right (by simp; omega), List.getElem?_append_right (by simp; omega), List.length_take, List.length_take, List.getElem?_replicate, List.getElem?_replicate]
      by_cases h4 : i < 4
      · rw [if_pos (by omega), if_pos (by omega)]
      · rw [if_neg (by omega), if_neg (by omega)]
/-- Which refs the first k of us name. -/
def named (us : List Up) (k : Nat) (i : Nat) : Bool := (us.take k).any (fun u => u.r.toNat == i)
def nameds (us : List Up) (k : Nat) : List Value := [.bool (named us k 0), .bool (named us k 1), .bool (named us k 2), .bool (named us k 3)]
theorem named_zero (us : List Up) (i : Nat) : named us 0 i = false := by simp [named]
theorem nameds_zero (us : List Up) : nameds us 0 = [.bool false, .bool false, .bool false, .bool false] := by simp [nameds, named_zero]
theorem named_next {us : List Up} {k : Nat} (hk : k < us.length) (i : Nat) : named us (k + 1) i = (named us k i || us[k].r.toNat == i) := by
  unfold named
  rw [List.take_succ_eq_append_getElem hk, List.any_append]
  simp
theorem nameds_next {us : List Up} {k : Nat} (hk : k < us.length) {m : Nat} (hm : us[k].r = (m : Int)) (h4 : m < 4) : (nameds us k).set m (.bool true) = nameds us (k + 1) := by
  unfold nameds
  simp only [named_next hk, hm, Int.toNat_natCast]
  match m, h4 with
  | 0, _ => simp
  | 1, _ => simp
  | 2, _ => simp
  | 3, _ => simp
theorem nameds_get (us : List Up) (k : Nat) {m : Nat} (h4 : m < 4) : (nameds us k)[m]'(by simpa [nameds] using h4) = .bool (named us k m) := by
  unfold nameds
  match m, h4 with
  | 0, _ => rfl
  | 1, _ => rfl
  | 2, _ => rfl
  | 3, _ => rfl
theorem named_iff (us : List Up) (i : Nat) : named us us.length i = true ↔ ∃ u ∈ us, u.r.toNat = i := by
  unfold named
  rw [List.take_length, List.any_eq_true]
  simp
/-- None of the first k of b names a ref of a. -/
def Apart (a b : List Up) (k : Nat) : Prop := ∀ i (h : i < b.length), i < k → named a a.length b[i].r.toNat = false
theorem Apart.zero (a b : List Up) : Apart a b 0 := fun _ _ h => absurd h (Nat.not_lt_zero _)
theorem Apart.next {a b : List Up} {k : Nat} (h : Apart a b k) (hk : k < b.length) (e : named a a.length b[k].r.toNat = false) : Apart a b (k + 1) := fun i hi hl => by
  by_cases e2 : i = k
  · subst e2; exact e
  · exact h i hi (by omega)
theorem Apart.none {a b : List Up} (h : Apart a b b.length) : ¬ Cross a b := fun ⟨_, _, u, hu, v, hv, e⟩ => by
  obtain ⟨i, hi, rfl⟩ := List.getElem_of_mem hv
  have h1 := h i hi hi
  have h2 := (named_iff a b[i].r.toNat).2 ⟨u, hu, by rw [e]⟩
  rw [h1] at h2
  cases h2
theorem cross_named {a b : List Up} (ha : UV a) (hb : UV b) {k : Nat} (hk : k < b.length) (e : named a a.length b[k].r.toNat = true) : Cross a b := by
  obtain ⟨u, hu, h⟩ := (named_iff a _).1 e
  have h1 := (ha.2.mem u hu).2.1
  have h2 := (hb.2.mem _ (List.getElem_mem hk)).2.1
  exact ⟨ha, hb, u, hu, _, List.getElem_mem hk, by omega⟩
/-- The ref of the last of the first k; -1 if there is none. -/
def lastR (us : List Up) (k : Nat) : Int := if h : 0 < k ∧ k - 1 < us.length then (us[k - 1]'h.2).r else -1
theorem lastR_zero (us : List Up) : lastR us 0 = -1 := by unfold lastR; rw [dif_neg (by omega)]
theorem lastR_next {us : List Up} {k : Nat} (hk : k < us.length) : lastR us (k + 1) = us[k].r := by
  unfold lastR
  rw [dif_pos (by omega)]
  rfl
theorem okU_iff {us : List Up} {k : Nat} (hk : k < us.length) : OkU us k hk ↔ Ok us[k] ∧ lastR us k < us[k].r := by
  unfold OkU lastR
  refine and_congr_right fun h => ?_
  by_cases e : k = 0
  · subst e
    rw [dif_neg (by omega)]
    exact ⟨fun _ => by have := h.1.1; omega, fun _ => .inl rfl⟩
  · rw [dif_pos ⟨by omega, by omega⟩]
    exact ⟨fun h2 => by rcases h2 with h2 | ⟨_, h2⟩; exact absurd h2 e; exact h2, fun h2 => .inr ⟨by omega, h2⟩⟩
end Go.Proofs.YteeffchnbkkpfaaDoor
/-
  Walks: the program's ids, updates and arrays of refs.
-/
namespace Go.Proofs.YteeffchnbkkpfaaDoor
open Go.RowKit Wo Pu Rf

theorem refIdValid_is (b : Bool) (n : Int) (w : World) (hb : b = true ↔ Val n) : Calls Tryd.prog 77 #[.int .i64 n] w (Same (.bool b) w) := by
  have HB := hid hb
  clear hb
  by_cases h0 : n = -1
  · have F := hid (HB.out.2 ⟨by omega, by omega⟩)
    have e0 : (n == -1) = true := by rw [beq_iff_eq]; exact h0
    clear h0
    go_enter Tryd.func77, Tryd.ntmps77
    go_wp2
    go_ret
    rw [F.out]
    exact ⟨rfl, rfl⟩
  · have e0 : (n == -1) = false := by rw [beq_eq_false_iff_ne]; exact h0
    by_cases h1 : 0 ≤ n
    · have e1 : decide (0 ≤ n) = true := decide_eq_true h1
      by_cases h2 : n < 991
      · have F := hid (HB.out.2 ⟨by omega, by omega⟩)
        have e2 : decide (n < 991) = true := decide_eq_true h2
        clear h0 h1 h2
        go_enter Tryd.func77, Tryd.ntmps77
        go_wp2
        go_ret
        rw [F.out]
        exact ⟨rfl, rfl⟩
      · have F : Hid (b = false) := by
          show b = false
          rw [← Bool.not_eq_true]
          exact fun e => by have := (HB.out.1 e).2; omega
        have e2 : decide (n < 991) = false := decide_eq_false h2
        clear h0 h1 h2
        go_enter Tryd.func77, Tryd.ntmps77
        go_wp2
        go_ret
        rw [F.out]
        exact ⟨rfl, rfl⟩
    · have F : Hid (b = false) := by
        show b = false
        rw [← Bool.not_eq_true]
        exact fun e => by have := (HB.out.1 e).1; omega
      have e1 : decide (0 ≤ n) = false := decide_eq_false h1
      clear h0 h1
      go_enter Tryd.func77, Tryd.ntmps77
      go_wp2
      go_ret
      rw [F.out]
      exact ⟨rfl, rfl⟩

/-! ### Arrays of refs. -/
theorem ints_ones (zs : List Int) : (ints zs).toArray.all (·.oneCell') = true := by
  rw [Array.all_eq_true]
  intro i hi
  simp [ints, Value.oneCell']
theorem results_cell_slot {fn : Func} {p s : Tmp} {ty : TypeId} (h : fn.results = #[.cell p ty, .tmp s]) (tmps : Array Value) (w : World) (g : Nat) (t : TypeId) (cs : Array Value) (fr : Nat × Nat) (n : Nat) (el : TypeId) (v : Value)
    (hp : tmps.getD p undef = .pointer (some ⟨g, 0, none⟩)) (hs : tmps.getD s undef = v) (hg : w.heap[g]? = some (.cells cs t fr))
    (hu : Tryd.prog.underlying ty = some (.array n el)) (hi : (Tryd.prog.info? ty).map (·.size) = some cs.size) :
    (results fn tmps).run Tryd.prog w = .ok (.tuple #[.agg cs, v]) w := by
  have hp' : tmps[p]?.getD undef = .pointer (some ⟨g, 0, none⟩) := by simpa using hp
  have hs' : tmps[s]?.getD undef = v := by simpa using hs
  simp [results, h, hp', hs', asAddr, run_loadVar_row w g t ty cs fr _ hg hu rfl hi]

/-! ### Updates. -/
set_option maxHeartbeats 2000000 in
theorem valid_is (b : Bool) (u : Up) (w : World) (hb : b = true ↔ Ok u) : Calls Tryd.prog 65 #[upA u] w (Ret (.bool b) w) := by
  obtain ⟨bo, hbo⟩ := bool_of (Val u.o)
  obtain ⟨bn, hbn⟩ := bool_of (Val u.n)
  obtain ⟨b0, hb0⟩ := bool_of (0 ≤ u.r)
  obtain ⟨b1, hb1⟩ := bool_of (u.r < 4)
  obtain ⟨bd, hbd⟩ := bool_of (u.o ≠ u.n)
  have F : Hid (b = (b0 && b1 && bo && bn && bd)) := by
    show b = _
    rw [Bool.eq_iff_iff, hb]
    simp only [Bool.and_eq_true, hbo, hbn, hb0, hb1, hbd]
    unfold Ok
    constructor
    · rintro ⟨⟨h1, h2⟩, h3, h4, h5⟩; exact ⟨⟨⟨⟨h1, by omega⟩, h3⟩, h4⟩, h5⟩
    · rintro ⟨⟨⟨⟨h1, h2⟩, h3⟩, h4⟩, h5⟩; exact ⟨⟨h1, by omega⟩, h3, h4, h5⟩
  have CO : Hid (∀ x, Calls Tryd.prog 77 #[.int .i64 u.o] x (Same (.bool bo) x)) := fun x => refIdValid_is bo _ x hbo
  have CN : Hid (∀ x, Calls Tryd.prog 77 #[.int .i64 u.n] x (Same (.bool bn) x)) := fun x => refIdValid_is bn _ x hbn
  have e0 : decide (0 ≤ u.r) = b0 := by rw [Bool.eq_iff_iff, decide_eq_true_iff, hb0]
  have e1 : decide (u.r < 4) = b1 := by rw [Bool.eq_iff_iff, decide_eq_true_iff, hb1]
  have e2 : (u.o != u.n) = bd := by rw [Bool.eq_iff_iff, bne_iff_ne, hbd]
  have al := (Below.refl w.heap.size w).alloc (Nat.le_refl _) (.cells #[.int .i64 u.r, .int .i64 u.o, .int .i64 u.n] 39)
  clear hb hbo hbn hb0 hb1 hbd
  unfold upA
  cases b0 with
  | false =>
    go_enter Tryd.func65, Tryd.ntmps65
    go_wp2_with fail
    go_ret
    rw [F.out]
    exact .mk_ al
  | true =>
    cases b1 with
    | false =>
      go_enter Tryd.func65, Tryd.ntmps65
      go_wp2_with fail
      go_ret
      rw [F.out]
      exact .mk_ al
    | true =>
      cases bo with
      | false =>
        go_enter Tryd.func65, Tryd.ntmps65
        go_wp2_with fail
        refine (CO.out _).mono ?_
        rintro e w' ⟨rfl, rfl⟩
        go_wp2_with fail
        go_ret
        rw [F.out]
        exact .mk_ al
      | true =>
        cases bn with
        | false =>
          go_enter Tryd.func65, Tryd.ntmps65
          go_wp2_with fail
          refine (CO.out _).mono ?_
          rintro e w' ⟨rfl, rfl⟩
          go_wp2_with fail
          refine (CN.out _).mono ?_
          rintro e w' ⟨rfl, rfl⟩
          go_wp2_with fail
          go_ret
          rw [F.out]
          exact .mk_ al
        | true =>
          go_enter Tryd.func65, Tryd.ntmps65
          go_wp2_with fail
          refine (CO.out _).mono ?_
          rintro e w' ⟨rfl, rfl⟩
          go_wp2_with fail
          refine (CN.out _).mono ?_
          rintro e w' ⟨rfl, rfl⟩
          go_wp2_with fail
          go_ret
          rw [F.out]
          exact .mk_ al
end Go.Proofs.YteeffchnbkkpfaaDoor
namespace Go.Proofs.YteeffchnbkkpfaaDoor
open Go.RowKit Wo Pu Rf

/-- What updated answers. -/
def Updt (b : Bool) (zs : List Int) (us : List Up) (w : World) (e : Ending) (w' : World) : Prop := e = .returned (.tuple #[.agg (ints (if b then setR zs us else zs)).toArray, .bool b]) ∧ Below w.heap.size w w'
theorem Arr4.setRow {w : World} {g : Nat} {t : TypeId} {vs : List Value} (h : Arr4 w g t vs) (cs : List Value) : Arr4 (w.setRow g cs.toArray) g t cs := setRow_heap w g _ _ t _ h
theorem Arr4.farRow {w : World} {g g' : Nat} {t : TypeId} {vs : List Value} (h : Arr4 w g t vs) (hg : g ≠ g') (cs : Array Value) : Arr4 (w.setRow g' cs) g t vs := (setRow_other w g' g cs hg).trans h
theorem Arr4.alloc {w : World} {g : Nat} {t : TypeId} {vs : List Value} (h : Arr4 w g t vs) (o : Obj) : Arr4 (w.alloc o) g t vs := (heap_alloc_old w o h.lt).trans h
theorem info_refsJ : (Tryd.prog.info? 61).map (·.size) = some 4 := by kernel_rfl
set_option maxRecDepth 100000 in
set_option maxHeartbeats 4000000 in
theorem updated_is (b : Bool) (A : Option Addr) (c : Nat) (zs : List Int) (us : List Up) (w : World) (h4 : zs.length = 4) (hu : Row w w.heap.size A (upsV us)) (hr : Refs4 us) (hm : us.length ≤ 1048600) (hb : b = true ↔ Fits zs us) :
    Calls Tryd.prog 78 #[.agg (ints zs).toArray, .slice A us.length c] w (Updt b zs us w) := by
  have HB := hid hb
  have H4 := hid h4
  clear hb h4
  have hsz : (ints zs).toArray.size = 4 := by rw [List.size_toArray, ints_length, H4.out]
  have hsz' : (Tryd.prog.info? 61).map (·.size) = some (ints zs).toArray.size := by rw [hsz]; exact info_refsJ
  have HSZ := hid hsz
  have HSZ' := hid hsz'
  clear hsz hsz'
  go_enter Tryd.func78, Tryd.ntmps78
  have y0 := Arr4.new_ w 61 (ints zs)
  have b0 := (Below.refl w.heap.size w).alloc (Nat.le_refl _) (.cells (ints zs).toArray 61)
  obtain ⟨w1, hw1⟩ : ∃ w1, w.alloc (.cells (ints zs).toArray 61) = w1 := ⟨_, rfl⟩
  have z1 : w1.heap.size = w.heap.size + 1 := by rw [← hw1]; simp
  rw [hw1] at y0 b0
  have y1 := Arr4.new_ w1 61 (ints [0, 0, 0, 0])
  have y01 := y0.alloc (.cells (ints [0, 0, 0, 0]).toArray 61)
  have b1 := b0.alloc b0.size (.cells (ints [0, 0, 0, 0]).toArray 61)
  obtain ⟨w2, hw2⟩ : ∃ w2, w1.alloc (.cells (ints [0, 0, 0, 0]).toArray 61) = w2 := ⟨_, rfl⟩
  have z2 : w2.heap.size = w.heap.size + 1 + 1 := by rw [← hw2]; simp [z1]
  rw [hw2] at y1 y01 b1
  rw [z1] at y1
  have y2 := Arr4.new_ w2 61 (ints [0, 0, 0, 0])
  have y02 := y01.alloc (.cells (ints [0, 0, 0, 0]).toArray 61)
  have y12 := y1.alloc (.cells (ints [0, 0, 0, 0]).toArray 61)
  have b2 := b1.alloc b1.size (.cells (ints [0, 0, 0, 0]).toArray 61)
  obtain ⟨w3, hw3⟩ : ∃ w3, w2.alloc (.cells (ints [0, 0, 0, 0]).toArray 61) = w3 := ⟨_, rfl⟩
  have z3 : w3.heap.size = w.heap.size + 3 := by rw [← hw3]; simp [z2]
  rw [hw3] at y2 y02 y12 b2
  rw [z2] at y2
  have q2 := y2.setRow (ints zs)
  have q1 := y12.farRow (g' := w.heap.size + 1 + 1) (by omega) (ints zs).toArray
  have q0 := y02.farRow (g' := w.heap.size + 1 + 1) (by omega) (ints zs).toArray
  have b3 := below_setRow (g := w.heap.size + 1 + 1) b2 (by omega) (ints zs).toArray
  have hl : w2.heap[w.heap.size]? = some (.cells (ints zs).toArray 61 (0, 0)) := y01
  have hs : w3.heap[w.heap.size + 1 + 1]? = some (.cells (ints [0, 0, 0, 0]).toArray 61 (0, 0)) := y2
  subst hw1 hw2 hw3
  clear y0 y1 y01 y2 y02 y12 b0 b1 b2 z1 z2 z3
  go_wp2_with (first
    | (refine wpList_load_row rfl 61 _ rfl w.heap.size rfl 61 (ints zs).toArray (0, 0) _ hl Tryd.underlying61 rfl HSZ'.out ?_)
    | (refine wpList_store_rowTo rfl 61 _ _ rfl rfl (w.heap.size + 1 + 1) (ints zs).toArray rfl rfl 61 (ints [0, 0, 0, 0]).toArray hs HSZ'.out HSZ.out.symm (ints_ones _) ?_))
  clear hl hs
  go_loopw [12] (fun i wr => ∃ k : Nat, k ≤ us.length ∧ i = .int .i64 k ∧ Hid (FitTo zs us k) ∧ Arr4 wr (w.heap.size + 1 + 1) 61 (ints (setR zs (us.take k))) ∧ Arr4 wr (w.heap.size + 1) 61 (ints [0, 0, 0, 0]) ∧ Arr4 wr w.heap.size 61 (ints zs) ∧ Below w.heap.size w wr) (fun i _ => us.length - (intOf i).toNat)
  case atStart => exact ⟨0, Nat.zero_le _, rfl, .zero _ _, by rw [List.take_zero, setR_nil]; exact q2, q1, q0, b3⟩
  case round =>
    obtain ⟨k, hk, rfl, H, a2, a1, a0, hbr⟩ := hrel
    clear q2 q1 q0 b3
    have hz := hbr.size
    by_cases hlt : k < us.length
    · obtain ⟨o, ad, ho, rfl, ha1, g0, g1, g2⟩ := ((hu.below hbr (Nat.le_refl _)).more hbr.size).up_ hlt
      obtain ⟨r0, r1⟩ := hr _ (List.getElem_mem hlt)
      rw [ho] at r0 r1
      obtain ⟨m, hm0⟩ := Int.eq_ofNat_of_zero_le r0
      have hm4 : m < 4 := by omega
      have hmz : m < zs.length := by rw [H4.out]; exact hm4
      have hfit : fit1 zs us[k] ↔ zs[m] = o.o := by
        unfold fit1
        rw [ho, hm0, Int.toNat_natCast, List.getElem?_eq_getElem hmz]
        exact ⟨fun h => by injection h, fun h => by rw [h]⟩
      have HS : Hid (setR zs (us.take (k + 1)) = (setR zs (us.take k)).set m o.n) := by
        have := setR_take (zs := zs) hlt
        rwa [ho, hm0, Int.toNat_natCast] at this
      rw [hm0] at g0
      have hbW := hbr.alloc hz (.cells #[.int .i64 (m : Int), .int .i64 o.o, .int .i64 o.n] 39)
      have u1 := Blk.new_ wr 39 (.int .i64 (m : Int)) (.int .i64 o.o) (.int .i64 o.n)
      have c2 := a2.alloc (.cells #[.int .i64 (m : Int), .int .i64 o.o, .int .i64 o.n] 39)
      have c1 := a1.alloc (.cells #[.int .i64 (m : Int), .int .i64 o.o, .int .i64 o.n] 39)
      have c0 := a0.alloc (.cells #[.int .i64 (m : Int), .int .i64 o.o, .int .i64 o.n] 39)
      have k0 : (0 : Int) ≤ (k : Int) := by omega
      have k1 : (k : Int) < (us.length : Int) := by omega
      have k2 : (0 : Int) ≤ (m : Int) := by omega
      have k3 : (m : Int) < 4 := by omega
      clear ho hm0 r0 r1 a2 a1 a0
      go_wp2_with fail
      generalize wr.alloc (.cells #[.int .i64 (m : Int), .int .i64 o.o, .int .i64 o.n] 39) = W at *
      obtain ⟨z0, z1, z2, -⟩ := id u1.reads
      have hl4 : (ints (setR zs (us.take k))).length = 4 := by rw [ints_length, setR_length, H4.out]
      have y0 := c0.read (i := m) (by rw [ints_length]; exact hmz)
      rw [ints_get zs m hmz] at y0
      obtain ⟨yv, y2⟩ : ∃ v, W.cell? ⟨w.heap.size + 1 + 1, m, none⟩ = some v := ⟨_, c2.read (i := m) (by rw [hl4]; exact hm4)⟩
      have f2 := c2.frozen m
      have d2 := c2.set m (.int .i64 o.n)
      have d1 := c1.far (p := ⟨w.heap.size + 1 + 1, m, none⟩) (by show w.heap.size + 1 ≠ w.heap.size + 1 + 1; omega) (.int .i64 o.n)
      have d0 := c0.far (p := ⟨w.heap.size + 1 + 1, m, none⟩) (by show w.heap.size ≠ w.heap.size + 1 + 1; omega) (.int .i64 o.n)
      rw [ints_set, ← HS.out] at d2
      have e2 := hbW.setCell (p := ⟨w.heap.size + 1 + 1, m, none⟩) (by show w.heap.size ≤ w.heap.size + 1 + 1; omega) (.int .i64 o.n)
      obtain ⟨x, hx⟩ : ∃ x, zs[m] = x := ⟨_, rfl⟩
      rw [hx] at y0 hfit
      clear hx hl4 HS
      by_cases heq : x = o.o
      · have e0 : (x != o.o) = false := by rw [bne_eq_false_iff_eq]; exact heq
        have HN := hid (H.out.next hlt (hfit.2 heq))
        clear H hfit heq
        go_quiet (fail)
        go_wp2
        go_roundw
        case rel => exact ⟨k + 1, by omega, by go_num, HN, d2, d1, d0, (Wo.Below.drewN hbW _).setCell (p := ⟨w.heap.size + 1 + 1, m, none⟩) (by show w.heap.size ≤ w.heap.size + 1 + 1; omega) (.int .i64 o.n)⟩
        case measure => simp [intOf]; omega
      · have e0 : (x != o.o) = true := by rw [bne_iff_ne]; exact heq
        have F : Hid (b = false) := by
          show b = false
          rw [← Bool.not_eq_true]
          exact fun e => heq (hfit.1 (HB.out.1 e _ (List.getElem_mem hlt)))
        clear H hfit heq
        go_quiet (fail)
        have hl : (W.drewN nq).heap[w.heap.size]? = some (.cells (ints zs).toArray 61 (0, 0)) := c0
        have hs : (W.drewN nq).heap[w.heap.size + 1]? = some (.cells (ints [0, 0, 0, 0]).toArray 61 (0, 0)) := c1
        have hb9 := Wo.Below.drewN hbW nq
        go_wp2_with (first
          | (refine wpList_load_row rfl 61 _ rfl w.heap.size rfl 61 (ints zs).toArray (0, 0) _ hl Tryd.underlying61 rfl HSZ'.out ?_)
          | (refine wpList_store_rowTo rfl 61 _ _ rfl rfl (w.heap.size + 1) (ints zs).toArray rfl rfl 61 (ints [0, 0, 0, 0]).toArray hs HSZ'.out HSZ.out.symm (ints_ones _) ?_))
        have h2 : ((W.drewN nq).setRow (w.heap.size + 1) (ints zs).toArray).heap[w.heap.size + 1]? = some (.cells (ints zs).toArray 61 (0, 0)) := setRow_heap _ _ _ _ _ _ hs
        have hb2 := below_setRow hb9 (Nat.le_succ _) (ints zs).toArray
        rw [F.out]
        refine bodyPost_ret (v := .tuple #[.agg (ints zs).toArray, .bool false]) (results_cell_slot (p := 4) (s := 5) (by kernel_rfl) _ _ (w.heap.size + 1) 61 _ (0, 0) _ _ _ rfl rfl h2 Tryd.underlying61 HSZ'.out) rfl ⟨rfl, hb2⟩
    · have hk' : k = us.length := by omega
      subst hk'
      have F := hid (HB.out.2 H.out.all)
      rw [List.take_length] at a2
      clear H
      obtain ⟨ys, hys⟩ : ∃ ys, setR zs us = ys := ⟨_, rfl⟩
      have hyl : (ints ys).toArray.size = 4 := by rw [List.size_toArray, ints_length, ← hys, setR_length, H4.out]
      have hyl' : (Tryd.prog.info? 61).map (·.size) = some (ints ys).toArray.size := by rw [hyl]; exact info_refsJ
      have HYL := hid hyl
      have HYL' := hid hyl'
      have HY := hid hys
      rw [hys] at a2
      clear hyl hyl' hys
      have hl : wr.heap[w.heap.size + 1 + 1]? = some (.cells (ints ys).toArray 61 (0, 0)) := a2
      have hs : wr.heap[w.heap.size + 1]? = some (.cells (ints [0, 0, 0, 0]).toArray 61 (0, 0)) := a1
      go_wp2_with (first
        | (refine wpList_load_row rfl 61 _ rfl (w.heap.size + 1 + 1) rfl 61 (ints ys).toArray (0, 0) _ hl Tryd.underlying61 rfl HYL'.out ?_)
        | (refine wpList_store_rowTo rfl 61 _ _ rfl rfl (w.heap.size + 1) (ints ys).toArray rfl rfl 61 (ints [0, 0, 0, 0]).toArray hs HYL'.out HYL.out.symm (ints_ones _) ?_))
      have h2 : (wr.setRow (w.heap.size + 1) (ints ys).toArray).heap[w.heap.size + 1]? = some (.cells (ints ys).toArray 61 (0, 0)) := setRow_heap _ _ _ _ _ _ hs
      have hb2 := below_setRow hbr (Nat.le_succ _) (ints ys).toArray
      rw [F.out]
      refine bodyPost_ret (v := .tuple #[.agg (ints ys).toArray, .bool true]) (results_cell_slot (p := 4) (s := 5) (by kernel_rfl) _ _ (w.heap.size + 1) 61 _ (0, 0) _ _ _ rfl rfl h2 Tryd.underlying61 HYL'.out) rfl ⟨by rw [if_pos rfl, HY.out], hb2⟩

end Go.Proofs.YteeffchnbkkpfaaDoor
/-
  Walks: the program's five functions on refs and updates.
-/
namespace Go.Proofs.YteeffchnbkkpfaaDoor
open Go.RowKit Wo Pu Rf

theorem row_here {w : World} {B : Nat} {A : Option Addr} {vs : List Value} (h : Row w B A vs) : Row w w.heap.size A vs := by
  rcases h with h | ⟨ad, e, hb, hc⟩
  · exact .inl h
  · cases vs with
    | nil => exact .inl rfl
    | cons v vs =>
      refine .inr ⟨ad, e, ?_, hc⟩
      have := hc 0 v rfl
      rw [add_zero] at this
      exact block_lt_of_cell this
set_option maxRecDepth 100000 in
set_option maxHeartbeats 8000000 in
theorem implUpdatesValid_is (b : Bool) (A : Option Addr) (c : Nat) (us : List Up) (w : World) (hr : Row w w.heap.size A (upsV us)) (hm : us.length ≤ 1048600) (hb : b = true ↔ UV us) :
    Calls Tryd.prog 46 #[.slice A us.length c] w (Ret (.bool b) w) := by
  have HB := hid hb
  clear hb
  go_enter Tryd.func46, Tryd.ntmps46
  go_wp2_with fail
  go_loopw [3, 8] (fun l i wr => ∃ (k : Nat) (x : Int), k ≤ us.length ∧ i = .int .i64 k ∧ l = .int .i64 x ∧ Hid (lastR us k = x) ∧ Hid (UpTo us k) ∧ Below w.heap.size w wr) (fun _ i _ => us.length - (intOf i).toNat)
  case atStart => exact ⟨0, -1, Nat.zero_le _, rfl, rfl, lastR_zero us, .zero us, Below.refl _ _⟩
  case round =>
    obtain ⟨k, x, hk, rfl, rfl, L, H, hbr⟩ := hrel
    have hz := hbr.size
    by_cases hlt : k < us.length
    · obtain ⟨o, ad, ho, rfl, ha1, g0, g1, g2⟩ := ((hr.below hbr (Nat.le_refl _)).more hz).up_ hlt
      have k0 : (0 : Int) ≤ (k : Int) := by omega
      have k1 : (k : Int) < (us.length : Int) := by omega
      obtain ⟨bv, hbv⟩ := bool_of (Ok o)
      have CV : Hid (∀ y, Calls Tryd.prog 65 #[.agg #[.int .i64 o.r, .int .i64 o.o, .int .i64 o.n]] y (Ret (.bool bv) y)) := fun y => valid_is bv o y hbv
      have hok := okU_iff hlt
      rw [ho, L.out] at hok
      have LN : Hid (lastR us (k + 1) = o.r) := by
        show _ = _
        rw [lastR_next hlt, ho]
      have HO := hid hok
      have HV := hid hbv
      have hbW := hbr.alloc hz (.cells #[.int .i64 o.r, .int .i64 o.o, .int .i64 o.n] 39)
      have u1 := Blk.new_ wr 39 (.int .i64 o.r) (.int .i64 o.o) (.int .i64 o.n)
      clear hok hbv ho L
      go_wp2_with fail
      refine (CV.out _).mono ?_
      rintro e w1 ⟨rfl, hb1⟩
      have b1 := hbW.trans (hb1.mono hbW.size)
      have v1 := u1.below hb1 u1.lt
      obtain ⟨z0, -, -, -⟩ := id v1.reads
      clear hb1 hbW u1 CV
      cases bv with
      | false =>
        have F := hid (uv_no HB.out hlt (fun h => by have := HV.out.2 (HO.out.1 h).1; cases this))
        clear H HO HV LN
        go_wp2_with fail
        go_ret
        rw [F.out]
        exact .mk_ b1
      | true =>
        by_cases hx : x < o.r
        · have e0 : decide (o.r ≤ x) = false := decide_eq_false (by omega)
          have HN := hid (H.out.next hlt (HO.out.2 ⟨HV.out.1 rfl, hx⟩))
          clear H HO HV hx
          go_wp2
          go_roundw
          case rel => exact ⟨k + 1, o.r, by omega, by go_num, rfl, LN, HN, b1⟩
          case measure => simp [intOf]; omega
        · have e0 : decide (o.r ≤ x) = true := decide_eq_true (by omega)
          have F := hid (uv_no HB.out hlt (fun h => hx (HO.out.1 h).2))
          clear H HO HV LN hx
          go_wp2
          go_ret
          rw [F.out]
          exact .mk_ b1
    · have hk' : k = us.length := by omega
      subst hk'
      by_cases h0 : us.length = 0
      · have F := hid (uv_none HB.out h0)
        have e0 : decide (0 < (us.length : Int)) = false := decide_eq_false (by omega)
        have e1 : decide (0 < us.length) = false := decide_eq_false (by omega)
        clear h0 H
        go_wp2
        go_ret
        rw [F.out]
        exact .mk_ hbr
      · have F := hid (uv_yes HB.out H.out h0)
        have e0 : decide (0 < (us.length : Int)) = true := decide_eq_true (by omega)
        have e1 : decide (0 < us.length) = true := decide_eq_true (by omega)
        clear h0 H
        go_wp2
        go_ret
        rw [F.out]
        exact .mk_ hbr

set_option maxHeartbeats 2000000 in
theorem copyNumbers_of (A : Option Addr) (c n : Nat) (zs : List Int) (w : World) (hr : Row w w.heap.size A (ints zs)) (hn : zs.length = n) (hm : n ≤ 10) :
    Calls Tryd.prog 54 #[.slice A n c] w (IntsOf zs w) := by
  obtain ⟨i0, hi, hz0, hz1, hz2⟩ := info_of info_int
  have al := (Below.refl w.heap.size w).alloc (Nat.le_refl _) (.cells #[] 3)
  have HN := hid hn
  clear hn
  go_enter Tryd.func54, Tryd.ntmps54
  go_wp2_with (at_builtin; go_must (refine wpList_append_row _ rfl _ _ 33 rfl w.heap.size 3 i0 (.int .i64 0) 1 8 Tryd.underlying33 hi hz0 hz1 hz2 rfl (by decide) _ 0 [] rfl (nil_own (Nat.le_refl _) _ _) w.heap.size A n c (ints zs) rfl (hr.below al (Nat.le_refl _)) (by rw [ints_length, HN.out]; omega) (by intro u hu; obtain ⟨x, _, rfl⟩ := List.mem_map.1 hu; rfl) (by unfold maxLen; omega) (by omega) (by simp) ?_); intro v4 w4 hown hg)
  have b4 : Below w.heap.size w w4 := al.grown hg (by simp) (fun j hj => by injection hj with hj; exact Nat.le_of_eq hj)
  have ho0 : OwnI w4 w.heap.size v4 zs := by
    unfold OwnI
    rw [Nat.zero_add, List.nil_append] at hown
    rw [HN.out]
    exact hown
  obtain ⟨A5, c5, rfl, -, -⟩ := ho0.form
  go_wp2
  go_ret
  exact ⟨A5, c5, rfl, ho0, b4⟩

end Go.Proofs.YteeffchnbkkpfaaDoor
namespace Go.Proofs.YteeffchnbkkpfaaDoor
open Go.RowKit Wo Pu Rf

/-- A drawn transaction. -/
def TxnDrawn (R : Nat) (q : Int) (w : World) (e : Ending) (w' : World) : Prop := ∃ x : Int, e = .returned (.int .i64 x) ∧ -1 ≤ x ∧ x ≤ 12 ∧ Rd w' R (q + 2) ∧ But R w w'
set_option maxHeartbeats 4000000 in
theorem l92Txn_any (R : Nat) (q : Int) (w : World) (hR : Rd w R q) (hq : q ≤ 900000000) :
    Calls Tryd.prog 41 #[.pointer (some ⟨R, 0, none⟩)] w (TxnDrawn R q w) := by
  go_enter Tryd.func41, Tryd.ntmps41
  go_wp2_with fail
  refine (pick_any R q 24 w hR (by omega) (by omega) (by omega)).mono ?_
  rintro e w1 ⟨n1, rfl, a0, a1, hR1, hT1⟩
  by_cases h0 : n1 = 0
  · have e0 : (n1 == 0) = true := by rw [h0]; rfl
    clear h0
    go_wp2_with fail
    have hbA := (Below.refl w1.heap.size w1).alloc (Nat.le_refl _) (.cells #[.int .i64 (-1), .int .i64 11, .int .i64 12] 3)
    have hz := hR1.lt
    refine (pick_any R (q + 1) 3 _ (hR1.below hbA hz) (by omega) (by omega) (by omega)).mono ?_
    rintro e w2 ⟨n2, rfl, b0, b1, hR2, hT2⟩
    have bx : Box3 w2 w1.heap.size (.int .i64 (-1)) (.int .i64 11) (.int .i64 12) := hT2.box (Box3.new_ w1 _ _ _ _) (by omega)
    have hTT := (hT1.trans (.of_below hbA)).trans hT2
    obtain ⟨_, p0, p1, p2⟩ := bx
    have key : n2 = 0 ∨ n2 = 1 ∨ n2 = 2 := by omega
    rcases key with rfl | rfl | rfl
    · go_wp2
      go_ret
      exact ⟨_, rfl, by omega, by omega, hR2.more (by omega), hTT⟩
    · go_wp2
      go_ret
      exact ⟨_, rfl, by omega, by omega, hR2.more (by omega), hTT⟩
    · go_wp2
      go_ret
      exact ⟨_, rfl, by omega, by omega, hR2.more (by omega), hTT⟩
  · have e0 : (n1 == 0) = false := by rw [beq_eq_false_iff_ne]; omega
    go_wp2_with fail
    refine (pick_any R (q + 1) 5 _ hR1 (by omega) (by omega) (by omega)).mono ?_
    rintro e w2 ⟨n2, rfl, b0, b1, hR2, hT2⟩
    go_wp2
    go_ret
    exact ⟨_, rfl, by omega, by omega, hR2.more (by omega), hT1.trans hT2⟩
/-- Drawn locks. -/
def LocksDrawn (R : Nat) (q : Int) (w : World) (e : Ending) (w' : World) : Prop := ∃ v zs, e = .returned v ∧ OwnI w' w.heap.size v zs ∧ zs.length ≤ 4 ∧ Rd w' R (q + 12) ∧ But R w w'
end Go.Proofs.YteeffchnbkkpfaaDoor
namespace Go.Proofs.YteeffchnbkkpfaaDoor
open Go.RowKit Wo Pu Rf

/-- Drawn locks and a transaction. -/
def LockTxn (w : World) (e : Ending) (w' : World) : Prop := ∃ A c zs t, e = .returned (.tuple #[.slice A zs.length c, .int .i64 t]) ∧ Row w' w'.heap.size A (ints zs) ∧ zs.length ≤ 4 ∧ -1 ≤ t ∧ t ≤ 12 ∧ Below w.heap.size w w'
/-- Drawn locks, a transaction and updates. -/
def LockUps (w : World) (e : Ending) (w' : World) : Prop := ∃ A c zs t A2 c2 us, e = .returned (.tuple #[.slice A zs.length c, .int .i64 t, .slice A2 us.length c2]) ∧ Row w' w'.heap.size A (ints zs) ∧ zs.length ≤ 4 ∧ -1 ≤ t ∧ t ≤ 12 ∧ Row w' w'.heap.size A2 (upsV us) ∧ us.length ≤ 4 ∧ Below w.heap.size w w'
theorem row_four (w : World) (t : TypeId) : Row (w.alloc (.cells #[.int .i64 (-1), .int .i64 (-1), .int .i64 (-1), .int .i64 (-1)] t)) (w.alloc (.cells #[.int .i64 (-1), .int .i64 (-1), .int .i64 (-1), .int .i64 (-1)] t)).heap.size (some ⟨w.heap.size, 0, none⟩) (ints [-1, -1, -1, -1]) := by
  refine .inr ⟨_, rfl, by simp, fun j u hu => ?_⟩
  rw [add_lit]
  have e := heap_alloc_new w (.cells #[.int .i64 (-1), .int .i64 (-1), .int .i64 (-1), .int .i64 (-1)] t)
  simp only [World.cell?, e]
  match j with
  | 0 => simp [ints] at hu; subst hu; simp
  | 1 => simp [ints] at hu; subst hu; simp
  | 2 => simp [ints] at hu; subst hu; simp
  | 3 => simp [ints] at hu; subst hu; simp
  | j + 4 => simp [ints] at hu
end Go.Proofs.YteeffchnbkkpfaaDoor
namespace Go.Proofs.YteeffchnbkkpfaaDoor
open Go.RowKit Wo Pu Rf

theorem info_ra : (Tryd.prog.info? 61).map (·.size) = some 4 := by kernel_rfl
/-- The first k refs without an id. -/
def noneTo (k : Nat) : List Int := List.replicate k (-1) ++ List.replicate (4 - k) 0
theorem noneTo_length {k : Nat} (h : k ≤ 4) : (noneTo k).length = 4 := by simp [noneTo]; omega
theorem noneTo_set {k : Nat} (h : k < 4) : (noneTo k).set k (-1) = noneTo (k + 1) := by
  have key : k = 0 ∨ k = 1 ∨ k = 2 ∨ k = 3 := by omega
  rcases key with rfl | rfl | rfl | rfl <;> rfl
/-- Behind it: the array of four refs without ids. -/
def NewRefs (w : World) (e : Ending) (w' : World) : Prop := e = .returned (.agg (ints [-1, -1, -1, -1]).toArray) ∧ Below w.heap.size w w'
set_option maxRecDepth 100000 in
set_option maxHeartbeats 4000000 in
theorem newRefs_is (w : World) : Calls Tryd.prog 73 #[] w (NewRefs w) := by
  have a0 := Arr4.new_ w 61 (ints [0, 0, 0, 0])
  have a1 := Arr4.new_ (w.alloc (.cells (ints [0, 0, 0, 0]).toArray 61)) 61 (ints [0, 0, 0, 0])
  have al := Below.refl (w.alloc (.cells (ints [0, 0, 0, 0]).toArray 61)).heap.size (w.alloc (.cells (ints [0, 0, 0, 0]).toArray 61))
  have a01 := a0.below (al.alloc (Nat.le_refl _) (.cells (ints [0, 0, 0, 0]).toArray 61)) (by simp)
  have b1 := ((Below.refl w.heap.size w).alloc (Nat.le_refl _) (.cells (ints [0, 0, 0, 0]).toArray 61)).alloc (by simp) (.cells (ints [0, 0, 0, 0]).toArray 61)
  rw [World.size_alloc] at a1
  go_enter Tryd.func73, Tryd.ntmps73
  go_wp2_with fail
  go_loopw [2, 3] (fun _ i wr => ∃ k : Nat, k ≤ 4 ∧ i = .int .i64 k ∧ Arr4 wr (w.heap.size + 1) 61 (ints (noneTo k)) ∧ Arr4 wr w.heap.size 61 (ints [0, 0, 0, 0]) ∧ Below w.heap.size w wr) (fun _ i _ => 4 - (intOf i).toNat)
  case atStart => exact ⟨0, Nat.zero_le _, rfl, a1, a01, b1⟩
  case round =>
    clear a0 a1 al a01 b1
    obtain ⟨k, hk, rfl, a, a0, hb⟩ := hrel
    have hl := noneTo_length hk
    by_cases hlt : k < 4
    · have q0 : (0 : Int) ≤ (k : Int) := by omega
      have q1 : (k : Int) < 4 := by omega
      have y0 := a.read (i := k) (by rw [ints_length, hl]; exact hlt)
      have f0 := a.frozen k
      have a5 := a.set k (.int .i64 (-1))
      have e5 : (ints (noneTo k)).set k (.int .i64 (-1)) = ints (noneTo (k + 1)) := by rw [← noneTo_set hlt]; unfold ints; rw [List.map_set]
      rw [e5] at a5
      have a05 := a0.far (p := ⟨w.heap.size + 1, k, none⟩) (by show w.heap.size ≠ w.heap.size + 1; omega) (.int .i64 (-1))
      have b5 := hb.setCell (p := ⟨w.heap.size + 1, k, none⟩) (Nat.le_succ _) (.int .i64 (-1))
      clear a a0 hb e5
      go_wp2
      go_roundw
      case rel => exact ⟨k + 1, by omega, by go_num, a5, a05, b5⟩
      case measure => simp [intOf]; omega
    · have hk' : k = 4 := by omega
      subst hk'
      have h4 : wr.heap[w.heap.size + 1]? = some (.cells (ints (noneTo 4)).toArray 61 (0, 0)) := a
      have h0 : wr.heap[w.heap.size]? = some (.cells (ints [0, 0, 0, 0]).toArray 61 (0, 0)) := a0
      clear hl a a0
      go_wp2_with (first
        | (refine wpList_load_row rfl 61 _ rfl (w.heap.size + 1) rfl 61 (ints (noneTo 4)).toArray (0, 0) _ h4 Tryd.underlying61 rfl info_ra ?_)
        | (refine wpList_store_rowTo rfl 61 _ _ rfl rfl w.heap.size (ints (noneTo 4)).toArray rfl rfl 61 (ints [0, 0, 0, 0]).toArray h0 info_ra rfl (ints_ones _) ?_))
      have h2 : (wr.setRow w.heap.size (ints (noneTo 4)).toArray).heap[w.heap.size]? = some (.cells (ints (noneTo 4)).toArray 61 (0, 0)) := setRow_heap wr _ _ _ _ _ h0
      have b9 := below_setRow hb (Nat.le_refl _) (ints (noneTo 4)).toArray
      refine bodyPost_ret (v := .agg (ints (noneTo 4)).toArray) (results_cell_row (p := 0) (by kernel_rfl) _ _ w.heap.size 61 _ (0, 0) _ rfl h2 Tryd.underlying61 rfl info_ra) rfl ⟨rfl, b9⟩
end Go.Proofs.YteeffchnbkkpfaaDoor
