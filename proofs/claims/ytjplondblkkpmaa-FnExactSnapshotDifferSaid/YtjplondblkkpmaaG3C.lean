/-
  Walks: what the laws on refs draw.
  Walks: the laws' own helpers on updates: compared, turned round.
  Plain facts: arrays in memory; lists of refs that are being filled; which refs have been marked.
  The coordinator with the slices $SA and $SB is stored as the answer, with the word $BB.
  The coordinator with the slices $SA and $SB is stored as the answer, with the word $BB.
  Walk: the program's refs without ids, as an array.
  Walks: the program's updates of an array of refs; which refs are updated.
  Walks: the program's copies of transactions and coordinators.
-/
import Derived.Test.YtjplondblkkpmaaDrawU
import Derived.Test.YtjplondblkkpmaaG2C
import Derived.Laws.Rows
import Derived.Laws.Tables
import Derived.Laws.CopyOwn
import Derived.Great.BuildSlice
import Derived.Test.YtjplondblkkpmaaG0C
import Derived.Test.YtjplondblkkpmaaCooB
namespace Go.Proofs.Ytjplondblkkpmaa
open Go.RowKit Wo Pu Rf

/-- Drawn refs. -/
def RefsMade (w : World) (e : Ending) (w' : World) : Prop := ∃ A c zs, e = .returned (.slice A zs.length c) ∧ Row w' w'.heap.size A (ints zs) ∧ zs.length ≤ 4 ∧ zs.length ≤ c ∧ Below w.heap.size w w'
/-- Drawn updates. -/
def UpsMade (w : World) (e : Ending) (w' : World) : Prop := ∃ A c us, e = .returned (.slice A us.length c) ∧ Row w' w'.heap.size A (upsV us) ∧ us.length ≤ 4 ∧ us.length ≤ c ∧ Below w.heap.size w w'
/-- Drawn refs and updates. -/
def BothMade (w : World) (e : Ending) (w' : World) : Prop := ∃ A c zs A2 c2 us, e = .returned (.tuple #[.slice A zs.length c, .slice A2 us.length c2]) ∧ Row w' w'.heap.size A (ints zs) ∧ zs.length ≤ 4 ∧ Row w' w'.heap.size A2 (upsV us) ∧ us.length ≤ 4 ∧ Below w.heap.size w w'
/-- Two drawn lists of refs. -/
def TwoRefs (w : World) (e : Ending) (w' : World) : Prop := ∃ A c zs A2 c2 ys, e = .returned (.tuple #[.slice A zs.length c, .slice A2 ys.length c2]) ∧ Row w' w'.heap.size A (ints zs) ∧ zs.length ≤ 4 ∧ Row w' w'.heap.size A2 (ints ys) ∧ ys.length ≤ 4 ∧ Below w.heap.size w w'
/-- Two drawn lists of updates. -/
def TwoUps (w : World) (e : Ending) (w' : World) : Prop := ∃ A c us A2 c2 vs, e = .returned (.tuple #[.slice A us.length c, .slice A2 vs.length c2]) ∧ Row w' w'.heap.size A (upsV us) ∧ us.length ≤ 4 ∧ Row w' w'.heap.size A2 (upsV vs) ∧ vs.length ≤ 4 ∧ Below w.heap.size w w'
theorem OwnI.ne {w : World} {B R n c : Nat} {A : Option Addr} {zs : List Int} (h : OwnI w B (.slice A n c) zs) (hR : R < B) : ∀ ad, A = some ad → ad.block ≠ R := fun ad e => by
  subst e
  have := (World.ownsRow.lt h ad.block rfl).1
  omega
theorem OwnUps.row {w : World} {B c : Nat} {A : Option Addr} {n : Nat} {us : List Up} (h : OwnUps w B (.slice A n c) us) : Row w w.heap.size A (upsV us) := by
  obtain ⟨A', c', e, hr, _⟩ := h.form
  injection e with e1
  subst e1
  exact hr
theorem row_wide {w : World} {B B' : Nat} {A : Option Addr} {vs : List Value} (h : Row w B A vs) (hB : B ≤ B') : Row w B' A vs := by
  rcases h with rfl | ⟨ad, e, hb, hc⟩
  · exact .inl rfl
  · exact .inr ⟨ad, e, Nat.lt_of_lt_of_le hb hB, hc⟩
theorem OwnI.wide {w w' : World} {B c n : Nat} {A : Option Addr} {zs : List Int} (h : OwnI w B (.slice A n c) zs) (hb : Below w.heap.size w w') : Row w' w'.heap.size A (ints zs) := (h.below hb (Nat.le_refl _)).row
end Go.Proofs.Ytjplondblkkpmaa
namespace Go.Proofs.Ytjplondblkkpmaa
open Go.RowKit Wo Pu Rf

end Go.Proofs.Ytjplondblkkpmaa
namespace Go.Proofs.Ytjplondblkkpmaa
open Go.RowKit Wo Pu Rf

/-- Block g is an array of the values vs. -/
def Arr4 (w : World) (g : Nat) (t : TypeId) (vs : List Value) : Prop := w.heap[g]? = some (.cells vs.toArray t (0, 0))
section
variable {w w' : World} {g : Nat} {t : TypeId} {vs : List Value}
theorem Arr4.new_ (w : World) (t : TypeId) (vs : List Value) : Arr4 (w.alloc (.cells vs.toArray t)) w.heap.size t vs := heap_alloc_new w _
theorem Arr4.lt (h : Arr4 w g t vs) : g < w.heap.size := by
  rcases Nat.lt_or_ge g w.heap.size with h1 | h1
  · exact h1
  · unfold Arr4 at h; rw [Array.getElem?_eq_none h1] at h; cases h
theorem Arr4.read (h : Arr4 w g t vs) {i : Nat} (hi : i < vs.length) : w.cell? ⟨g, i, none⟩ = some vs[i] := by
  unfold Arr4 at h
  simp [World.cell?, h, hi]
theorem Arr4.frozen (h : Arr4 w g t vs) (o : Nat) : w.frozen? ⟨g, o, none⟩ = false := by
  unfold Arr4 at h
  simp [World.frozen?, h]
theorem Arr4.below {C : Nat} (h : Arr4 w g t vs) (hb : Below C w w') (hC : g < C) : Arr4 w' g t vs := (hb.block g hC).trans h
theorem Arr4.far (h : Arr4 w g t vs) {p : Addr} (hp : g ≠ p.block) (u : Value) : Arr4 (w.setCell p u) g t vs := (Below.heap_setCell w p u g hp).trans h
theorem Arr4.set (h : Arr4 w g t vs) (i : Nat) (u : Value) : Arr4 (w.setCell ⟨g, i, none⟩ u) g t (vs.set i u) := by
  unfold Arr4 at h ⊢
  simp [World.setCell, Array.getElem?_modify, h]
theorem Arr4.row (h : Arr4 w g t vs) : Row w w.heap.size (some ⟨g, 0, none⟩) vs := by
  refine .inr ⟨_, rfl, h.lt, fun j v hj => ?_⟩
  have e : (⟨g, 0, none⟩ : Addr).add j = ⟨g, j, none⟩ := by unfold Addr.add; split <;> simp_all
  rw [e]
  unfold Arr4 at h
  simp [World.cell?, h, hj]
end
/-- The first k are zs's, the others 0. -/
def pad (zs : List Int) (k : Nat) : List Int := zs.take k ++ List.replicate (4 - k) 0
theorem pad_zero (zs : List Int) : pad zs 0 = [0, 0, 0, 0] := by simp [pad, List.replicate]
theorem pad_all {zs : List Int} (h : zs.length = 4) : pad zs 4 = zs := by simp [pad, List.take_of_length_le, h]
theorem pad_length {zs : List Int} {k : Nat} (h : zs.length = 4) (hk : k ≤ 4) : (pad zs k).length = 4 := by simp [pad]; omega
theorem pad_set {zs : List Int} {k : Nat} (h : zs.length = 4) (hk : k < 4) : (pad zs k).set k (zs[k]'(by omega)) = pad zs (k + 1) := by
  apply List.ext_getElem?
  intro i
  unfold pad
  rw [List.getElem?_set, List.length_append, List.length_take, List.length_replicate]
  have hk' : k < zs.length := by omega
  by_cases e : k = i
  · subst e
    rw [if_pos rfl, if_pos (by omega), List.getElem?_append_left (by simp; omega), List.getElem?_take, if_pos (by omega), List.getElem?_eq_getElem hk']
  · rw [if_neg e]
    by_cases hi : i < k
    · rw [List.getElem?_append_left (by simp; omega), List.getElem?_append_left (by simp; omega), List.getElem?_take, List.getElem?_take, if_pos hi, if_pos (by omega)]
    · rw [List.getElem?_append_right (by simp; omega), List.getElem?_append_right (by simp; omega), List.length_take, List.length_take, List.getElem?_replicate, List.getElem?_replicate]
      by_cases h4 : i < 4
      · rw [if_pos (by omega), if_pos (by omega)]
      · rw [if_neg (by omega), if_neg (by omega)]
/-- Which refs the first k of us name. -/
def named (us : List Up) (k : Nat) (i : Nat) : Bool := (us.take k).any (fun u => u.r.toNat == i)
def nameds (us : List Up) (k : Nat) : List Value := [.bool (named us k 0), .bool (named us k 1), .bool (named us k 2), .bool (named us k 3)]
theorem named_zero (us : List Up) (i : Nat) : named us 0 i = false := by simp [named]
theorem nameds_zero (us : List Up) : nameds us 0 = [.bool false, .bool false, .bool false, .bool false] := by simp [nameds, named_zero]
theorem named_next {us : List Up} {k : Nat} (hk : k < us.length) (i : Nat) : named us (k + 1) i = (named us k i || us[k].r.toNat == i) := by
  unfold named
  rw [List.take_succ_eq_append_getElem hk, List.any_append]
  simp
theorem nameds_next {us : List Up} {k : Nat} (hk : k < us.length) {m : Nat} (hm : us[k].r = (m : Int)) (h4 : m < 4) : (nameds us k).set m (.bool true) = nameds us (k + 1) := by
  unfold nameds
  simp only [named_next hk, hm, Int.toNat_natCast]
  match m, h4 with
  | 0, _ => simp
  | 1, _ => simp
  | 2, _ => simp
  | 3, _ => simp
theorem nameds_get (us : List Up) (k : Nat) {m : Nat} (h4 : m < 4) : (nameds us k)[m]'(by simpa [nameds] using h4) = .bool (named us k m) := by
  unfold nameds
  match m, h4 with
  | 0, _ => rfl
  | 1, _ => rfl
  | 2, _ => rfl
  | 3, _ => rfl
theorem named_iff (us : List Up) (i : Nat) : named us us.length i = true ↔ ∃ u ∈ us, u.r.toNat = i := by
  unfold named
  rw [List.take_length, List.any_eq_true]
  simp
/-- None of the first k of b names a ref of a. -/
def Apart (a b : List Up) (k : Nat) : Prop := ∀ i (h : i < b.length), i < k → named a a.length b[i].r.toNat = false
theorem Apart.zero (a b : List Up) : Apart a b 0 := fun _ _ h => absurd h (Nat.not_lt_zero _)
theorem Apart.next {a b : List Up} {k : Nat} (h : Apart a b k) (hk : k < b.length) (e : named a a.length b[k].r.toNat = false) : Apart a b (k + 1) := fun i hi hl => by
  by_cases e2 : i = k
  · subst e2; exact e
  · exact h i hi (by omega)
theorem Apart.none {a b : List Up} (h : Apart a b b.length) : ¬ Cross a b := fun ⟨_, _, u, hu, v, hv, e⟩ => by
  obtain ⟨i, hi, rfl⟩ := List.getElem_of_mem hv
  have h1 := h i hi hi
  have h2 := (named_iff a b[i].r.toNat).2 ⟨u, hu, by rw [e]⟩
  rw [h1] at h2
  cases h2
theorem cross_named {a b : List Up} (ha : UV a) (hb : UV b) {k : Nat} (hk : k < b.length) (e : named a a.length b[k].r.toNat = true) : Cross a b := by
  obtain ⟨u, hu, h⟩ := (named_iff a _).1 e
  have h1 := (ha.2.mem u hu).2.1
  have h2 := (hb.2.mem _ (List.getElem_mem hk)).2.1
  exact ⟨ha, hb, u, hu, _, List.getElem_mem hk, by omega⟩
/-- The ref of the last of the first k; -1 if there is none. -/
def lastR (us : List Up) (k : Nat) : Int := if h : 0 < k ∧ k - 1 < us.length then (us[k - 1]'h.2).r else -1
theorem lastR_zero (us : List Up) : lastR us 0 = -1 := by unfold lastR; rw [dif_neg (by omega)]
theorem lastR_next {us : List Up} {k : Nat} (hk : k < us.length) : lastR us (k + 1) = us[k].r := by
  unfold lastR
  rw [dif_pos (by omega)]
  rfl
theorem okU_iff {us : List Up} {k : Nat} (hk : k < us.length) : OkU us k hk ↔ Ok us[k] ∧ lastR us k < us[k].r := by
  unfold OkU lastR
  refine and_congr_right fun h => ?_
  by_cases e : k = 0
  · subst e
    rw [dif_neg (by omega)]
    exact ⟨fun _ => by have := h.1.1; omega, fun _ => .inl rfl⟩
  · rw [dif_pos ⟨by omega, by omega⟩]
    exact ⟨fun h2 => by rcases h2 with h2 | ⟨_, h2⟩; exact absurd h2 e; exact h2, fun h2 => .inr ⟨by omega, h2⟩⟩
end Go.Proofs.Ytjplondblkkpmaa
/- Laws on coordinators: a coordinator is boxed. -/
/- On to the world behind D. -/
/- An exact law begins: the argument's box, its size, a copy for the model. -/
/- The program's own copy of the argument is boxed. -/
/- The program's copy is as the argument; the region draws. -/
/- Laws on functions that answer numbers. -/
/- What the boxes hold is read again. -/
/- The coordinator with the slices P4 and P5 is boxed as P6, in block P7, behind it the world P3; ahead of region P1. -/
/- The draw, the program's answer, the model's, and that they are the same: behind it w5, all facts on it by way of dx. -/
/-
  Walks: the program's ids, updates and arrays of refs.
-/
namespace Go.Proofs.Ytjplondblkkpmaa
open Go.RowKit Wo Pu Rf

theorem refIdValid_is (b : Bool) (n : Int) (w : World) (hb : b = true ↔ Val n) : Calls Try.prog 68 #[.int .i64 n] w (Same (.bool b) w) := by
  have HB := hid hb
  clear hb
  by_cases h0 : n = -1
  · have F := hid (HB.out.2 ⟨by omega, by omega⟩)
    have e0 : (n == -1) = true := by rw [beq_iff_eq]; exact h0
    clear h0
    go_enter Try.func68, Try.ntmps68
    go_wp2
    go_ret
    rw [F.out]
    exact ⟨rfl, rfl⟩
  · have e0 : (n == -1) = false := by rw [beq_eq_false_iff_ne]; exact h0
    by_cases h1 : 0 ≤ n
    · have e1 : decide (0 ≤ n) = true := decide_eq_true h1
      by_cases h2 : n < 991
      · have F := hid (HB.out.2 ⟨by omega, by omega⟩)
        have e2 : decide (n < 991) = true := decide_eq_true h2
        clear h0 h1 h2
        go_enter Try.func68, Try.ntmps68
        go_wp2
        go_ret
        rw [F.out]
        exact ⟨rfl, rfl⟩
      · have F : Hid (b = false) := by
          show b = false
          rw [← Bool.not_eq_true]
          exact fun e => by have := (HB.out.1 e).2; omega
        have e2 : decide (n < 991) = false := decide_eq_false h2
        clear h0 h1 h2
        go_enter Try.func68, Try.ntmps68
        go_wp2
        go_ret
        rw [F.out]
        exact ⟨rfl, rfl⟩
    · have F : Hid (b = false) := by
        show b = false
        rw [← Bool.not_eq_true]
        exact fun e => by have := (HB.out.1 e).1; omega
      have e1 : decide (0 ≤ n) = false := decide_eq_false h1
      clear h0 h1
      go_enter Try.func68, Try.ntmps68
      go_wp2
      go_ret
      rw [F.out]
      exact ⟨rfl, rfl⟩

/-! ### Arrays of refs. -/
theorem info_refs : (Try.prog.info? 61).map (·.size) = some 4 := by kernel_rfl
theorem ints_ones (zs : List Int) : (ints zs).toArray.all (·.oneCell') = true := by
  rw [Array.all_eq_true]
  intro i hi
  simp [ints, Value.oneCell']
theorem results_cell_slot {fn : Func} {p s : Tmp} {ty : TypeId} (h : fn.results = #[.cell p ty, .tmp s]) (tmps : Array Value) (w : World) (g : Nat) (t : TypeId) (cs : Array Value) (fr : Nat × Nat) (n : Nat) (el : TypeId) (v : Value)
    (hp : tmps.getD p undef = .pointer (some ⟨g, 0, none⟩)) (hs : tmps.getD s undef = v) (hg : w.heap[g]? = some (.cells cs t fr))
    (hu : Try.prog.underlying ty = some (.array n el)) (hi : (Try.prog.info? ty).map (·.size) = some cs.size) :
    (results fn tmps).run Try.prog w = .ok (.tuple #[.agg cs, v]) w := by
  have hp' : tmps[p]?.getD undef = .pointer (some ⟨g, 0, none⟩) := by simpa using hp
  have hs' : tmps[s]?.getD undef = v := by simpa using hs
  simp [results, h, hp', hs', asAddr, run_loadVar_row w g t ty cs fr _ hg hu rfl hi]

/-- What readRefs answers: the refs as an array, and whether they are valid. -/
def ReadR (b : Bool) (zs : List Int) (w : World) (e : Ending) (w' : World) : Prop := e = .returned (.tuple #[.agg (ints (if b then zs else [0, 0, 0, 0])).toArray, .bool b]) ∧ Below w.heap.size w w'
set_option maxRecDepth 100000 in
set_option maxHeartbeats 4000000 in
theorem readRefs_is (b : Bool) (A : Option Addr) (c : Nat) (zs : List Int) (w : World) (B : Nat) (hr : Row w B A (ints zs)) (hB : B ≤ w.heap.size) (hb : b = true ↔ RV zs) :
    Calls Try.prog 42 #[.slice A zs.length c] w (ReadR b zs w) := by
  have HB := hid hb
  clear hb
  have al := (Below.refl w.heap.size w).alloc (Nat.le_refl _) (.cells #[.int .i64 0, .int .i64 0, .int .i64 0, .int .i64 0] 61)
  by_cases h4 : zs.length = 4
  · have H4 := hid h4
    have e0 : ((zs.length : Int) != 4) = false := by rw [bne_eq_false_iff_eq]; omega
    clear h4
    go_enter Try.func42, Try.ntmps42
    go_wp2_with fail
    have a1 := Arr4.new_ (w.alloc (.cells #[.int .i64 0, .int .i64 0, .int .i64 0, .int .i64 0] 61)) 61 (ints [0, 0, 0, 0])
    have a0 := (Arr4.new_ w 61 (ints [0, 0, 0, 0])).below ((Below.refl _ _).alloc (Nat.le_refl _) (.cells #[.int .i64 0, .int .i64 0, .int .i64 0, .int .i64 0] 61)) (by simp)
    have al2 := al.alloc al.size (.cells #[.int .i64 0, .int .i64 0, .int .i64 0, .int .i64 0] 61)
    rw [World.size_alloc] at a1
    go_loopw [13] (fun i wr => ∃ k : Nat, k ≤ 4 ∧ i = .int .i64 k ∧ Hid (ValTo zs k) ∧ Arr4 wr (w.heap.size + 1) 61 (ints (pad zs k)) ∧ Arr4 wr w.heap.size 61 (ints [0, 0, 0, 0]) ∧ Below w.heap.size w wr) (fun i _ => 4 - (intOf i).toNat)
    case atStart => exact ⟨0, Nat.zero_le _, rfl, .zero zs, by rw [pad_zero]; exact a1, a0, al2⟩
    case round =>
      obtain ⟨k, hk, rfl, H, ha, h0, hbr⟩ := hrel
      clear a1 a0 al2 al
      by_cases hlt : k < 4
      · have hltz : k < zs.length := by rw [H4.out]; exact hlt
        obtain ⟨ad, rfl, hbl, hc⟩ := ((hr.more hB).below hbr (Nat.le_refl _)).int_ hltz
        have q0 : (0 : Int) ≤ (k : Int) := by omega
        have q1 : (k : Int) < 4 := by omega
        have q2 : (k : Int) < (zs.length : Int) := by omega
        by_cases hv : Val zs[k]
        · have CV : Hid (∀ x, Calls Try.prog 68 #[.int .i64 zs[k]] x (Same (.bool true) x)) := fun x => refIdValid_is true _ x (by simp [hv])
          have HN := hid (H.out.next hltz hv)
          have hl4 := pad_length H4.out hk
          have y0 := ha.read (i := k) (by rw [ints_length]; omega)
          have f0 := ha.frozen k
          have ha2 := ha.set k (.int .i64 zs[k])
          rw [ints_set, pad_set H4.out hlt] at ha2
          have h02 := h0.far (p := ⟨w.heap.size + 1, k, none⟩) (by show w.heap.size ≠ w.heap.size + 1; omega) (.int .i64 zs[k])
          have hb2 := hbr.setCell (p := ⟨w.heap.size + 1, k, none⟩) (Nat.le_succ _) (.int .i64 zs[k])
          clear H hv ha h0
          go_wp2_with (go_at_call 68; refine (CV.out _).mono ?_; rintro e w' ⟨rfl, rfl⟩)
          go_roundw
          case rel => exact ⟨k + 1, by omega, by go_num, HN, ha2, h02, hb2⟩
          case measure => simp [intOf]; omega
        · have CV : Hid (∀ x, Calls Try.prog 68 #[.int .i64 zs[k]] x (Same (.bool false) x)) := fun x => refIdValid_is false _ x (by simp [hv])
          have F : Hid (b = false) := by
            show b = false
            rw [← Bool.not_eq_true]
            exact fun e => hv ((HB.out.1 e).2 _ (List.getElem_mem hltz))
          clear H hv ha
          have h0' : wr.heap[w.heap.size]? = some (.cells (ints [0, 0, 0, 0]).toArray 61 (0, 0)) := h0
          go_wp2_with (first
            | (go_at_call 68; refine (CV.out _).mono ?_; rintro e w' ⟨rfl, rfl⟩)
            | (refine wpList_store_rowTo rfl 61 _ _ rfl rfl w.heap.size (ints [0, 0, 0, 0]).toArray rfl rfl 61 _ h0' info_refs rfl (ints_ones _) ?_))
          have h2 : (wr.setRow w.heap.size (ints [0, 0, 0, 0]).toArray).heap[w.heap.size]? = some (.cells (ints [0, 0, 0, 0]).toArray 61 (0, 0)) := setRow_heap wr _ _ _ _ _ h0'
          have hb2 := below_setRow hbr (Nat.le_refl _) (ints [0, 0, 0, 0]).toArray
          rw [F.out]
          refine bodyPost_ret (v := .tuple #[.agg (ints [0, 0, 0, 0]).toArray, .bool false]) (results_cell_slot (p := 2) (s := 3) (by kernel_rfl) _ _ w.heap.size 61 _ (0, 0) _ _ _ rfl rfl h2 Try.underlying61 info_refs) rfl ⟨rfl, hb2⟩
      · have hk' : k = 4 := by omega
        have F := hid (HB.out.2 ⟨H4.out, by have := H.out; rw [hk', ← H4.out] at this; exact this.all⟩)
        rw [hk', pad_all H4.out] at ha
        have e1 : decide ((k : Int) < (zs.length : Int)) = false := decide_eq_false (by rw [H4.out]; omega)
        have e2 : decide (k < zs.length) = false := decide_eq_false (by rw [H4.out]; omega)
        clear H hk' hlt hk
        have ha' : wr.heap[w.heap.size + 1]? = some (.cells (ints zs).toArray 61 (0, 0)) := ha
        have h0' : wr.heap[w.heap.size]? = some (.cells (ints [0, 0, 0, 0]).toArray 61 (0, 0)) := h0
        have hsz : (ints zs).toArray.size = 4 := by rw [List.size_toArray, ints_length, H4.out]
        have hsz' : (Try.prog.info? 61).map (·.size) = some (ints zs).toArray.size := by rw [hsz]; exact info_refs
        have HSZ := hid hsz
        have HSZ' := hid hsz'
        clear hsz hsz'
        go_wp2_with (first
          | (refine wpList_load_row rfl 61 _ rfl (w.heap.size + 1) rfl 61 (ints zs).toArray (0, 0) _ ha' Try.underlying61 rfl HSZ'.out ?_)
          | (refine wpList_store_rowTo rfl 61 _ _ rfl rfl w.heap.size (ints zs).toArray rfl rfl 61 (ints [0, 0, 0, 0]).toArray h0' HSZ'.out HSZ.out.symm (ints_ones _) ?_))
        have h2 : (wr.setRow w.heap.size (ints zs).toArray).heap[w.heap.size]? = some (.cells (ints zs).toArray 61 (0, 0)) := setRow_heap wr _ _ _ _ _ h0'
        have hb2 := below_setRow hbr (Nat.le_refl _) (ints zs).toArray
        rw [F.out]
        refine bodyPost_ret (v := .tuple #[.agg (ints zs).toArray, .bool true]) (results_cell_slot (p := 2) (s := 3) (by kernel_rfl) _ _ w.heap.size 61 _ (0, 0) _ _ _ rfl rfl h2 Try.underlying61 HSZ'.out) rfl ⟨rfl, hb2⟩
  · have F : Hid (b = false) := by
      show b = false
      rw [← Bool.not_eq_true]
      exact fun e => h4 (HB.out.1 e).1
    have e0 : ((zs.length : Int) != 4) = true := by rw [bne_iff_ne]; omega
    clear h4
    go_enter Try.func42, Try.ntmps42
    go_wp2_with fail
    rw [F.out]
    refine bodyPost_ret (v := .tuple #[.agg (ints [0, 0, 0, 0]).toArray, .bool false]) (results_cell_slot (p := 2) (s := 3) (by kernel_rfl) _ _ w.heap.size 61 _ (0, 0) _ _ _ rfl rfl (heap_alloc_new _ _) Try.underlying61 info_refs) rfl ⟨rfl, al⟩

/-! ### Updates. -/
set_option maxHeartbeats 2000000 in
theorem valid_is (b : Bool) (u : Up) (w : World) (hb : b = true ↔ Ok u) : Calls Try.prog 100 #[upA u] w (Ret (.bool b) w) := by
  obtain ⟨bo, hbo⟩ := bool_of (Val u.o)
  obtain ⟨bn, hbn⟩ := bool_of (Val u.n)
  obtain ⟨b0, hb0⟩ := bool_of (0 ≤ u.r)
  obtain ⟨b1, hb1⟩ := bool_of (u.r < 4)
  obtain ⟨bd, hbd⟩ := bool_of (u.o ≠ u.n)
  have F : Hid (b = (b0 && b1 && bo && bn && bd)) := by
    show b = _
    rw [Bool.eq_iff_iff, hb]
    simp only [Bool.and_eq_true, hbo, hbn, hb0, hb1, hbd]
    unfold Ok
    constructor
    · rintro ⟨⟨h1, h2⟩, h3, h4, h5⟩; exact ⟨⟨⟨⟨h1, by omega⟩, h3⟩, h4⟩, h5⟩
    · rintro ⟨⟨⟨⟨h1, h2⟩, h3⟩, h4⟩, h5⟩; exact ⟨⟨h1, by omega⟩, h3, h4, h5⟩
  have CO : Hid (∀ x, Calls Try.prog 68 #[.int .i64 u.o] x (Same (.bool bo) x)) := fun x => refIdValid_is bo _ x hbo
  have CN : Hid (∀ x, Calls Try.prog 68 #[.int .i64 u.n] x (Same (.bool bn) x)) := fun x => refIdValid_is bn _ x hbn
  have e0 : decide (0 ≤ u.r) = b0 := by rw [Bool.eq_iff_iff, decide_eq_true_iff, hb0]
  have e1 : decide (u.r < 4) = b1 := by rw [Bool.eq_iff_iff, decide_eq_true_iff, hb1]
  have e2 : (u.o != u.n) = bd := by rw [Bool.eq_iff_iff, bne_iff_ne, hbd]
  have al := (Below.refl w.heap.size w).alloc (Nat.le_refl _) (.cells #[.int .i64 u.r, .int .i64 u.o, .int .i64 u.n] 38)
  clear hb hbo hbn hb0 hb1 hbd
  unfold upA
  cases b0 with
  | false =>
    go_enter Try.func100, Try.ntmps100
    go_wp2_with fail
    go_ret
    rw [F.out]
    exact .mk_ al
  | true =>
    cases b1 with
    | false =>
      go_enter Try.func100, Try.ntmps100
      go_wp2_with fail
      go_ret
      rw [F.out]
      exact .mk_ al
    | true =>
      cases bo with
      | false =>
        go_enter Try.func100, Try.ntmps100
        go_wp2_with fail
        refine (CO.out _).mono ?_
        rintro e w' ⟨rfl, rfl⟩
        go_wp2_with fail
        go_ret
        rw [F.out]
        exact .mk_ al
      | true =>
        cases bn with
        | false =>
          go_enter Try.func100, Try.ntmps100
          go_wp2_with fail
          refine (CO.out _).mono ?_
          rintro e w' ⟨rfl, rfl⟩
          go_wp2_with fail
          refine (CN.out _).mono ?_
          rintro e w' ⟨rfl, rfl⟩
          go_wp2_with fail
          go_ret
          rw [F.out]
          exact .mk_ al
        | true =>
          go_enter Try.func100, Try.ntmps100
          go_wp2_with fail
          refine (CO.out _).mono ?_
          rintro e w' ⟨rfl, rfl⟩
          go_wp2_with fail
          refine (CN.out _).mono ?_
          rintro e w' ⟨rfl, rfl⟩
          go_wp2_with fail
          go_ret
          rw [F.out]
          exact .mk_ al
end Go.Proofs.Ytjplondblkkpmaa
/- Laws on coordinators: a coordinator is boxed. -/
/- On to the world behind D. -/
/- An exact law begins: the argument's box, its size, a copy for the model. -/
/- The program's own copy of the argument is boxed. -/
/- The program's copy is as the argument; the region draws. -/
/- Laws on functions that answer numbers. -/
/- What the boxes hold is read again. -/
/- The coordinator with the slices P4 and P5 is boxed as P6, in block P7, behind it the world P3; ahead of region P1. -/
/- The draw, the program's answer, the model's, and that they are the same: behind it w5, all facts on it by way of dx. -/
/-
  Walk: which updates are valid, by the program, where the seat has no more of the refs.
-/
namespace Go.Proofs.Ytjplondblkkpmaa
open Go.RowKit Wo Pu Rf

theorem row_here {w : World} {B : Nat} {A : Option Addr} {vs : List Value} (h : Row w B A vs) : Row w w.heap.size A vs := by
  rcases h with h | ⟨ad, e, hb, hc⟩
  · exact .inl h
  · cases vs with
    | nil => exact .inl rfl
    | cons v vs =>
      refine .inr ⟨ad, e, ?_, hc⟩
      have := hc 0 v rfl
      rw [add_zero] at this
      exact block_lt_of_cell this
set_option maxRecDepth 100000 in
set_option maxHeartbeats 8000000 in
theorem implUpdatesValid_is (b : Bool) (A : Option Addr) (c : Nat) (us : List Up) (w : World) (hr : Row w w.heap.size A (upsV us)) (hm : us.length ≤ 1048600) (hb : b = true ↔ UV us) :
    Calls Try.prog 96 #[.slice A us.length c] w (Ret (.bool b) w) := by
  have HB := hid hb
  clear hb
  go_enter Try.func96, Try.ntmps96
  go_wp2_with fail
  go_loopw [3, 8] (fun l i wr => ∃ (k : Nat) (x : Int), k ≤ us.length ∧ i = .int .i64 k ∧ l = .int .i64 x ∧ Hid (lastR us k = x) ∧ Hid (UpTo us k) ∧ Below w.heap.size w wr) (fun _ i _ => us.length - (intOf i).toNat)
  case atStart => exact ⟨0, -1, Nat.zero_le _, rfl, rfl, lastR_zero us, .zero us, Below.refl _ _⟩
  case round =>
    obtain ⟨k, x, hk, rfl, rfl, L, H, hbr⟩ := hrel
    have hz := hbr.size
    by_cases hlt : k < us.length
    · obtain ⟨o, ad, ho, rfl, ha1, g0, g1, g2⟩ := ((hr.below hbr (Nat.le_refl _)).more hz).up_ hlt
      have k0 : (0 : Int) ≤ (k : Int) := by omega
      have k1 : (k : Int) < (us.length : Int) := by omega
      obtain ⟨bv, hbv⟩ := bool_of (Ok o)
      have CV : Hid (∀ y, Calls Try.prog 100 #[.agg #[.int .i64 o.r, .int .i64 o.o, .int .i64 o.n]] y (Ret (.bool bv) y)) := fun y => valid_is bv o y hbv
      have hok := okU_iff hlt
      rw [ho, L.out] at hok
      have LN : Hid (lastR us (k + 1) = o.r) := by
        show _ = _
        rw [lastR_next hlt, ho]
      have HO := hid hok
      have HV := hid hbv
      have hbW := hbr.alloc hz (.cells #[.int .i64 o.r, .int .i64 o.o, .int .i64 o.n] 38)
      have u1 := Blk.new_ wr 38 (.int .i64 o.r) (.int .i64 o.o) (.int .i64 o.n)
      clear hok hbv ho L
      go_wp2_with fail
      refine (CV.out _).mono ?_
      rintro e w1 ⟨rfl, hb1⟩
      have b1 := hbW.trans (hb1.mono hbW.size)
      have v1 := u1.below hb1 u1.lt
      obtain ⟨z0, -, -, -⟩ := id v1.reads
      clear hb1 hbW u1 CV
      cases bv with
      | false =>
        have F := hid (uv_no HB.out hlt (fun h => by have := HV.out.2 (HO.out.1 h).1; cases this))
        clear H HO HV LN
        go_wp2_with fail
        go_ret
        rw [F.out]
        exact .mk_ b1
      | true =>
        by_cases hx : x < o.r
        · have e0 : decide (o.r ≤ x) = false := decide_eq_false (by omega)
          have HN := hid (H.out.next hlt (HO.out.2 ⟨HV.out.1 rfl, hx⟩))
          clear H HO HV hx
          go_wp2
          go_roundw
          case rel => exact ⟨k + 1, o.r, by omega, by go_num, rfl, LN, HN, b1⟩
          case measure => simp [intOf]; omega
        · have e0 : decide (o.r ≤ x) = true := decide_eq_true (by omega)
          have F := hid (uv_no HB.out hlt (fun h => hx (HO.out.1 h).2))
          clear H HO HV LN hx
          go_wp2
          go_ret
          rw [F.out]
          exact .mk_ b1
    · have hk' : k = us.length := by omega
      subst hk'
      by_cases h0 : us.length = 0
      · have F := hid (uv_none HB.out h0)
        have e0 : decide (0 < (us.length : Int)) = false := decide_eq_false (by omega)
        have e1 : decide (0 < us.length) = false := decide_eq_false (by omega)
        clear h0 H
        go_wp2
        go_ret
        rw [F.out]
        exact .mk_ hbr
      · have F := hid (uv_yes HB.out H.out h0)
        have e0 : decide (0 < (us.length : Int)) = true := decide_eq_true (by omega)
        have e1 : decide (0 < us.length) = true := decide_eq_true (by omega)
        clear h0 H
        go_wp2
        go_ret
        rw [F.out]
        exact .mk_ hbr

set_option maxHeartbeats 2000000 in
theorem copyNumbers_of (A : Option Addr) (c n : Nat) (zs : List Int) (w : World) (hr : Row w w.heap.size A (ints zs)) (hn : zs.length = n) (hm : n ≤ 1048576) :
    Calls Try.prog 39 #[.slice A n c] w (IntsOf zs w) := by
  obtain ⟨i0, hi, hz0, hz1, hz2⟩ := info_of info_int
  have al := (Below.refl w.heap.size w).alloc (Nat.le_refl _) (.cells #[] 3)
  have HN := hid hn
  clear hn
  go_enter Try.func39, Try.ntmps39
  go_wp2_with (at_builtin; go_must (refine wpList_append_row _ rfl _ _ 24 rfl w.heap.size 3 i0 (.int .i64 0) 1 8 Try.underlying24 hi hz0 hz1 hz2 rfl (by decide) _ 0 [] rfl (nil_own (Nat.le_refl _) _ _) w.heap.size A n c (ints zs) rfl (hr.below al (Nat.le_refl _)) (by rw [ints_length, HN.out]; omega) (by intro u hu; obtain ⟨x, _, rfl⟩ := List.mem_map.1 hu; rfl) (by unfold maxLen; omega) (by omega) (by simp) ?_); intro v4 w4 hown hg)
  have b4 : Below w.heap.size w w4 := al.grown hg (by simp) (fun j hj => by injection hj with hj; exact Nat.le_of_eq hj)
  have ho0 : OwnI w4 w.heap.size v4 zs := by
    unfold OwnI
    rw [Nat.zero_add, List.nil_append] at hown
    rw [HN.out]
    exact hown
  obtain ⟨A5, c5, rfl, -, -⟩ := ho0.form
  go_wp2
  go_ret
  exact ⟨A5, c5, rfl, ho0, b4⟩
end Go.Proofs.Ytjplondblkkpmaa
namespace Go.Proofs.Ytjplondblkkpmaa
open Go.RowKit Wo Pu Rf

set_option linter.unusedVariables false in
set_option linter.unusedSimpArgs false in
theorem info_ra : (Try.prog.info? 61).map (·.size) = some 4 := by kernel_rfl
set_option linter.unusedVariables false in
/-- The first k refs without an id. -/
def noneTo (k : Nat) : List Int := List.replicate k (-1) ++ List.replicate (4 - k) 0
set_option linter.unusedVariables false in
set_option linter.unusedSimpArgs false in
theorem noneTo_length {k : Nat} (h : k ≤ 4) : (noneTo k).length = 4 := by simp [noneTo]; omega
set_option linter.unusedVariables false in
set_option linter.unusedSimpArgs false in
theorem noneTo_set {k : Nat} (h : k < 4) : (noneTo k).set k (-1) = noneTo (k + 1) := by
  have key : k = 0 ∨ k = 1 ∨ k = 2 ∨ k = 3 := by omega
  rcases key with rfl | rfl | rfl | rfl <;> rfl
set_option linter.unusedVariables false in
/-- Behind it: the array of four refs without ids. -/
def NewRefs (w : World) (e : Ending) (w' : World) : Prop := e = .returned (.agg (ints [-1, -1, -1, -1]).toArray) ∧ Below w.heap.size w w'
set_option linter.unusedVariables false in
set_option linter.unusedSimpArgs false in
set_option maxRecDepth 100000 in
set_option maxHeartbeats 4000000 in
theorem newRefs_is (w : World) : Calls Try.prog 62 #[] w (NewRefs w) := by
  have a0 := Arr4.new_ w 61 (ints [0, 0, 0, 0])
  have a1 := Arr4.new_ (w.alloc (.cells (ints [0, 0, 0, 0]).toArray 61)) 61 (ints [0, 0, 0, 0])
  have al := Below.refl (w.alloc (.cells (ints [0, 0, 0, 0]).toArray 61)).heap.size (w.alloc (.cells (ints [0, 0, 0, 0]).toArray 61))
  have a01 := a0.below (al.alloc (Nat.le_refl _) (.cells (ints [0, 0, 0, 0]).toArray 61)) (by simp)
  have b1 := ((Below.refl w.heap.size w).alloc (Nat.le_refl _) (.cells (ints [0, 0, 0, 0]).toArray 61)).alloc (by simp) (.cells (ints [0, 0, 0, 0]).toArray 61)
  rw [World.size_alloc] at a1
  go_enter Try.func62, Try.ntmps62
  go_wp2_with fail
  go_loopw [2, 3] (fun _ i wr => ∃ k : Nat, k ≤ 4 ∧ i = .int .i64 k ∧ Arr4 wr (w.heap.size + 1) 61 (ints (noneTo k)) ∧ Arr4 wr w.heap.size 61 (ints [0, 0, 0, 0]) ∧ Below w.heap.size w wr) (fun _ i _ => 4 - (intOf i).toNat)
  case atStart => exact ⟨0, Nat.zero_le _, rfl, a1, a01, b1⟩
  case round =>
    clear a0 a1 al a01 b1
    obtain ⟨k, hk, rfl, a, a0, hb⟩ := hrel
    have hl := noneTo_length hk
    by_cases hlt : k < 4
    · have q0 : (0 : Int) ≤ (k : Int) := by omega
      have q1 : (k : Int) < 4 := by omega
      have y0 := a.read (i := k) (by rw [ints_length, hl]; exact hlt)
      have f0 := a.frozen k
      have a5 := a.set k (.int .i64 (-1))
      have e5 : (ints (noneTo k)).set k (.int .i64 (-1)) = ints (noneTo (k + 1)) := by rw [← noneTo_set hlt]; unfold ints; rw [List.map_set]
      rw [e5] at a5
      have a05 := a0.far (p := ⟨w.heap.size + 1, k, none⟩) (by show w.heap.size ≠ w.heap.size + 1; omega) (.int .i64 (-1))
      have b5 := hb.setCell (p := ⟨w.heap.size + 1, k, none⟩) (Nat.le_succ _) (.int .i64 (-1))
      clear a a0 hb e5
      go_wp2
      go_roundw
      case rel => exact ⟨k + 1, by omega, by go_num, a5, a05, b5⟩
      case measure => simp [intOf]; omega
    · have hk' : k = 4 := by omega
      subst hk'
      have h4 : wr.heap[w.heap.size + 1]? = some (.cells (ints (noneTo 4)).toArray 61 (0, 0)) := a
      have h0 : wr.heap[w.heap.size]? = some (.cells (ints [0, 0, 0, 0]).toArray 61 (0, 0)) := a0
      clear hl a a0
      go_wp2_with (first
        | (refine wpList_load_row rfl 61 _ rfl (w.heap.size + 1) rfl 61 (ints (noneTo 4)).toArray (0, 0) _ h4 Try.underlying61 rfl info_ra ?_)
        | (refine wpList_store_rowTo rfl 61 _ _ rfl rfl w.heap.size (ints (noneTo 4)).toArray rfl rfl 61 (ints [0, 0, 0, 0]).toArray h0 info_ra rfl (ints_ones _) ?_))
      have h2 : (wr.setRow w.heap.size (ints (noneTo 4)).toArray).heap[w.heap.size]? = some (.cells (ints (noneTo 4)).toArray 61 (0, 0)) := setRow_heap wr _ _ _ _ _ h0
      have b9 := below_setRow hb (Nat.le_refl _) (ints (noneTo 4)).toArray
      refine bodyPost_ret (v := .agg (ints (noneTo 4)).toArray) (results_cell_row (p := 0) (by kernel_rfl) _ _ w.heap.size 61 _ (0, 0) _ rfl h2 Try.underlying61 rfl info_ra) rfl ⟨rfl, b9⟩
end Go.Proofs.Ytjplondblkkpmaa
namespace Go.Proofs.Ytjplondblkkpmaa
open Go.RowKit Wo Pu Rf

/-- What updated answers. -/
def Updt (b : Bool) (zs : List Int) (us : List Up) (w : World) (e : Ending) (w' : World) : Prop := e = .returned (.tuple #[.agg (ints (if b then setR zs us else zs)).toArray, .bool b]) ∧ Below w.heap.size w w'
theorem Arr4.setRow {w : World} {g : Nat} {t : TypeId} {vs : List Value} (h : Arr4 w g t vs) (cs : List Value) : Arr4 (w.setRow g cs.toArray) g t cs := setRow_heap w g _ _ t _ h
theorem Arr4.farRow {w : World} {g g' : Nat} {t : TypeId} {vs : List Value} (h : Arr4 w g t vs) (hg : g ≠ g') (cs : Array Value) : Arr4 (w.setRow g' cs) g t vs := (setRow_other w g' g cs hg).trans h
theorem Arr4.alloc {w : World} {g : Nat} {t : TypeId} {vs : List Value} (h : Arr4 w g t vs) (o : Obj) : Arr4 (w.alloc o) g t vs := (heap_alloc_old w o h.lt).trans h
end Go.Proofs.Ytjplondblkkpmaa
namespace Go.Proofs.Ytjplondblkkpmaa
open Go.RowKit Wo Pu Rf Co


set_option linter.unusedVariables false in
/-- What the loop over transactions holds: the argument's box, the result's; the copies out in a slice of the call's own. -/
def CpD (w : World) (A : Option Addr) (n c : Nat) (A2 : Option Addr) (n2 c2 : Nat) (col : Nat → Nat) (Ao : Option Addr) (co : Nat) (out : List Tx) (wr : World) : Prop :=
  Blk2s wr w.heap.size 26 (.slice A n c) (.slice A2 n2 c2) ∧ Blk2s wr (w.heap.size + 1) 26 (.slice none 0 0) (.slice none 0 0) ∧ OwnTxs col wr w.heap.size (.slice Ao out.length co) out ∧ Below w.heap.size w wr
section
variable {w wr w4 : World} {A A2 Ao : Option Addr} {n c n2 c2 co : Nat} {col : Nat → Nat} {a' b' : Value} {out : List Tx}
set_option linter.unusedVariables false in
set_option linter.unusedSimpArgs false in
theorem CpD.later (h : CpD w A n c A2 n2 c2 col Ao co out wr) (hb : Below wr.heap.size wr w4) : CpD w A n c A2 n2 c2 col Ao co out w4 := by
  obtain ⟨h1, h2, h5, h6⟩ := h
  exact ⟨h1.later hb, h2.later hb, h5.below hb, h6.trans (hb.mono h6.size)⟩
set_option linter.unusedVariables false in
set_option linter.unusedSimpArgs false in
theorem CpD.put {t : Tx} (h : CpD w A n c A2 n2 c2 col Ao co out wr) (D : Below wr.heap.size wr w4) (hx : TxOf (fun _ => 0) 0 w4 wr.heap.size a' b' t) :
    ∃ ys, w4.ownsRow w.heap.size 33 3 (.slice Ao out.length co) out.length ys ∧ ∀ v' w1, w1.ownsRow w.heap.size 33 3 v' (out.length + 1) (ys ++ [a', b', .int .i64 t.d]) →
      (w4.alloc (.cells #[a', b', .int .i64 t.d] 33)).grownBy w1 (Value.slice Ao out.length co).ownBlock → ∃ Ao' co' col', v' = .slice Ao' (out.length + 1) co' ∧ CpD w A n c A2 n2 c2 col' Ao' co' (out ++ [t]) w1 := by
  obtain ⟨h1, h2, h5, h7⟩ := h
  obtain ⟨ys, hrow, H⟩ := h5.more D h7.size hx
  refine ⟨ys, hrow, fun v' w1 hown hg => ?_⟩
  have O := H v' w1 hown hg
  have al := (Below.refl w4.heap.size w4).alloc (Nat.le_refl _) (.cells #[a', b', .int .i64 t.d] 33)
  have hrow' := World.ownsRow.alloc hrow (.cells #[a', b', .int .i64 t.d] 33)
  have D' := D.trans (al.mono D.size)
  have k1 := (h1.later D').grown hg (blk_ne_row (h1.later D') hrow' (by decide))
  have k2 := (h2.later D').grown hg (blk_ne_row (h2.later D') hrow' (by decide))
  have bb := (h7.trans (D'.mono h7.size)).grown hg (by have := h7.size; have := D'.size; omega) (fun j hj => (World.ownsRow.lt hrow' j hj).1)
  obtain ⟨Ao', co', e, -, -⟩ := O.form
  rw [List.length_append, List.length_singleton] at e
  subst e
  refine ⟨Ao', co', paint w1 (tint wr col (out.length + 2)), rfl, k1, k2, ?_, bb⟩
  rw [List.length_append, List.length_singleton]
  exact O
end
set_option linter.unusedVariables false in
set_option linter.unusedSimpArgs false in
theorem cr_made {w wr w4 : World} {col : Nat → Nat} {a b : Value} {q : Crd} (h : OwnTxs col wr w.heap.size a q.ts) (hz : w.heap.size ≤ wr.heap.size) (d : Below wr.heap.size wr w4) (ho : OwnI w4 wr.heap.size b q.os) : OwnCr (tint wr col 0) w4 w.heap.size (.agg #[a, b]) q :=
  ⟨a, b, rfl, h.map (fun _ _ _ _ _ _ _ hr hc => ⟨own_below hr d (Nat.le_refl _), tint_old hr hc⟩) fun _ _ _ _ hr hc => ⟨own_below hr d (Nat.le_refl _), tint_old hr hc⟩, rowB_base ho hz, tint_new ho⟩
end Go.Proofs.Ytjplondblkkpmaa
