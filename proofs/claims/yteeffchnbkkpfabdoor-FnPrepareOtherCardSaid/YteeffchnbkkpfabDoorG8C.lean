/-
  What the program's ledger holds: a list of 29 cells.
  Walks: the program's ledger that nothing has been told; a transaction's last state.
-/
import Derived.Test.YteeffchnbkkpfabDoorG1C
import Derived.Test.YteeffchnbkkpfabDoorRefJ
import Derived.Test.YteeffchnbkkpfabDoorLockI
import Derived.Deep.MidRow
import Derived.Test.YteeffchnbkkpfabDoorG4C
import Derived.Test.YteeffchnbkkpfabDoorRefN
import Derived.Deep.Cut
namespace Go.Proofs.YteeffchnbkkpfabDoor
open Go.RowKit Wo Pu Rf Lk Sh

/-- The states of all transactions. -/
def stL (rs : List Rec) : List Int := (List.range 12).map fun i => Sh.ask rs (i : Nat)
theorem stL_length (rs : List Rec) : (stL rs).length = 12 := by simp [stL]
theorem stL_get {rs : List Rec} {i : Nat} (h : i < 12) : (stL rs)[i]? = some (Sh.ask rs (i : Nat)) := by simp [stL, h]
theorem stL_nil : stL [] = [0, 0, 0, 0, 0, 0, 0, 0, 0, 0, 0, 0] := rfl
theorem stL_snoc {rs : List Rec} {r : Rec} {m : Nat} (hr : r.t = (m : Int)) : stL (rs ++ [r]) = (stL rs).set m r.k := by
  apply List.ext_getElem?
  intro i
  by_cases hi : i < 12
  · rw [stL_get hi, ask_snoc, hr, List.getElem?_set, stL_length]
    by_cases e : m = i
    · subst e
      rw [if_pos rfl, if_pos rfl, if_pos hi]
    · rw [if_neg (by omega), if_neg e, stL_get hi]
  · rw [List.getElem?_eq_none (by rw [stL_length]; omega), List.getElem?_eq_none (by rw [List.length_set, stL_length]; omega)]
/-- The cells of a ledger. -/
def ledC (zs : List Int) (L : Value) (st : List Int) (us : List Value) : List Value := ints zs ++ L :: (ints st ++ us)
theorem ints_at {zs : List Int} {i : Nat} (h : i < zs.length) : (ints zs)[i]? = some (.int .i64 zs[i]) := by simp [ints, h]
section
variable {zs st : List Int} {L : Value} {us : List Value}
theorem ledC_length (h1 : zs.length = 4) (h2 : st.length = 12) (h3 : us.length = 12) : (ledC zs L st us).length = 29 := by simp [ledC, ints, h1, h2, h3]
theorem ledC_locks (h1 : zs.length = 4) : (ledC zs L st us)[4]? = some L := by
  unfold ledC
  rw [List.getElem?_append_right (by simp [ints, h1])]
  simp [ints, h1]
theorem ledC_state (h1 : zs.length = 4) (h2 : st.length = 12) {i : Nat} (hi : i < 12) : (ledC zs L st us)[5 + i]? = some (.int .i64 (st[i]'(by omega))) := by
  unfold ledC
  rw [List.getElem?_append_right (by simp [ints, h1]; omega)]
  have e : 5 + i - (ints zs).length = i + 1 := by simp [ints, h1]; omega
  rw [e, List.getElem?_cons_succ, List.getElem?_append_left (by simp [ints, h2]; omega), ints_at (by omega)]
theorem ledC_ups (h1 : zs.length = 4) (h2 : st.length = 12) (i : Nat) : (ledC zs L st us)[17 + i]? = us[i]? := by
  unfold ledC
  rw [List.getElem?_append_right (by simp [ints, h1]; omega)]
  have e : 17 + i - (ints zs).length = (12 + i) + 1 := by simp [ints, h1]; omega
  rw [e, List.getElem?_cons_succ, List.getElem?_append_right (by simp [ints, h2])]
  congr 1
  simp [ints, h2]
theorem ledC_ref (h1 : zs.length = 4) {i : Nat} (hi : i < 4) : (ledC zs L st us)[i]? = some (.int .i64 (zs[i]'(by omega))) := by
  unfold ledC
  rw [List.getElem?_append_left (by simp [ints, h1]; omega), ints_at (by omega)]
theorem ledC_range {j : Nat} {v : Value} (h : (ints zs)[j]? = some v) : (ledC zs L st us)[j]? = some v := by
  unfold ledC
  rw [List.getElem?_append_left (by rcases Nat.lt_or_ge j (ints zs).length with e | e; exact e; rw [List.getElem?_eq_none e] at h; cases h)]
  exact h
theorem ints_set' (zs : List Int) (i : Nat) (z : Int) : (ints zs).set i (.int .i64 z) = ints (zs.set i z) := by simp [ints, List.map_set]
theorem ledC_set_ref (h1 : zs.length = 4) {i : Nat} (hi : i < 4) (z : Int) : (ledC zs L st us).set i (.int .i64 z) = ledC (zs.set i z) L st us := by
  unfold ledC
  rw [List.set_append_left _ _ (by simp [ints, h1]; omega), ints_set']
theorem ledC_set_locks (h1 : zs.length = 4) (L' : Value) : (ledC zs L st us).set 4 L' = ledC zs L' st us := by
  unfold ledC
  rw [List.set_append_right _ _ (by simp [ints, h1])]
  simp [ints, h1]
theorem ledC_set_state (h1 : zs.length = 4) (h2 : st.length = 12) {i : Nat} (hi : i < 12) (z : Int) : (ledC zs L st us).set (5 + i) (.int .i64 z) = ledC zs L (st.set i z) us := by
  unfold ledC
  rw [List.set_append_right _ _ (by simp [ints, h1]; omega)]
  have e : 5 + i - (ints zs).length = i + 1 := by simp [ints, h1]; omega
  rw [e, List.set_cons_succ, List.set_append_left _ _ (by simp [ints, h2]; omega), ints_set']
theorem ledC_set_ups (h1 : zs.length = 4) (h2 : st.length = 12) (i : Nat) (u : Value) : (ledC zs L st us).set (17 + i) u = ledC zs L st (us.set i u) := by
  unfold ledC
  rw [List.set_append_right _ _ (by simp [ints, h1]; omega)]
  have e : 17 + i - (ints zs).length = (12 + i) + 1 := by simp [ints, h1]; omega
  rw [e, List.set_cons_succ, List.set_append_right _ _ (by simp [ints, h2])]
  congr 2
  simp [ints, h2]
theorem ledC_ones (hL : L.oneCell' = true) (hu : ∀ u ∈ us, u.oneCell' = true) : (ledC zs L st us).toArray.all (·.oneCell') = true := by
  refine all_oneCell_toArray fun v hv => ?_
  unfold ledC at hv
  simp only [List.mem_append, List.mem_cons, ints, List.mem_map] at hv
  rcases hv with ⟨z, -, rfl⟩ | rfl | ⟨z, -, rfl⟩ | hv
  · rfl
  · exact hL
  · rfl
  · exact hu v hv
end
theorem info_led : (Tryd.prog.info? 82).map (·.size) = some 29 := by kernel_rfl
/-- The cells of a ledger that nothing has been told. -/
def led0 : List Value := ledC [0, 0, 0, 0] (.slice none 0 0) [0, 0, 0, 0, 0, 0, 0, 0, 0, 0, 0, 0] (List.replicate 12 (.slice none 0 0))
/-- The cells of some ledger. -/
def Led (cs : List Value) : Prop := cs.length = 29 ∧ cs.toArray.all (·.oneCell') = true
theorem Led.size {cs : List Value} (h : Led cs) : cs.toArray.size = 29 := by rw [List.size_toArray]; exact h.1
theorem Led.info {cs : List Value} (h : Led cs) : (Tryd.prog.info? 82).map (·.size) = some cs.toArray.size := by rw [h.size]; exact info_led
theorem Led.mk_ {zs st : List Int} {L : Value} {us : List Value} (h1 : zs.length = 4) (h2 : st.length = 12) (h3 : us.length = 12) (hL : L.oneCell' = true) (hu : ∀ u ∈ us, u.oneCell' = true) : Led (ledC zs L st us) := ⟨ledC_length h1 h2 h3, ledC_ones hL hu⟩
theorem led0_led : Led led0 := Led.mk_ rfl rfl rfl rfl (fun u hu => by rw [List.mem_replicate] at hu; rw [hu.2]; rfl)
/-- The cells cs are those of the ledger of the records rs, whose state is s; its locks are the call's own, the updates lie below. -/
def LdV (w : World) (B : Nat) (cs : List Value) (rs : List Rec) (s : St) : Prop :=
  ∃ A c us, cs = ledC s.refs (.slice A s.locks.length c) (stL rs) us ∧ us.length = 12 ∧ (∀ u ∈ us, u.oneCell' = true) ∧ OwnI w B (.slice A s.locks.length c) s.locks ∧
    ∀ t : Nat, t < 12 → Sh.ask rs (t : Int) = 1 → ∃ A' c', us[t]? = some (.slice A' (Sh.upd rs t).length c') ∧ Row w B A' (upsV (Sh.upd rs t))
theorem LdV.below {w w' : World} {B : Nat} {cs : List Value} {rs : List Rec} {s : St} (h : LdV w B cs rs s) (hB : B ≤ w.heap.size) (hb : Below w.heap.size w w') : LdV w' B cs rs s := by
  obtain ⟨A, c, us, h1, h2, h3, h4, h5⟩ := h
  refine ⟨A, c, us, h1, h2, h3, h4.below hb (Nat.le_refl _), fun t ht ha => ?_⟩
  obtain ⟨A', c', q1, q2⟩ := h5 t ht ha
  exact ⟨A', c', q1, q2.below hb hB⟩
theorem LdV.base {w : World} {B B' : Nat} {cs : List Value} {s : St} (h : LdV w B cs [] s) (hB : B' ≤ B) : LdV w B' cs [] s := by
  obtain ⟨A, c, us, h1, h2, h3, h4, h5⟩ := h
  exact ⟨A, c, us, h1, h2, h3, h4.base hB, fun t _ ha => absurd ha (by unfold Sh.ask; simp)⟩
theorem row_but_hi {w w' : World} {B R : Nat} {A : Option Addr} {xs : List Value} (h : Row w B A xs) (hb : But R w w') (hR : B ≤ R) (hB : B ≤ w.heap.size) : Row w' B A xs :=
  h.below (C := B) ⟨hb.os, hb.tape, hb.output, hb.size, fun k hk => hb.block k (by omega) (fun e => by injection e with e; omega)⟩ (Nat.le_refl _)
theorem LdV.but {w w' : World} {B R : Nat} {T : TypeId} {cur : Array Value} {cs : List Value} {rs : List Rec} {s : St} (h : LdV w B cs rs s) (hB : B ≤ w.heap.size) (hb : But R w w') (hR : B ≤ R) (hx : w.heap[R]? = some (.cells cur T (0, 0))) (hT : 3 ≠ T) : LdV w' B cs rs s := by
  obtain ⟨A, c, us, h1, h2, h3, h4, h5⟩ := h
  refine ⟨A, c, us, h1, h2, h3, row_far_type h4 hT hb (blk_type hx), fun t ht ha => ?_⟩
  obtain ⟨A', c', q1, q2⟩ := h5 t ht ha
  exact ⟨A', c', q1, row_but_hi q2 hb hR hB⟩
theorem LdV.led {w : World} {B : Nat} {cs : List Value} {rs : List Rec} {s : St} (h : LdV w B cs rs s) (h4 : s.refs.length = 4) : Led cs := by
  obtain ⟨A, c, us, rfl, h2, h3, -, -⟩ := h
  exact Led.mk_ h4 (stL_length rs) h2 rfl h3
theorem row_on {w w' : World} {A : Option Addr} {vs : List Value} (h : Row w w.heap.size A vs) (hb : Below w.heap.size w w') : Row w' w'.heap.size A vs := (h.below hb (Nat.le_refl _)).more hb.size
theorem Arr4.get_ {w : World} {g : Nat} {t : TypeId} {vs : List Value} (h : Arr4 w g t vs) {i : Nat} {v : Value} (hv : vs[i]? = some v) : w.cell? ⟨g, i, none⟩ = some v := by
  have hi : i < vs.length := by rcases Nat.lt_or_ge i vs.length with e | e; exact e; rw [List.getElem?_eq_none e] at hv; cases hv
  rw [h.read hi, ← List.getElem?_eq_getElem]
  exact hv
theorem Arr4.has_ {w : World} {g : Nat} {t : TypeId} {vs : List Value} (h : Arr4 w g t vs) {i : Nat} (hi : i < vs.length) : ∃ v, w.cell? ⟨g, i, none⟩ = some v := ⟨_, h.read hi⟩
theorem results_row_slot {fn : Func} {p s : Tmp} {ty : TypeId} (h : fn.results = #[.cell p ty, .tmp s]) (tmps : Array Value) (w : World) (g : Nat) (t : TypeId) (cs : Array Value) (fr : Nat × Nat) (fs : Array Field) (v : Value)
    (hp : tmps.getD p undef = .pointer (some ⟨g, 0, none⟩)) (hs : tmps.getD s undef = v) (hg : w.heap[g]? = some (.cells cs t fr))
    (hu : Tryd.prog.underlying ty = some (.struct fs)) (hi : (Tryd.prog.info? ty).map (·.size) = some cs.size) :
    (results fn tmps).run Tryd.prog w = .ok (.tuple #[.agg cs, v]) w := by
  have hp' : tmps[p]?.getD undef = .pointer (some ⟨g, 0, none⟩) := by simpa using hp
  have hs' : tmps[s]?.getD undef = v := by simpa using hs
  simp [results, h, hp', hs', asAddr, run_loadVar_row w g t ty cs fr (.struct fs) hg hu rfl hi]
/-- Stores into the midst of an array. -/
theorem Arr4.set4 {w : World} {g : Nat} {t : TypeId} {vs : List Value} (h : Arr4 w g t vs) (a b c d : Value) : Arr4 (w.setCells g 0 [a, b, c, d]) g t ((((vs.set 0 a).set 1 b).set 2 c).set 3 d) := by
  show Arr4 ((((w.setCell ⟨g, 0, none⟩ a).setCell ⟨g, 1, none⟩ b).setCell ⟨g, 2, none⟩ c).setCell ⟨g, 3, none⟩ d) g t _
  exact (((h.set 0 a).set 1 b).set 2 c).set 3 d
end Go.Proofs.YteeffchnbkkpfabDoor
namespace Go.Proofs.YteeffchnbkkpfabDoor
open Go.RowKit Wo Pu Rf Lk Sh

/-- Behind it: the ledger of no records. -/
def NewLed (w : World) (e : Ending) (w' : World) : Prop := ∃ cs, e = .returned (.agg cs.toArray) ∧ LdV w' w.heap.size cs [] ⟨[-1, -1, -1, -1], [-1, -1, -1, -1]⟩ ∧ Below w.heap.size w w'
theorem Arr4.grown {w w' : World} {g : Nat} {t : TypeId} {vs : List Value} {row : Option Nat} (h : Arr4 w g t vs) (hg : w.grownBy w' row) (hr : some g ≠ row) : Arr4 w' g t vs := (hg.block g h.lt hr).trans h
theorem but_setRow (w : World) (R : Nat) (cs : Array Value) : But R w (w.setRow R cs) := ⟨rfl, rfl, rfl, by simp, fun k _ hne => setRow_other w R k cs (fun e => hne (by rw [e]))⟩
/-- The first k refs without an id. -/
def noRefs (k : Nat) : List Int := List.replicate k (-1) ++ List.replicate (4 - k) 0
theorem noRefs_length {k : Nat} (h : k ≤ 4) : (noRefs k).length = 4 := by simp [noRefs]; omega
theorem noRefs_set {k : Nat} (h : k < 4) : (noRefs k).set k (-1) = noRefs (k + 1) := by
  have key : k = 0 ∨ k = 1 ∨ k = 2 ∨ k = 3 := by omega
  rcases key with rfl | rfl | rfl | rfl <;> rfl
def zst : List Int := [0, 0, 0, 0, 0, 0, 0, 0, 0, 0, 0, 0]
def zus : List Value := List.replicate 12 (.slice none 0 0)
def led1 : List Value := ledC [-1, -1, -1, -1] (.slice none 0 0) zst zus
theorem build_led (W : World) : (Instr.build 82 #[(0, .agg (ints [-1, -1, -1, -1]).toArray)]).run Tryd.prog W = .ok (.agg led1.toArray) W := by kernel_rfl
theorem led1_led : Led led1 := Led.mk_ (L := .slice none 0 0) (us := zus) rfl (st := zst) rfl rfl rfl (fun u hu => by unfold zus at hu; rw [List.mem_replicate] at hu; rw [hu.2]; rfl)
set_option maxRecDepth 100000 in
set_option maxHeartbeats 4000000 in
theorem newLedger_is (w : World) : Calls Tryd.prog 83 #[] w (NewLed w) := by
  obtain ⟨i0, hi, hz0, hz1, hz2⟩ := info_of info_int
  have a0 := Arr4.new_ w 82 led0
  have b0 := (Below.refl w.heap.size w).alloc (Nat.le_refl _) (.cells led0.toArray 82)
  go_enter Tryd.func83, Tryd.ntmps83
  go_upto_region 1 with fail
  obtain ⟨w1, hw1⟩ : ∃ x, w.alloc (.cells led0.toArray 82) = x := ⟨_, rfl⟩
  have hw1' : w.alloc (.cells #[.int .i64 0, .int .i64 0, .int .i64 0, .int .i64 0, .slice none 0 0, .int .i64 0, .int .i64 0, .int .i64 0, .int .i64 0, .int .i64 0, .int .i64 0, .int .i64 0, .int .i64 0, .int .i64 0, .int .i64 0, .int .i64 0, .int .i64 0, .slice none 0 0, .slice none 0 0, .slice none 0 0, .slice none 0 0, .slice none 0 0, .slice none 0 0, .slice none 0 0, .slice none 0 0, .slice none 0 0, .slice none 0 0, .slice none 0 0, .slice none 0 0] 82) = w1 := hw1
  rw [hw1] at a0 b0
  try rw [hw1']
  try rw [hw1]
  clear hw1 hw1'
  go_wp2_with fail
  refine (newRefs_is w1).mono ?_
  rintro e w2 ⟨rfl, d⟩
  have hbl := build_led
  replace a0 := a0.below d a0.lt
  have b2 := b0.trans (d.mono b0.size)
  have a1 := Arr4.new_ w2 82 led0
  have hne : w.heap.size ≠ w2.heap.size := by have := a0.lt; omega
  have b3 := below_setRow (g := w2.heap.size) (b2.alloc b2.size (.cells led0.toArray 82)) b2.size led1.toArray
  have hs1 : (w2.alloc (.cells led0.toArray 82)).heap[w2.heap.size]? = some (.cells led0.toArray 82 (0, 0)) := a1
  have a2 : Arr4 ((w2.alloc (.cells led0.toArray 82)).setRow w2.heap.size led1.toArray) w2.heap.size 82 led1 := setRow_heap _ _ _ _ _ _ hs1
  have a02 : Arr4 ((w2.alloc (.cells led0.toArray 82)).setRow w2.heap.size led1.toArray) w.heap.size 82 led0 := (setRow_other _ _ _ _ hne).trans (a0.alloc (.cells led0.toArray 82))
  have hgw : w.heap.size ≤ w2.heap.size := b2.size
  go_upto_region 2 with (refine wpList_store_rowTo rfl 82 _ _ rfl rfl w2.heap.size led1.toArray rfl rfl 82 led0.toArray hs1 led1_led.info (led0_led.size.trans led1_led.size.symm) led1_led.2 ?_)
  obtain ⟨w3, hw3⟩ : ∃ x, (w2.alloc (.cells led0.toArray 82)).setRow w2.heap.size led1.toArray = x := ⟨_, rfl⟩
  obtain ⟨g, hg⟩ : ∃ x, w2.heap.size = x := ⟨_, rfl⟩
  have hw3' : (w2.alloc (.cells #[.int .i64 0, .int .i64 0, .int .i64 0, .int .i64 0, .slice none 0 0, .int .i64 0, .int .i64 0, .int .i64 0, .int .i64 0, .int .i64 0, .int .i64 0, .int .i64 0, .int .i64 0, .int .i64 0, .int .i64 0, .int .i64 0, .int .i64 0, .slice none 0 0, .slice none 0 0, .slice none 0 0, .slice none 0 0, .slice none 0 0, .slice none 0 0, .slice none 0 0, .slice none 0 0, .slice none 0 0, .slice none 0 0, .slice none 0 0, .slice none 0 0] 82)).setRow w2.heap.size led1.toArray = w3 := hw3
  rw [hw3'] 
  rw [hw3] at a2 a02 b3
  rw [hg] at a2 hne hgw ⊢
  clear hw3 hw3' hg a0 a1 b0 b2 hs1 d hbl
  go_wp2_with fail
  go_loopw [4] (fun i wr => ∃ (k : Nat) (A : Option Addr) (c : Nat), k ≤ 4 ∧ i = .int .i64 k ∧ Arr4 wr g 82 (ledC [-1, -1, -1, -1] (.slice A k c) zst zus) ∧ Arr4 wr w.heap.size 82 led0 ∧ OwnI wr w.heap.size (.slice A k c) (nones k) ∧ Below w.heap.size w wr) (fun i _ => 4 - (intOf i).toNat)
  case atStart => exact ⟨0, none, 0, Nat.zero_le _, rfl, a2, a02, ⟨rfl, .inl ⟨rfl, rfl⟩⟩, b3⟩
  case round =>
    clear a2 a02 b3
    obtain ⟨k, A, c, hk, rfl, a5, a05, o5, b5⟩ := hrel
    have hz := b5.size
    by_cases hlt : k < 4
    · have q0 : (0 : Int) ≤ (k : Int) := by omega
      have q1 : (k : Int) < 4 := by omega
      have y4 : wr.cell? ⟨g, 4, none⟩ = some (.slice A k c) := by
        have := a5.read (i := 4) (by rw [ledC_length rfl rfl rfl]; omega)
        rw [this, ← List.getElem?_eq_getElem, ledC_locks rfl]
      have a6 := a5.alloc (.cells #[.int .i64 (-1)] 3)
      have a06 := a05.alloc (.cells #[.int .i64 (-1)] 3)
      have b6 := b5.alloc b5.size (.cells #[.int .i64 (-1)] 3)
      have o6 := o5.below ((Below.refl wr.heap.size wr).alloc (Nat.le_refl _) (.cells #[.int .i64 (-1)] 3)) (Nat.le_refl _)
      have r6 : (wr.alloc (.cells #[.int .i64 (-1)] 3)).ownsRow w.heap.size 3 1 (.slice A k c) k (ints (nones k)) := by
        unfold OwnI at o6
        rwa [nones_length] at o6
      have fit : ∀ (w7 : World) (v7 : Value), w7.ownsRow w.heap.size 3 1 v7 (k + 1) (ints (nones k) ++ [.int .i64 (-1)]) → (wr.alloc (.cells #[.int .i64 (-1)] 3)).grownBy w7 (Value.slice A k c).ownBlock →
          ∃ A' c', v7 = .slice A' (k + 1) c' ∧ (∃ v, w7.cell? ⟨g, 4, none⟩ = some v) ∧ w7.frozen? ⟨g, 4, none⟩ = false ∧ Arr4 (w7.setCell ⟨g, 4, none⟩ (.slice A' (k + 1) c')) g 82 (ledC [-1, -1, -1, -1] (.slice A' (k + 1) c') zst zus) ∧
            Arr4 (w7.setCell ⟨g, 4, none⟩ (.slice A' (k + 1) c')) w.heap.size 82 led0 ∧ OwnI (w7.setCell ⟨g, 4, none⟩ (.slice A' (k + 1) c')) w.heap.size (.slice A' (k + 1) c') (nones (k + 1)) ∧ Below w.heap.size w (w7.setCell ⟨g, 4, none⟩ (.slice A' (k + 1) c')) := by
        intro w7 v7 hown hg
        have a7 := a6.grown hg (blk_ne_row a6 r6 (by decide))
        have a07 := a06.grown hg (blk_ne_row a06 r6 (by decide))
        have o7 : OwnI w7 w.heap.size v7 (nones k ++ [-1]) := by
          refine OwnI.app ?_
          rw [nones_length]
          exact hown
        rw [← nones_succ] at o7
        obtain ⟨A', c', rfl, -, -⟩ := id o7.form
        rw [nones_length] at o7 ⊢
        have b7 := b6.grown hg b6.size fun j hj => (World.ownsRow.lt r6 j hj).1
        refine ⟨A', c', rfl, ⟨_, a7.read (i := 4) (by rw [ledC_length rfl rfl rfl]; omega)⟩, a7.frozen 4, ?_, a07.far hne _, o7.keptT (by decide) (but_set w7 g 4 _) (blk_type a7), b7.setCell hgw _⟩
        have := a7.set 4 (.slice A' (k + 1) c')
        rwa [ledC_set_locks rfl] at this
      have F := hid fit
      have z6 : w.heap.size ≤ (wr.alloc (.cells #[.int .i64 (-1)] 3)).heap.size := b6.size
      clear a5 a05 b5 o5 o6 fit a6 a06 b6
      go_wp2_with (at_builtin; go_must (refine wpList_append_row _ rfl _ _ 27 rfl w.heap.size 3 i0 (.int .i64 0) 1 8 Tryd.underlying27 hi hz0 hz1 hz2 rfl (by decide) _ k _ rfl r6 (wr.heap.size + 1) (some ⟨wr.heap.size, 0, none⟩) 1 1 [.int .i64 (-1)] rfl (.inr ⟨_, rfl, Nat.lt_succ_self _, cell_one_new _ _ _⟩) rfl (one_int _) (by unfold maxLen; omega) (by omega) z6 ?_); intro v7 w7 hown hg; obtain ⟨A7, c7, rfl, ⟨v4, t4⟩, f4, a8, a08, o8, b8⟩ := F.out _ _ hown hg)
      go_roundw
      case rel => exact ⟨k + 1, A7, c7, by omega, by go_num, a8, a08, o8, b8⟩
      case measure => simp [intOf]; omega
    · have hk' : k = 4 := by omega
      subst hk'
      have hs : wr.heap[w.heap.size]? = some (.cells led0.toArray 82 (0, 0)) := a05
      have hL := hid (Led.mk_ (zs := [-1, -1, -1, -1]) (L := .slice A 4 c) (us := zus) rfl (st := zst) rfl rfl rfl (fun u hu => by unfold zus at hu; rw [List.mem_replicate] at hu; rw [hu.2]; rfl))
      obtain ⟨cs, hcs⟩ : ∃ cs, ledC [-1, -1, -1, -1] (.slice A 4 c) zst zus = cs := ⟨_, rfl⟩
      rw [hcs] at a5 hL
      have HC := hid hcs
      clear hcs
      have hld : wr.heap[g]? = some (.cells cs.toArray 82 (0, 0)) := a5
      go_wp2_with (first
        | (refine wpList_load_row rfl 82 _ rfl g rfl 82 cs.toArray (0, 0) _ hld Tryd.underlying82 rfl hL.out.info ?_)
        | (refine wpList_store_rowTo rfl 82 _ _ rfl rfl w.heap.size cs.toArray rfl rfl 82 led0.toArray hs hL.out.info (led0_led.size.trans hL.out.size.symm) hL.out.2 ?_))
      have h2 : (wr.setRow w.heap.size cs.toArray).heap[w.heap.size]? = some (.cells cs.toArray 82 (0, 0)) := setRow_heap wr _ _ _ _ _ hs
      have b9 := below_setRow b5 (Nat.le_refl _) cs.toArray
      refine bodyPost_ret (v := .agg cs.toArray) (results_cell_row (p := 0) (by kernel_rfl) _ _ w.heap.size 82 _ (0, 0) _ rfl h2 Tryd.underlying82 rfl hL.out.info) rfl ⟨cs, rfl, ?_, b9⟩
      refine ⟨A, c, zus, HC.out.symm, rfl, fun u hu => by unfold zus at hu; rw [List.mem_replicate] at hu; rw [hu.2]; rfl, ?_, fun t _ ht => absurd ht (by unfold Sh.ask; simp)⟩
      exact o5.keptT (by decide) (but_setRow wr w.heap.size cs.toArray) (blk_type a05)
end Go.Proofs.YteeffchnbkkpfabDoor
