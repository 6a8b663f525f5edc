/-
  Plain facts on packs: depths, objects, and how a pack is made.
-/
import Derived.Test.YtkekbobnbipmoaaDPure
import Derived.Test.YtkekbobnbipmoaaStoreP
namespace Go.Proofs.Ytkekbobnbipmoaa
open Pu

structure Ent where
  kd : Int
  zs : List Int
  b : Int
  ops : List Op2

/-- Bases come earlier. -/
def Bas (es : List Ent) : Prop := ∀ i (h : i < es.length), -1 ≤ es[i].b ∧ es[i].b < (i : Int)
def basB (es : List Ent) : Bool := (List.range es.length).all fun i => match es[i]? with
  | some e => decide (-1 ≤ e.b) && decide (e.b < (i : Int))
  | none => true
theorem basB_iff {es : List Ent} : basB es = true ↔ Bas es := by
  unfold basB Bas
  rw [List.all_eq_true]
  constructor
  · intro h i hi
    have := h i (List.mem_range.2 hi)
    rw [List.getElem?_eq_getElem hi] at this
    simpa using this
  · intro h i hi
    have hi' := List.mem_range.1 hi
    rw [List.getElem?_eq_getElem hi']
    simpa using h i hi'
theorem Bas.take_ {es : List Ent} (h : Bas es) (k : Nat) : Bas (es.take k) := fun i hi => by
  rw [List.getElem_take]
  rw [List.length_take] at hi
  exact h i (by omega)
theorem Bas.snoc {es : List Ent} {e : Ent} (h : Bas es) (h1 : -1 ≤ e.b) (h2 : e.b < (es.length : Int)) : Bas (es ++ [e]) := fun i hi => by
  rw [List.length_append, List.length_singleton] at hi
  by_cases hlt : i < es.length
  · rw [List.getElem_append_left hlt]; exact h i hlt
  · have hi' : i = es.length := by omega
    subst hi'
    rw [List.getElem_append_right (Nat.le_refl _)]
    simpa using ⟨h1, h2⟩

/-- The depth of an entry. -/
def depF (es : List Ent) : Nat → Nat → Nat
  | 0, _ => 0
  | f + 1, i => match es[i]? with
    | none => 0
    | some e => if 0 ≤ e.b then depF es f e.b.toNat + 1 else 0
def dep (es : List Ent) (i : Nat) : Nat := depF es (i + 1) i
theorem depF_get {es : List Ent} {f i : Nat} (hi : i < es.length) : depF es (f + 1) i = if 0 ≤ es[i].b then depF es f es[i].b.toNat + 1 else 0 := by
  rw [depF, List.getElem?_eq_getElem hi]
theorem depF_stable {es : List Ent} (h : Bas es) : ∀ i f, i < es.length → i < f → depF es f i = dep es i := by
  intro i
  induction i using Nat.strongRecOn with
  | ind i ih =>
    intro f hi hf
    obtain ⟨f, rfl⟩ : ∃ g, f = g + 1 := ⟨f - 1, by omega⟩
    unfold dep
    rw [depF_get hi, depF_get hi]
    have hb := h i hi
    by_cases h0 : 0 ≤ es[i].b
    · rw [if_pos h0, if_pos h0, ih es[i].b.toNat (by omega) f (by omega) (by omega), ih es[i].b.toNat (by omega) i (by omega) (by omega)]
    · rw [if_neg h0, if_neg h0]
theorem dep_base {es : List Ent} {i : Nat} (hi : i < es.length) (hb : es[i].b < 0) : dep es i = 0 := by
  unfold dep
  rw [depF_get hi, if_neg (by omega)]
theorem dep_step {es : List Ent} (h : Bas es) {i : Nat} (hi : i < es.length) (hb : 0 ≤ es[i].b) : dep es i = dep es es[i].b.toNat + 1 := by
  have h1 := h i hi
  rw [show dep es i = depF es (i + 1) i from rfl, depF_get hi, if_pos hb, depF_stable h _ _ (by omega) (by omega)]
theorem dep_le {es : List Ent} (h : Bas es) : ∀ i, i < es.length → dep es i ≤ i := by
  intro i
  induction i using Nat.strongRecOn with
  | ind i ih =>
    intro hi
    have h1 := h i hi
    by_cases hb : 0 ≤ es[i].b
    · rw [dep_step h hi hb]
      have := ih es[i].b.toNat (by omega) (by omega)
      omega
    · rw [dep_base hi (by omega)]; omega
theorem dep_congr {es fs : List Ent} {n : Nat} (h : Bas es) (hn : n ≤ es.length) (hag : ∀ j, j < n → es[j]? = fs[j]?) : ∀ i f, i < n → depF es f i = depF fs f i := by
  intro i f
  induction f generalizing i with
  | zero => intro _; rfl
  | succ f ih =>
    intro hi
    have hb := h i (by omega)
    have he := List.getElem?_eq_getElem (l := es) (i := i) (by omega)
    rw [depF, depF, ← hag i hi, he]
    show (if 0 ≤ es[i].b then depF es f es[i].b.toNat + 1 else 0) = if 0 ≤ es[i].b then depF fs f es[i].b.toNat + 1 else 0
    by_cases h0 : 0 ≤ es[i].b
    · rw [if_pos h0, if_pos h0, ih es[i].b.toNat (by omega)]
    · rw [if_neg h0, if_neg h0]
theorem dep_take {es : List Ent} (h : Bas es) {k i : Nat} (hk : k ≤ es.length) (hi : i < k) : dep (es.take k) i = dep es i := by
  refine dep_congr (n := k) (h.take_ k) (by rw [List.length_take]; omega) (fun j hj => ?_) i (i + 1) hi
  rw [List.getElem?_take, if_pos hj]
theorem dep_snoc {es : List Ent} (h : Bas es) {e : Ent} {i : Nat} (hi : i < es.length) : dep (es ++ [e]) i = dep es i := by
  refine (dep_congr (n := es.length) h (Nat.le_refl _) (fun j hj => ?_) i (i + 1) hi).symm
  rw [List.getElem?_append_left hj]
def depB (es : List Ent) : Bool := (List.range es.length).all fun i => decide (dep es i ≤ 2)
theorem depB_iff {es : List Ent} : depB es = true ↔ ∀ i, i < es.length → dep es i ≤ 2 := by
  unfold depB
  rw [List.all_eq_true]
  exact ⟨fun h i hi => by simpa using h i (List.mem_range.2 hi), fun h i hi => by simpa using h i (List.mem_range.1 hi)⟩
/-- The answer of PackDepth. -/
def pDep (es : List Ent) (i : Int) : Int := if basB es = true ∧ 0 ≤ i ∧ i < (es.length : Int) then (dep es i.toNat : Int) else -1

/-- The text of a base. -/
def txtOf (out : List Ob) (b : Int) : ByteArray := if 0 ≤ b then ((out[b.toNat]?).map Ob.s).getD ⟨#[]⟩ else ⟨#[]⟩
theorem txt_none {out : List Ob} {b : Int} (h : b < 0) : txtOf out b = ⟨#[]⟩ := if_neg (by omega)
theorem txt_some {out : List Ob} {b : Nat} (h : b < out.length) : txtOf out (b : Int) = out[b].s := by
  unfold txtOf
  rw [if_pos (by omega), show ((b : Int)).toNat = b from by omega, List.getElem?_eq_getElem h]
  rfl
theorem txt_take {out : List Ob} {b : Int} {k : Nat} (h : b < (k : Int)) : txtOf (out.take k) b = txtOf out b := by
  unfold txtOf
  by_cases h0 : 0 ≤ b
  · rw [if_pos h0, if_pos h0, List.getElem?_take, if_pos (by omega)]
  · rw [if_neg h0, if_neg h0]
def mkO (out : List Ob) (e : Ent) : Ob := ⟨e.kd, e.zs, dRes (txtOf out e.b) e.ops⟩
def okO (out : List Ob) (e : Ent) : Bool := dOk (txtOf out e.b) e.ops && vOb (mkO out e)
/-- The first k objects of a pack. -/
def objs (es : List Ent) : Nat → List Ob
  | 0 => []
  | k + 1 => match es[k]? with
    | some e => objs es k ++ [mkO (objs es k) e]
    | none => objs es k
def okTo (es : List Ent) : Nat → Bool
  | 0 => true
  | k + 1 => okTo es k && match es[k]? with
    | some e => okO (objs es k) e
    | none => true
theorem objs_succ {es : List Ent} {k : Nat} (hk : k < es.length) : objs es (k + 1) = objs es k ++ [mkO (objs es k) es[k]] := by rw [objs, List.getElem?_eq_getElem hk]
theorem okTo_succ {es : List Ent} {k : Nat} (hk : k < es.length) : okTo es (k + 1) = (okTo es k && okO (objs es k) es[k]) := by rw [okTo, List.getElem?_eq_getElem hk]
theorem objs_length {es : List Ent} : ∀ {k : Nat}, k ≤ es.length → (objs es k).length = k := by
  intro k
  induction k with
  | zero => intro _; rfl
  | succ k ih =>
    intro h
    rw [objs_succ (by omega), List.length_append, ih (by omega)]
    rfl
theorem objs_take {es : List Ent} {j : Nat} : ∀ {k : Nat}, j ≤ k → k ≤ es.length → (objs es k).take j = objs es j := by
  intro k
  induction k with
  | zero =>
    intro h _
    obtain rfl : j = 0 := by omega
    rfl
  | succ k ih =>
    intro h hk
    by_cases e : j = k + 1
    · subst e
      rw [List.take_of_length_le (by rw [objs_length hk]; omega)]
    · rw [objs_succ (by omega), List.take_append_of_le_length (by rw [objs_length (by omega)]; omega), ih (by omega) (by omega)]
theorem okTo_le {es : List Ent} {j : Nat} : ∀ {k : Nat}, j ≤ k → k ≤ es.length → okTo es k = true → okTo es j = true := by
  intro k
  induction k with
  | zero =>
    intro h _ hk
    obtain rfl : j = 0 := by omega
    exact hk
  | succ k ih =>
    intro h hl hk
    by_cases e : j = k + 1
    · subst e; exact hk
    · rw [okTo_succ (by omega), Bool.and_eq_true] at hk
      exact ih (by omega) (by omega) hk.1
theorem objs_of_take {es : List Ent} {m : Nat} (hm : m ≤ es.length) : ∀ {k : Nat}, k ≤ m → objs (es.take m) k = objs es k ∧ okTo (es.take m) k = okTo es k := by
  intro k
  induction k with
  | zero => intro _; exact ⟨rfl, rfl⟩
  | succ k ih =>
    intro h
    obtain ⟨h1, h2⟩ := ih (by omega)
    have hl : k < (es.take m).length := by rw [List.length_take]; omega
    rw [objs_succ hl, objs_succ (by omega), okTo_succ hl, okTo_succ (by omega), h1, h2, List.getElem_take]
    exact ⟨rfl, rfl⟩
/-- Is it a pack? -/
def packB (es : List Ent) : Bool := decide (es.length ≤ 16) && (basB es && (depB es && okTo es es.length))
theorem packB_iff {es : List Ent} : packB es = true ↔ es.length ≤ 16 ∧ Bas es ∧ (∀ i, i < es.length → dep es i ≤ 2) ∧ okTo es es.length = true := by
  unfold packB
  rw [Bool.and_eq_true, Bool.and_eq_true, Bool.and_eq_true, decide_eq_true_eq, basB_iff, depB_iff]
theorem packB_a {es : List Ent} (h : ¬ es.length ≤ 16) : packB es = false := by unfold packB; rw [decide_eq_false h]; rfl
theorem packB_b {es : List Ent} (h : basB es = false) : packB es = false := by unfold packB; rw [h]; simp
theorem packB_c {es : List Ent} (h : depB es = false) : packB es = false := by unfold packB; rw [h]; simp
theorem packB_d {es : List Ent} (h : okTo es es.length = false) : packB es = false := by unfold packB; rw [h]; simp
def packO (es : List Ent) : List Ob := if packB es = true then objs es es.length else []
theorem packO_yes {es : List Ent} (h : packB es = true) : packO es = objs es es.length := if_pos h
theorem packO_no {es : List Ent} (h : packB es = false) : packO es = [] := if_neg (by rw [h]; decide)
theorem packO_length {es : List Ent} : (packO es).length ≤ es.length := by
  cases h : packB es
  · rw [packO_no h]; exact Nat.zero_le _
  · rw [packO_yes h, objs_length (Nat.le_refl _)]; exact Nat.le_refl _
theorem okTo_get {es : List Ent} (h : okTo es es.length = true) {i : Nat} (hi : i < es.length) : okO (objs es i) es[i] = true := by
  have := okTo_le (j := i + 1) (by omega) (Nat.le_refl _) h
  rw [okTo_succ hi, Bool.and_eq_true] at this
  exact this.2
theorem objs_get {es : List Ent} {i n : Nat} (hn : n ≤ es.length) (hi : i < n) : (objs es n)[i]'(by rw [objs_length hn]; exact hi) = mkO (objs es i) (es[i]'(by omega)) := by
  have h1 := objs_take (es := es) (j := i + 1) (k := n) (by omega) hn
  rw [objs_succ (by omega)] at h1
  have h2 : ((objs es n).take (i + 1))[i]'(by rw [List.length_take, objs_length hn]; omega) = (objs es n)[i]'(by rw [objs_length hn]; exact hi) := List.getElem_take
  rw [← h2]
  have hl := objs_length (es := es) (k := i) (by omega)
  simp only [h1]
  rw [List.getElem_append_right (by omega)]
  simp [hl]
/-- Objects of a pack are valid. -/
theorem pack_valid {es : List Ent} (h : packB es = true) : ∀ o ∈ packO es, vOb o = true := fun o ho => by
  rw [packO_yes h] at ho
  obtain ⟨_, _, _, h4⟩ := packB_iff.1 h
  obtain ⟨i, hi, rfl⟩ := List.mem_iff_getElem.1 ho
  have hi' : i < es.length := by rwa [objs_length (Nat.le_refl _)] at hi
  have h5 := okTo_get h4 hi'
  unfold okO at h5
  rw [Bool.and_eq_true] at h5
  rw [objs_get (Nat.le_refl _) hi']
  exact h5.2
/-- The first entries are a pack. -/
theorem pack_cut {es : List Ent} (h : packB es = true) {k : Nat} (hk : k ≤ es.length) : packB (es.take k) = true ∧ packO (es.take k) = (packO es).take k := by
  obtain ⟨h1, h2, h3, h4⟩ := packB_iff.1 h
  have hl : (es.take k).length = k := by rw [List.length_take]; omega
  have hp : packB (es.take k) = true := packB_iff.2 ⟨by omega, h2.take_ k, fun i hi => by rw [hl] at hi; rw [dep_take h2 hk hi]; exact h3 i (by omega), by rw [hl, (objs_of_take hk (Nat.le_refl _)).2]; exact okTo_le hk (Nat.le_refl _) h4⟩
  refine ⟨hp, ?_⟩
  rw [packO_yes hp, packO_yes h, hl, (objs_of_take hk (Nat.le_refl _)).1, objs_take hk (Nat.le_refl _)]
/-- The sum. -/
def pSum (es : List Ent) : Int := if packB es = true then mixL (es.length : Int) ((packO es).map iOb) else -1
theorem pSum_range {es : List Ent} (h : packB es = true) : 0 ≤ pSum es ∧ pSum es < 991 := by
  unfold pSum
  rw [if_pos h]
  have := (packB_iff.1 h).1
  exact mixL_range (by omega) (by omega)
theorem pSum_no {es : List Ent} (h : packB es = false) : pSum es = -1 := if_neg (by rw [h]; decide)

/-- The best base among the first i entries, and the size of its operations. -/
def bestF (out : List Ent) (list : List Ob) (t : ByteArray) : Nat → Int × Nat
  | 0 => (-1, dsz (dMake ⟨#[]⟩ t))
  | i + 1 => if dsz (dMake (txtOf list (i : Int)) t) < (bestF out list t i).2 ∧ dep out i < 2 then ((i : Int), dsz (dMake (txtOf list (i : Int)) t)) else bestF out list t i
theorem bestF_yes {out : List Ent} {list : List Ob} {t : ByteArray} {i : Nat} (h1 : dsz (dMake (txtOf list (i : Int)) t) < (bestF out list t i).2) (h2 : dep out i < 2) :
    bestF out list t (i + 1) = ((i : Int), dsz (dMake (txtOf list (i : Int)) t)) := by rw [bestF, if_pos ⟨h1, h2⟩]
theorem bestF_no {out : List Ent} {list : List Ob} {t : ByteArray} {i : Nat} (h : ¬ (dsz (dMake (txtOf list (i : Int)) t) < (bestF out list t i).2 ∧ dep out i < 2)) :
    bestF out list t (i + 1) = bestF out list t i := by rw [bestF, if_neg h]
theorem bestF_is (out : List Ent) (list : List Ob) (t : ByteArray) : ∀ n, -1 ≤ (bestF out list t n).1 ∧ (bestF out list t n).1 < (n : Int) ∧ (bestF out list t n).2 = dsz (dMake (txtOf list (bestF out list t n).1) t) ∧
    (0 ≤ (bestF out list t n).1 → dep out (bestF out list t n).1.toNat < 2 ∧ (bestF out list t n).2 < dsz (dMake ⟨#[]⟩ t)) ∧ (bestF out list t n).2 ≤ dsz (dMake ⟨#[]⟩ t) ∧
    ∀ i : Nat, i < n → dep out i < 2 → (bestF out list t n).2 ≤ dsz (dMake (txtOf list (i : Int)) t) := by
  intro n
  induction n with
  | zero => exact ⟨by show (-1 : Int) ≤ -1; omega, by show (-1 : Int) < ((0 : Nat) : Int); omega, rfl, fun h => absurd (show (0 : Int) ≤ -1 from h) (by decide), Nat.le_refl _, fun i hi => absurd hi (by omega)⟩
  | succ n ih =>
    obtain ⟨a1, a2, a3, a4, a5, a6⟩ := ih
    by_cases h : dsz (dMake (txtOf list (n : Int)) t) < (bestF out list t n).2 ∧ dep out n < 2
    · rw [bestF_yes h.1 h.2]
      refine ⟨by show -1 ≤ (n : Int); omega, by show (n : Int) < _; omega, rfl, fun _ => ⟨by show dep out ((n : Int)).toNat < 2; rw [show ((n : Int)).toNat = n from by omega]; exact h.2, ?_⟩, ?_, fun i hi hd => ?_⟩
      · have := h.1; show dsz (dMake (txtOf list (n : Int)) t) < _; omega
      · have := h.1; show dsz (dMake (txtOf list (n : Int)) t) ≤ _; omega
      · show dsz (dMake (txtOf list (n : Int)) t) ≤ _
        by_cases e : i = n
        · subst e; exact Nat.le_refl _
        · have := a6 i (by omega) hd; have := h.1; omega
    · rw [bestF_no h]
      refine ⟨a1, by omega, a3, a4, a5, fun i hi hd => ?_⟩
      by_cases e : i = n
      · subst e
        rcases Nat.lt_or_ge (dsz (dMake (txtOf list (i : Int)) t)) (bestF out list t i).2 with h1 | h1
        · exact absurd ⟨h1, hd⟩ h
        · exact h1
      · exact a6 i (by omega) hd
def mkE (out : List Ent) (list : List Ob) (o : Ob) : Ent := ⟨o.kd, o.zs, (bestF out list o.s out.length).1, dMake (txtOf list (bestF out list o.s out.length).1) o.s⟩
/-- The first k entries. -/
def ents (list : List Ob) : Nat → List Ent
  | 0 => []
  | k + 1 => match list[k]? with
    | some o => ents list k ++ [mkE (ents list k) list o]
    | none => ents list k
theorem ents_succ {list : List Ob} {k : Nat} (hk : k < list.length) : ents list (k + 1) = ents list k ++ [mkE (ents list k) list list[k]] := by rw [ents, List.getElem?_eq_getElem hk]
theorem ents_length {list : List Ob} : ∀ {k : Nat}, k ≤ list.length → (ents list k).length = k := by
  intro k
  induction k with
  | zero => intro _; rfl
  | succ k ih =>
    intro h
    rw [ents_succ (by omega), List.length_append, ih (by omega)]
    rfl
theorem ents_take {list : List Ob} {j : Nat} : ∀ {k : Nat}, j ≤ k → k ≤ list.length → (ents list k).take j = ents list j := by
  intro k
  induction k with
  | zero =>
    intro h _
    obtain rfl : j = 0 := by omega
    rfl
  | succ k ih =>
    intro h hk
    by_cases e : j = k + 1
    · subst e
      rw [List.take_of_length_le (by rw [ents_length hk]; omega)]
    · rw [ents_succ (by omega), List.take_append_of_le_length (by rw [ents_length (by omega)]; omega), ih (by omega) (by omega)]
theorem ents_get {list : List Ob} {i n : Nat} (hn : n ≤ list.length) (hi : i < n) : (ents list n)[i]'(by rw [ents_length hn]; exact hi) = mkE (ents list i) list (list[i]'(by omega)) := by
  have h1 := ents_take (list := list) (j := i + 1) (k := n) (by omega) hn
  rw [ents_succ (by omega)] at h1
  have h2 : ((ents list n).take (i + 1))[i]'(by rw [List.length_take, ents_length hn]; omega) = (ents list n)[i]'(by rw [ents_length hn]; exact hi) := List.getElem_take
  rw [← h2]
  have hl := ents_length (list := list) (k := i) (by omega)
  simp only [h1]
  rw [List.getElem_append_right (by omega)]
  simp [hl]
theorem bestF_take {out : List Ent} {list : List Ob} {t : ByteArray} {m : Nat} : ∀ n, n ≤ m → bestF out (list.take m) t n = bestF out list t n := by
  intro n
  induction n with
  | zero => intro _; rfl
  | succ n ih =>
    intro h
    rw [bestF, bestF, ih (by omega), txt_take (by omega)]
theorem ents_of_take {list : List Ob} {m : Nat} (hm : m ≤ list.length) : ∀ {k : Nat}, k ≤ m → ents (list.take m) k = ents list k := by
  intro k
  induction k with
  | zero => intro _; rfl
  | succ k ih =>
    intro h
    have hl : k < (list.take m).length := by rw [List.length_take]; omega
    rw [ents_succ hl, ents_succ (by omega), ih (by omega), List.getElem_take]
    unfold mkE
    have hk := ents_length (list := list) (k := k) (by omega)
    have hb := bestF_is (ents list k) list list[k].s (ents list k).length
    rw [bestF_take _ (by omega), txt_take (by omega)]
theorem ents_bas {list : List Ob} : ∀ {k : Nat}, k ≤ list.length → Bas (ents list k) := by
  intro k
  induction k with
  | zero => intro _ i hi; exact absurd hi (Nat.not_lt_zero _)
  | succ k ih =>
    intro h
    rw [ents_succ (by omega)]
    have hb := bestF_is (ents list k) list list[k].s (ents list k).length
    exact (ih (by omega)).snoc hb.1 hb.2.1
theorem ents_dep {list : List Ob} : ∀ {k : Nat}, k ≤ list.length → ∀ i, i < k → dep (ents list k) i ≤ 2 := by
  intro k
  induction k with
  | zero => intro _ i hi; omega
  | succ k ih =>
    intro h i hi
    have hbas := ents_bas (list := list) (k := k) (by omega)
    have hlen := ents_length (list := list) (k := k) (by omega)
    have hbas2 := ents_bas (list := list) (k := k + 1) h
    by_cases e : i < k
    · rw [ents_succ (by omega), dep_snoc hbas (by omega)]
      exact ih (by omega) i e
    · have e' : i = k := by omega
      subst e'
      have hl2 := ents_length (list := list) (k := i + 1) h
      have hb := bestF_is (ents list i) list list[i].s (ents list i).length
      have hg : (ents list (i + 1))[i].b = (bestF (ents list i) list list[i].s (ents list i).length).1 := by rw [ents_get h (by omega)]; rfl
      by_cases h0 : 0 ≤ (ents list (i + 1))[i].b
      · rw [dep_step hbas2 (by omega) h0, hg]
        rw [hg] at h0
        have h5 := (hb.2.2.2.1 h0).1
        have h6 : dep (ents list (i + 1)) (bestF (ents list i) list list[i].s (ents list i).length).1.toNat = dep (ents list i) (bestF (ents list i) list list[i].s (ents list i).length).1.toNat := by
          rw [ents_succ (by omega), dep_snoc hbas (by have := hb.2.1; omega)]
        omega
      · rw [dep_base (by omega) (by omega)]; omega
/-- Can it be packed? -/
def makeB (list : List Ob) : Bool := decide (list.length ≤ 16) && list.all vOb
theorem makeB_iff {list : List Ob} : makeB list = true ↔ list.length ≤ 16 ∧ ∀ o ∈ list, vOb o = true := by
  unfold makeB
  rw [Bool.and_eq_true, decide_eq_true_eq, List.all_eq_true]
def packM (list : List Ob) : List Ent := if makeB list = true then ents list list.length else []
theorem packM_yes {list : List Ob} (h : makeB list = true) : packM list = ents list list.length := if_pos h
theorem packM_no {list : List Ob} (h : makeB list = false) : packM list = [] := if_neg (by rw [h]; decide)
theorem packM_length {list : List Ob} : (packM list).length ≤ list.length := by
  cases h : makeB list
  · rw [packM_no h]; exact Nat.zero_le _
  · rw [packM_yes h, ents_length (Nat.le_refl _)]; exact Nat.le_refl _
theorem valid_small {o : Ob} (h : vOb o = true) : o.s.size ≤ 8 := (vldB_parts h).2.2.1
theorem txt_small {list : List Ob} (h : ∀ o ∈ list, vOb o = true) (b : Int) : (txtOf list b).size ≤ 8 := by
  unfold txtOf
  by_cases h0 : 0 ≤ b
  · rw [if_pos h0]
    rcases Nat.lt_or_ge b.toNat list.length with h1 | h1
    · rw [List.getElem?_eq_getElem h1]; exact valid_small (h _ (List.getElem_mem h1))
    · rw [List.getElem?_eq_none h1]; exact Nat.zero_le _
  · rw [if_neg h0]; exact Nat.zero_le _
/-- A pack has its objects. -/
theorem ents_objs {list : List Ob} (hv : ∀ o ∈ list, vOb o = true) : ∀ {k : Nat}, k ≤ list.length → objs (ents list list.length) k = list.take k ∧ okTo (ents list list.length) k = true := by
  have hlen := ents_length (list := list) (Nat.le_refl _)
  intro k
  induction k with
  | zero => intro _; exact ⟨rfl, rfl⟩
  | succ k ih =>
    intro h
    obtain ⟨h1, h2⟩ := ih (by omega)
    have hb := bestF_is (ents list k) list list[k].s (ents list k).length
    have hlk := ents_length (list := list) (k := k) (by omega)
    have hg : (ents list list.length)[k] = mkE (ents list k) list list[k] := ents_get (Nat.le_refl _) (by omega)
    have hvk := hv _ (List.getElem_mem (show k < list.length by omega))
    have ht : txtOf (list.take k) (bestF (ents list k) list list[k].s (ents list k).length).1 = txtOf list (bestF (ents list k) list list[k].s (ents list k).length).1 := txt_take (by have := hb.2.1; omega)
    have hm := make_apply (base := txtOf list (bestF (ents list k) list list[k].s (ents list k).length).1) (text := list[k].s) (txt_small hv _) (valid_small hvk)
    have ho : mkO (list.take k) (mkE (ents list k) list list[k]) = list[k] := by
      unfold mkO mkE
      show Ob.mk _ _ (dRes (txtOf (list.take k) _) _) = _
      rw [ht, hm.2]
    rw [objs_succ (by omega), okTo_succ (by omega), h1, h2, hg, ho]
    refine ⟨(List.take_succ_eq_append_getElem (by omega)).symm, ?_⟩
    have hd : dOk (txtOf (list.take k) (mkE (ents list k) list list[k]).b) (mkE (ents list k) list list[k]).ops = true := by
      show dOk (txtOf (list.take k) (bestF (ents list k) list list[k].s (ents list k).length).1) (dMake (txtOf list (bestF (ents list k) list list[k].s (ents list k).length).1) list[k].s) = true
      rw [ht]
      exact hm.1
    unfold okO
    rw [ho, hvk, hd]
    rfl
theorem pack_made {list : List Ob} (h : makeB list = true) : packB (packM list) = true ∧ packO (packM list) = list := by
  obtain ⟨h1, h2⟩ := makeB_iff.1 h
  have hlen := ents_length (list := list) (Nat.le_refl _)
  obtain ⟨h3, h4⟩ := ents_objs h2 (Nat.le_refl _)
  rw [packM_yes h]
  have hp : packB (ents list list.length) = true := packB_iff.2 ⟨by omega, ents_bas (Nat.le_refl _), fun i hi => ents_dep (Nat.le_refl _) i (by omega), by rw [hlen]; exact h4⟩
  refine ⟨hp, ?_⟩
  rw [packO_yes hp, hlen, h3, List.take_length]
/-- Earlier entries do not depend on later ones. -/
theorem make_cut {list : List Ob} (h : makeB list = true) {k : Nat} (hk : k ≤ list.length) : makeB (list.take k) = true ∧ packM (list.take k) = (packM list).take k := by
  obtain ⟨h1, h2⟩ := makeB_iff.1 h
  have hp : makeB (list.take k) = true := makeB_iff.2 ⟨by rw [List.length_take]; omega, fun o ho => h2 o (List.mem_of_mem_take ho)⟩
  refine ⟨hp, ?_⟩
  have hl : (list.take k).length = k := by rw [List.length_take]; omega
  rw [packM_yes hp, packM_yes h, hl, ents_of_take hk (Nat.le_refl _), ents_take hk (Nat.le_refl _)]
end Go.Proofs.Ytkekbobnbipmoaa
