/-
  Plain facts on operations of deltas: which fit, what they make of a base, what they are made for. No program is named here.
-/
import Derived.Below
namespace Go.Proofs.YtdjfglebnblfkabDoor
namespace Pu

/-- An operation: where, how many bytes, its text. -/
structure Op2 where
  a : Int
  n : Int
  t : ByteArray

def bl (s : ByteArray) : List UInt8 := s.data.toList
theorem bl_size (s : ByteArray) : (bl s).length = s.size := by unfold bl; rw [Array.length_toList]; rfl
theorem bl_inj {s t : ByteArray} (h : bl s = bl t) : s = t := by
  unfold bl at h
  exact ByteArray.ext (Array.toList_inj.1 h)
theorem bl_append (s t : ByteArray) : bl (s ++ t) = bl s ++ bl t := by unfold bl; simp
theorem bl_extract (s : ByteArray) (a b : Nat) : bl (s.extract a b) = ((bl s).drop a).take (b - a) := by
  unfold bl
  rw [ByteArray.data_extract, Array.toList_extract, List.extract]
theorem bl_nil : bl ⟨#[]⟩ = [] := rfl
theorem bl_one (b : UInt8) : bl ⟨#[b]⟩ = [b] := rfl
theorem size_nil : (⟨#[]⟩ : ByteArray).size = 0 := rfl
theorem size_zero {s : ByteArray} (h : s.size = 0) : s = ⟨#[]⟩ := by
  apply bl_inj
  rw [bl_nil]
  exact List.eq_nil_of_length_eq_zero (by rw [bl_size]; exact h)
theorem app_nil (s : ByteArray) : s ++ (⟨#[]⟩ : ByteArray) = s := by apply bl_inj; rw [bl_append, bl_nil, List.append_nil]
theorem nil_app (s : ByteArray) : (⟨#[]⟩ : ByteArray) ++ s = s := by apply bl_inj; rw [bl_append, bl_nil, List.nil_append]
theorem app_app (s t u : ByteArray) : s ++ t ++ u = s ++ (t ++ u) := by apply bl_inj; simp only [bl_append, List.append_assoc]

/-! ### Which fit. -/
def opfB (b : Nat) (o : Op2) : Bool :=
  if o.n = 0 then decide (o.a = 0) && (decide (1 ≤ o.t.size) && decide (o.t.size ≤ 8))
  else decide (o.t.size = 0) && (decide (0 ≤ o.a) && (decide (0 < o.n) && decide (o.a + o.n ≤ b)))
theorem opf_ins {b : Nat} {o : Op2} (h : o.n = 0) : opfB b o = true ↔ o.a = 0 ∧ 1 ≤ o.t.size ∧ o.t.size ≤ 8 := by
  unfold opfB; rw [if_pos h]; simp only [Bool.and_eq_true, decide_eq_true_eq]
theorem opf_cop {b : Nat} {o : Op2} (h : ¬ o.n = 0) : opfB b o = true ↔ o.t.size = 0 ∧ 0 ≤ o.a ∧ 0 < o.n ∧ o.a + o.n ≤ b := by
  unfold opfB; rw [if_neg h]; simp only [Bool.and_eq_true, decide_eq_true_eq]
/-- Whatever fits: its copy lies within the base, and its text is short. -/
theorem opf_in {b : Nat} {o : Op2} (h : opfB b o = true) : 0 ≤ o.a ∧ 0 ≤ o.n ∧ o.a + o.n ≤ b ∧ o.t.size ≤ 8 := by
  by_cases h0 : o.n = 0
  · have := (opf_ins h0).1 h; omega
  · have := (opf_cop h0).1 h; omega
def opPart (base : ByteArray) (o : Op2) : ByteArray := o.t ++ base.extract o.a.toNat (o.a + o.n).toNat
theorem part_ins {base : ByteArray} {o : Op2} (h0 : o.n = 0) (_ha : 0 ≤ o.a) : opPart base o = o.t := by
  unfold opPart
  have e : base.extract o.a.toNat (o.a + o.n).toNat = ⟨#[]⟩ := by
    apply bl_inj; rw [bl_extract, bl_nil, h0, Int.add_zero, Nat.sub_self, List.take_zero]
  rw [e, app_nil]
theorem part_cop {base : ByteArray} {o : Op2} (h : o.t.size = 0) : opPart base o = base.extract o.a.toNat (o.a + o.n).toNat := by
  unfold opPart
  rw [size_zero h, nil_app]
theorem part_size {base : ByteArray} {o : Op2} (h : opfB base.size o = true) (hb : base.size ≤ 8) : (opPart base o).size ≤ 8 := by
  by_cases h0 : o.n = 0
  · have := (opf_ins h0).1 h
    rw [part_ins h0 (by omega)]; omega
  · have := (opf_cop h0).1 h
    rw [part_cop this.1, ← bl_size, bl_extract, List.length_take, List.length_drop, bl_size]; omega

def dApp (base : ByteArray) (os : List Op2) : ByteArray := os.foldl (fun s o => s ++ opPart base o) ⟨#[]⟩
theorem dApp_snoc (base : ByteArray) (os : List Op2) (o : Op2) : dApp base (os ++ [o]) = dApp base os ++ opPart base o := by
  unfold dApp; rw [List.foldl_append]; rfl
theorem dApp_succ (base : ByteArray) {os : List Op2} {k : Nat} (hk : k < os.length) : dApp base (os.take (k + 1)) = dApp base (os.take k) ++ opPart base os[k] := by
  rw [List.take_succ_eq_append_getElem hk, dApp_snoc]
theorem dApp_append (base : ByteArray) (os ps : List Op2) : dApp base (os ++ ps) = dApp base os ++ dApp base ps := by
  have key : ∀ (ps : List Op2) (s : ByteArray), ps.foldl (fun s o => s ++ opPart base o) s = s ++ ps.foldl (fun s o => s ++ opPart base o) ⟨#[]⟩ := by
    intro ps
    induction ps with
    | nil => intro s; simp only [List.foldl_nil, app_nil]
    | cons p ps ih => intro s; simp only [List.foldl_cons]; rw [ih, ih (⟨#[]⟩ ++ opPart base p), nil_app, app_app]
  unfold dApp
  rw [List.foldl_append, key]
def fitB (base : ByteArray) (os : List Op2) : Bool := os.all (opfB base.size)
theorem fit_get {base : ByteArray} {os : List Op2} (h : fitB base os = true) : ∀ o ∈ os, opfB base.size o = true := List.all_eq_true.1 h
theorem fit_no {base : ByteArray} {os : List Op2} {k : Nat} (hk : k < os.length) (h : opfB base.size os[k] = false) : fitB base os = false := by
  cases hf : fitB base os
  · rfl
  · have := fit_get hf _ (List.getElem_mem hk); rw [h] at this; cases this
theorem fit_yes {base : ByteArray} {os : List Op2} (h : ∀ i (hi : i < os.length), opfB base.size os[i] = true) : fitB base os = true := by
  refine List.all_eq_true.2 fun o ho => ?_
  obtain ⟨i, hi, rfl⟩ := List.mem_iff_getElem.1 ho
  exact h i hi
theorem dApp_le {base : ByteArray} (hb : base.size ≤ 8) : ∀ {os : List Op2}, (∀ o ∈ os, opfB base.size o = true) → (dApp base os).size ≤ 8 * os.length := by
  intro os
  induction os with
  | nil => intro _; exact Nat.le_refl _
  | cons o os ih =>
    intro h
    have h1 := part_size (h o (List.mem_cons_self ..)) hb
    have h2 := ih fun p hp => h p (List.mem_cons_of_mem _ hp)
    have e : dApp base (o :: os) = dApp base [o] ++ dApp base os := dApp_append base [o] os
    have e1 : dApp base [o] = opPart base o := by show ⟨#[]⟩ ++ opPart base o = _; rw [nil_app]
    rw [e, e1, ByteArray.size_append, List.length_cons]
    omega
def dOk (base : ByteArray) (os : List Op2) : Bool := decide (base.size ≤ 8) && (decide (os.length ≤ 8) && (fitB base os && decide ((dApp base os).size ≤ 8)))
def dRes (base : ByteArray) (os : List Op2) : ByteArray := if dOk base os = true then dApp base os else ⟨#[]⟩
theorem dOk_a {base : ByteArray} {os : List Op2} (h : ¬ base.size ≤ 8) : dOk base os = false := by unfold dOk; rw [decide_eq_false h]; rfl
theorem dOk_b {base : ByteArray} {os : List Op2} (h : ¬ os.length ≤ 8) : dOk base os = false := by unfold dOk; rw [decide_eq_false h]; simp
theorem dOk_c {base : ByteArray} {os : List Op2} (h : fitB base os = false) : dOk base os = false := by unfold dOk; rw [h]; simp
theorem dOk_d {base : ByteArray} {os : List Op2} (h : ¬ (dApp base os).size ≤ 8) : dOk base os = false := by unfold dOk; rw [decide_eq_false h]; simp
theorem dOk_y {base : ByteArray} {os : List Op2} (h1 : base.size ≤ 8) (h2 : os.length ≤ 8) (h3 : fitB base os = true) (h4 : (dApp base os).size ≤ 8) : dOk base os = true := by
  unfold dOk; rw [decide_eq_true h1, decide_eq_true h2, h3, decide_eq_true h4]; rfl
theorem dOk_parts {base : ByteArray} {os : List Op2} (h : dOk base os = true) : base.size ≤ 8 ∧ os.length ≤ 8 ∧ fitB base os = true ∧ (dApp base os).size ≤ 8 := by
  unfold dOk at h
  simpa only [Bool.and_eq_true, decide_eq_true_eq] using h
theorem dRes_no {base : ByteArray} {os : List Op2} (h : dOk base os = false) : dRes base os = ⟨#[]⟩ := by unfold dRes; rw [h]; rfl
theorem dRes_yes {base : ByteArray} {os : List Op2} (h : dOk base os = true) : dRes base os = dApp base os := by unfold dRes; rw [if_pos h]

/-! ### Sizes. -/
def tsz (os : List Op2) (k : Nat) : Nat := ((os.take k).map fun o => o.t.size).sum
def dsz (os : List Op2) : Nat := os.length + tsz os os.length
theorem tsz_succ {os : List Op2} {k : Nat} (hk : k < os.length) : tsz os (k + 1) = tsz os k + os[k].t.size := by
  unfold tsz
  rw [List.take_succ_eq_append_getElem hk, List.map_append, List.sum_append]
  simp
theorem tsz_zero (os : List Op2) : tsz os 0 = 0 := rfl
theorem tsz_le {os : List Op2} : ∀ {k : Nat}, k ≤ os.length → tsz os k ≤ tsz os os.length := by
  have key : ∀ d k, k + d = os.length → tsz os k ≤ tsz os os.length := by
    intro d
    induction d with
    | zero => intro k h; rw [show k = os.length from by omega]; exact Nat.le_refl _
    | succ d ih => intro k h; have := ih (k + 1) (by omega); rw [tsz_succ (by omega)] at this; omega
  intro k hk
  exact key (os.length - k) k (by omega)
theorem dsz_nil : dsz [] = 0 := rfl
theorem dsz_all (os : List Op2) : dsz os = os.length + (os.map fun o => o.t.size).sum := by unfold dsz tsz; rw [List.take_length]
theorem dsz_append (os ps : List Op2) : dsz (os ++ ps) = dsz os + dsz ps := by
  simp only [dsz_all, List.length_append, List.map_append, List.sum_append]; omega
theorem dsz_one (o : Op2) : dsz [o] = 1 + o.t.size := by simp [dsz_all]
theorem dsz_cut (os : List Op2) (k : Nat) : dsz (os.take k) + dsz (os.drop k) = dsz os := by rw [← dsz_append, List.take_append_drop]
theorem dsz_ge (os : List Op2) : os.length ≤ dsz os := by unfold dsz; omega
theorem tsz_ge {os : List Op2} {i : Nat} (hi : i < os.length) : os[i].t.size ≤ tsz os os.length := by
  have h1 := tsz_succ hi
  have h2 := tsz_le (os := os) (k := i + 1) (by omega)
  omega

/-! ### What the laws on applying ask. -/
theorem app_cut {base : ByteArray} {os : List Op2} (h : dOk base os = true) (k : Nat) : dOk base (os.take k) = true ∧ dOk base (os.drop k) = true ∧ dRes base (os.take k) ++ dRes base (os.drop k) = dRes base os := by
  obtain ⟨h1, h2, h3, h4⟩ := dOk_parts h
  have e : dApp base (os.take k) ++ dApp base (os.drop k) = dApp base os := by rw [← dApp_append, List.take_append_drop]
  have es := congrArg ByteArray.size e
  rw [ByteArray.size_append] at es
  have ht : dOk base (os.take k) = true := dOk_y h1 (by rw [List.length_take]; omega) (List.all_eq_true.2 fun o ho => fit_get h3 o (List.mem_of_mem_take ho)) (by omega)
  have hd : dOk base (os.drop k) = true := dOk_y h1 (by rw [List.length_drop]; omega) (List.all_eq_true.2 fun o ho => fit_get h3 o (List.mem_of_mem_drop ho)) (by omega)
  exact ⟨ht, hd, by rw [dRes_yes ht, dRes_yes hd, dRes_yes h, e]⟩
theorem app_none {base : ByteArray} (h : base.size ≤ 8) : dOk base [] = true ∧ dRes base [] = ⟨#[]⟩ := by
  have h1 : dOk base [] = true := dOk_y h (by simp) rfl (by show 0 ≤ 8; omega)
  exact ⟨h1, by rw [dRes_yes h1]; rfl⟩
theorem app_fits {base : ByteArray} {os : List Op2} (h : dOk base os = true) : (∀ i (hi : i < os.length), 0 ≤ os[i].a ∧ 0 ≤ os[i].n ∧ os[i].a + os[i].n ≤ base.size) ∧ (dRes base os).size ≤ 8 := by
  obtain ⟨h1, h2, h3, h4⟩ := dOk_parts h
  refine ⟨fun i hi => ?_, by rw [dRes_yes h]; exact h4⟩
  have := opf_in (fit_get h3 _ (List.getElem_mem hi))
  omega

/-! ### What operations are made. -/
/-- How many first bytes are the same. -/
def cpl : List UInt8 → List UInt8 → Nat
  | a :: as, b :: bs => if a = b then cpl as bs + 1 else 0
  | _, _ => 0
theorem cpl_le : ∀ (a b : List UInt8), cpl a b ≤ a.length ∧ cpl a b ≤ b.length := by
  intro a
  induction a with
  | nil => intro b; simp [cpl]
  | cons x a ih =>
    intro b
    cases b with
    | nil => simp [cpl]
    | cons y b =>
      unfold cpl
      have := ih b
      split <;> simp only [List.length_cons] <;> omega
theorem cpl_take : ∀ (a b : List UInt8), a.take (cpl a b) = b.take (cpl a b) := by
  intro a
  induction a with
  | nil => intro b; simp [cpl]
  | cons x a ih =>
    intro b
    cases b with
    | nil => simp [cpl]
    | cons y b =>
      unfold cpl
      split
      · rename_i h; subst h; rw [List.take_succ_cons, List.take_succ_cons, ih]
      · rfl
theorem cpl_self : ∀ (a : List UInt8), cpl a a = a.length := by
  intro a
  induction a with
  | nil => rfl
  | cons x a ih => unfold cpl; rw [if_pos rfl, ih]; rfl
/-- Counting goes on while the bytes are the same. -/
theorem cpl_of {a b : List UInt8} {k : Nat} (h : a.take k = b.take k) (ha : k ≤ a.length) (hb : k ≤ b.length) : cpl a b = k + cpl (a.drop k) (b.drop k) := by
  induction k generalizing a b with
  | zero => simp
  | succ k ih =>
    cases a with
    | nil => simp at ha
    | cons x a =>
      cases b with
      | nil => simp at hb
      | cons y b =>
        simp only [List.take_succ_cons, List.cons.injEq] at h
        rw [List.drop_succ_cons, List.drop_succ_cons, show cpl (x :: a) (y :: b) = cpl a b + 1 from by rw [cpl, if_pos h.1], ih h.2 (by simpa using ha) (by simpa using hb)]
        omega
theorem cpl_stop {a b : List UInt8} {k : Nat} (h : a.take k = b.take k) (ha : k ≤ a.length) (hb : k ≤ b.length) (hs : ¬ (∃ (h1 : k < a.length) (h2 : k < b.length), a[k] = b[k])) : cpl a b = k := by
  rw [cpl_of h ha hb]
  have : cpl (a.drop k) (b.drop k) = 0 := by
    by_cases h1 : k < a.length
    · by_cases h2 : k < b.length
      · rw [List.drop_eq_getElem_cons h1, List.drop_eq_getElem_cons h2]
        unfold cpl
        rw [if_neg fun e => hs ⟨h1, h2, e⟩]
      · rw [List.drop_of_length_le (l := b) (by omega)]
        cases a.drop k <;> rfl
    · rw [List.drop_of_length_le (l := a) (by omega)]; rfl
  omega
theorem take_more {a b : List UInt8} {k : Nat} (h : a.take k = b.take k) (h1 : k < a.length) (h2 : k < b.length) (e : a[k] = b[k]) : a.take (k + 1) = b.take (k + 1) := by
  rw [List.take_succ_eq_append_getElem h1, List.take_succ_eq_append_getElem h2, h, e]

/-- The first longest part among the first places. -/
def bestN (B X : List UInt8) : Nat → Nat × Nat
  | 0 => (0, 0)
  | i + 1 => if (bestN B X i).2 < cpl (B.drop i) X then (i, cpl (B.drop i) X) else bestN B X i
def best (B X : List UInt8) : Nat × Nat := bestN B X B.length
theorem bestN_up {B X : List UInt8} {i : Nat} (h : (bestN B X i).2 < cpl (B.drop i) X) : bestN B X (i + 1) = (i, cpl (B.drop i) X) := by rw [bestN, if_pos h]
theorem bestN_as {B X : List UInt8} {i : Nat} (h : ¬ (bestN B X i).2 < cpl (B.drop i) X) : bestN B X (i + 1) = bestN B X i := by rw [bestN, if_neg h]
theorem bestN_is (B X : List UInt8) : ∀ i, i ≤ B.length → (bestN B X i).1 + (bestN B X i).2 ≤ B.length ∧ (bestN B X i).2 ≤ X.length ∧ (B.drop (bestN B X i).1).take (bestN B X i).2 = X.take (bestN B X i).2 := by
  intro i
  induction i with
  | zero => intro _; exact ⟨Nat.zero_le _, Nat.zero_le _, by simp [bestN]⟩
  | succ i ih =>
    intro hi
    have h0 := ih (by omega)
    have h1 := cpl_le (B.drop i) X
    rw [List.length_drop] at h1
    by_cases h : (bestN B X i).2 < cpl (B.drop i) X
    · rw [bestN_up h]
      exact ⟨by show i + cpl (B.drop i) X ≤ B.length; omega, h1.2, cpl_take _ _⟩
    · rw [bestN_as h]; exact h0
theorem best_is (B X : List UInt8) : (best B X).1 + (best B X).2 ≤ B.length ∧ (best B X).2 ≤ X.length ∧ (B.drop (best B X).1).take (best B X).2 = X.take (best B X).2 := bestN_is B X _ (Nat.le_refl _)
theorem best_nil (X : List UInt8) : best [] X = (0, 0) := rfl
theorem best_self (B : List UInt8) (h : 0 < B.length) : best B B = (0, B.length) := by
  have key : ∀ i, i < B.length → bestN B B (i + 1) = (0, B.length) := by
    intro i
    induction i with
    | zero =>
      intro _
      have : (bestN B B 0).2 < cpl (B.drop 0) B := by rw [List.drop_zero, cpl_self]; exact h
      rw [bestN_up this, List.drop_zero, cpl_self]
    | succ i ih =>
      intro hi
      have h0 := ih (by omega)
      have h1 := (cpl_le (B.drop (i + 1)) B).2
      rw [bestN_as (by rw [h0]; show ¬ B.length < _; omega), h0]
  have := key (B.length - 1) (by omega)
  unfold best
  rwa [show B.length - 1 + 1 = B.length from by omega] at this

def addB (os : List Op2) (b : UInt8) : List Op2 :=
  match os.getLast? with
  | some o => if o.n = 0 then os.dropLast ++ [⟨o.a, o.n, o.t ++ ⟨#[b]⟩⟩] else os ++ [⟨0, 0, ⟨#[b]⟩⟩]
  | none => os ++ [⟨0, 0, ⟨#[b]⟩⟩]
theorem addB_nil (b : UInt8) : addB [] b = [⟨0, 0, ⟨#[b]⟩⟩] := rfl
theorem addB_ins {os : List Op2} {o : Op2} (b : UInt8) (h : o.n = 0) : addB (os ++ [o]) b = os ++ [⟨o.a, o.n, o.t ++ ⟨#[b]⟩⟩] := by
  unfold addB
  simp [h]
theorem addB_cop {os : List Op2} {o : Op2} (b : UInt8) (h : ¬ o.n = 0) : addB (os ++ [o]) b = os ++ [o] ++ [⟨0, 0, ⟨#[b]⟩⟩] := by
  unfold addB
  simp [h]
theorem snoc_cases (os : List Op2) : os = [] ∨ ∃ ps o, os = ps ++ [o] := by
  rcases List.eq_nil_or_concat os with h | ⟨ps, o, h⟩
  · exact .inl h
  · exact .inr ⟨ps, o, by rw [h, List.concat_eq_append]⟩

def dMk (B T : List UInt8) : Nat → Nat → List Op2 → List Op2
  | 0, _, acc => acc
  | f + 1, k, acc =>
    if k < T.length then
      if 2 ≤ (best B (T.drop k)).2 then dMk B T f (k + (best B (T.drop k)).2) (acc ++ [⟨(best B (T.drop k)).1, (best B (T.drop k)).2, ⟨#[]⟩⟩])
      else dMk B T f (k + 1) (addB acc (T.getD k 0))
    else acc
theorem dMk_end {B T : List UInt8} {k : Nat} (f : Nat) (acc : List Op2) (h : ¬ k < T.length) : dMk B T f k acc = acc := by
  cases f with
  | zero => rfl
  | succ f => rw [dMk, if_neg h]
theorem dMk_cop {B T : List UInt8} {f k : Nat} (acc : List Op2) (h : k < T.length) (h2 : 2 ≤ (best B (T.drop k)).2) :
    dMk B T (f + 1) k acc = dMk B T f (k + (best B (T.drop k)).2) (acc ++ [⟨(best B (T.drop k)).1, (best B (T.drop k)).2, ⟨#[]⟩⟩]) := by rw [dMk, if_pos h, if_pos h2]
theorem dMk_ins {B T : List UInt8} {f k : Nat} (acc : List Op2) (h : k < T.length) (h2 : ¬ 2 ≤ (best B (T.drop k)).2) :
    dMk B T (f + 1) k acc = dMk B T f (k + 1) (addB acc (T.getD k 0)) := by rw [dMk, if_pos h, if_neg h2]
def dMake (base text : ByteArray) : List Op2 := if base.size ≤ 8 ∧ text.size ≤ 8 then dMk (bl base) (bl text) text.size 0 [] else []
theorem dMake_no {base text : ByteArray} (h : ¬ (base.size ≤ 8 ∧ text.size ≤ 8)) : dMake base text = [] := if_neg h
theorem dMake_yes {base text : ByteArray} (h : base.size ≤ 8) (h2 : text.size ≤ 8) : dMake base text = dMk (bl base) (bl text) text.size 0 [] := if_pos ⟨h, h2⟩

/-- What has been made after k bytes. -/
def lastIns (os : List Op2) : Nat := match os.getLast? with
  | some o => if o.n = 0 then 1 else 0
  | none => 0
structure Inv (base text : ByteArray) (k : Nat) (os : List Op2) : Prop where
  fit : ∀ o ∈ os, opfB base.size o = true
  app : bl (dApp base os) = (bl text).take k
  few : os.length ≤ k
  size : dsz os ≤ k + lastIns os
  some_ : 0 < k → os ≠ []
  two : ∀ o ∈ os, o.n ≠ 1
  next : ∀ i (h : i + 1 < os.length), ¬ (os[i].n = 0 ∧ os[i + 1].n = 0)
theorem last_snoc (os : List Op2) (o : Op2) : lastIns (os ++ [o]) = if o.n = 0 then 1 else 0 := by unfold lastIns; simp
theorem last_le (os : List Op2) : lastIns os ≤ 1 := by unfold lastIns; split; split <;> omega; omega
theorem Inv.nil_ (base text : ByteArray) : Inv base text 0 [] :=
  ⟨fun o h => (by cases h), rfl, Nat.le_refl _, Nat.zero_le _, fun h => absurd h (by omega), fun o h => (by cases h), fun i h => absurd h (by simp)⟩
theorem next_snoc {os : List Op2} {o : Op2} (h : ∀ i (h : i + 1 < os.length), ¬ (os[i].n = 0 ∧ os[i + 1].n = 0)) (hl : o.n = 0 → lastIns os = 0) : ∀ i (h : i + 1 < (os ++ [o]).length), ¬ ((os ++ [o])[i].n = 0 ∧ (os ++ [o])[i + 1].n = 0) := by
  intro i hi
  rw [List.length_append, List.length_singleton] at hi
  by_cases e : i + 1 < os.length
  · rw [List.getElem_append_left (by omega), List.getElem_append_left e]; exact h i e
  · have ei : i + 1 = os.length := by omega
    rintro ⟨h1, h2⟩
    rw [List.getElem_append_left (by omega)] at h1
    rw [List.getElem_append_right (by omega)] at h2
    simp only [List.getElem_singleton] at h2
    have h3 := hl h2
    rcases snoc_cases os with rfl | ⟨ps, p, rfl⟩
    · simp at ei
    · rw [last_snoc] at h3
      rw [List.length_append, List.length_singleton] at ei
      rw [List.getElem_append_right (by omega)] at h1
      simp only [List.getElem_singleton] at h1
      rw [if_pos h1] at h3
      omega
theorem Inv.copy {base text : ByteArray} {k : Nat} {os : List Op2} (h : Inv base text k os) (h2 : 2 ≤ (best (bl base) ((bl text).drop k)).2) :
    Inv base text (k + (best (bl base) ((bl text).drop k)).2) (os ++ [⟨(best (bl base) ((bl text).drop k)).1, (best (bl base) ((bl text).drop k)).2, ⟨#[]⟩⟩]) := by
  obtain ⟨b1, b2, b3⟩ := best_is (bl base) ((bl text).drop k)
  generalize hr : best (bl base) ((bl text).drop k) = r at *
  obtain ⟨a, n⟩ := r
  simp only at b1 b2 b3 h2 ⊢
  rw [bl_size] at b1
  rw [List.length_drop, bl_size] at b2
  have hn : ¬ ((n : Nat) : Int) = 0 := by omega
  refine ⟨fun o ho => ?_, ?_, ?_, ?_, fun _ => by simp, fun o ho => ?_, next_snoc h.next fun e => absurd e hn⟩
  · rcases List.mem_append.1 ho with ho | ho
    · exact h.fit o ho
    · rw [List.mem_singleton.1 ho]
      exact (opf_cop hn).2 ⟨rfl, by show (0 : Int) ≤ (a : Int); omega, by show (0 : Int) < (n : Int); omega, by show (a : Int) + (n : Int) ≤ _; omega⟩
  · rw [dApp_snoc, bl_append, h.app, part_cop rfl, bl_extract]
    show _ ++ List.take (((a : Int) + (n : Int)).toNat - (a : Int).toNat) (List.drop (a : Int).toNat (bl base)) = _
    rw [show ((a : Int) + (n : Int)).toNat - (a : Int).toNat = n from by omega, Int.toNat_natCast, b3, List.take_add]
  · rw [List.length_append, List.length_singleton]; have := h.few; omega
  · rw [dsz_append, dsz_one, last_snoc, if_neg hn]
    have h1 := h.size
    have h3 := last_le os
    show dsz os + (1 + 0) ≤ _
    omega
  · rcases List.mem_append.1 ho with ho | ho
    · exact h.two o ho
    · rw [List.mem_singleton.1 ho]; show ((n : Nat) : Int) ≠ 1; omega
theorem take_one {text : ByteArray} {k : Nat} (hk : k < text.size) : (bl text).take (k + 1) = (bl text).take k ++ [(bl text).getD k 0] := by
  have hk' : k < (bl text).length := by rw [bl_size]; exact hk
  rw [List.take_succ_eq_append_getElem hk']
  simp [List.getD, List.getElem?_eq_getElem hk']
theorem Inv.insert {base text : ByteArray} {k : Nat} {os : List Op2} (h : Inv base text k os) (ht : text.size ≤ 8) (hk : k < text.size) : Inv base text (k + 1) (addB os ((bl text).getD k 0)) := by
  have t1 := take_one hk
  generalize (bl text).getD k 0 = b at *
  have hnew : (lastIns os = 0) → Inv base text (k + 1) (os ++ [⟨0, 0, ⟨#[b]⟩⟩]) := by
    intro hl
    refine ⟨fun o ho => ?_, ?_, ?_, ?_, fun _ => by simp, fun o ho => ?_, next_snoc h.next fun _ => hl⟩
    · rcases List.mem_append.1 ho with ho | ho
      · exact h.fit o ho
      · rw [List.mem_singleton.1 ho]
        exact (opf_ins rfl).2 ⟨rfl, by show 1 ≤ 1; omega, by show 1 ≤ 8; omega⟩
    · rw [dApp_snoc, bl_append, h.app, part_ins rfl (by show (0 : Int) ≤ 0; omega), t1]; rfl
    · rw [List.length_append, List.length_singleton]; have := h.few; omega
    · rw [dsz_append, dsz_one, last_snoc, if_pos rfl]
      have h1 := h.size
      show dsz os + (1 + 1) ≤ _
      omega
    · rcases List.mem_append.1 ho with ho | ho
      · exact h.two o ho
      · rw [List.mem_singleton.1 ho]; show (0 : Int) ≠ 1; omega
  rcases snoc_cases os with rfl | ⟨ps, o, rfl⟩
  · exact hnew rfl
  · by_cases hn : o.n = 0
    · rw [addB_ins b hn]
      have ho := (opf_ins hn).1 (h.fit o (by simp))
      have happ := h.app
      rw [dApp_snoc, bl_append, part_ins hn (by omega)] at happ
      have hlen := congrArg List.length happ
      rw [List.length_append, List.length_take, bl_size, bl_size, bl_size] at hlen
      refine ⟨fun p hp => ?_, ?_, ?_, ?_, fun _ => by simp, fun p hp => ?_, ?_⟩
      · rcases List.mem_append.1 hp with hp | hp
        · exact h.fit p (by simp [hp])
        · rw [List.mem_singleton.1 hp]
          have e1 : (o.t ++ (⟨#[b]⟩ : ByteArray)).size = o.t.size + 1 := by rw [ByteArray.size_append]; rfl
          exact (opf_ins (o := ⟨o.a, o.n, o.t ++ ⟨#[b]⟩⟩) hn).2 ⟨ho.1, by show 1 ≤ (o.t ++ (⟨#[b]⟩ : ByteArray)).size; omega, by show (o.t ++ (⟨#[b]⟩ : ByteArray)).size ≤ 8; omega⟩
      · rw [dApp_snoc, bl_append, part_ins (o := ⟨o.a, o.n, o.t ++ ⟨#[b]⟩⟩) hn (by show 0 ≤ o.a; omega), t1, ← happ]
        show _ ++ bl (o.t ++ ⟨#[b]⟩) = _
        rw [bl_append, bl_one, List.append_assoc]
      · have := h.few; rw [List.length_append, List.length_singleton] at this ⊢; omega
      · have h1 := h.size
        rw [dsz_append, dsz_one, last_snoc, if_pos hn] at h1
        rw [dsz_append, dsz_one, last_snoc, if_pos hn]
        show dsz ps + (1 + (o.t ++ (⟨#[b]⟩ : ByteArray)).size) ≤ _
        rw [ByteArray.size_append]
        show dsz ps + (1 + (o.t.size + 1)) ≤ _
        omega
      · rcases List.mem_append.1 hp with hp | hp
        · exact h.two p (by simp [hp])
        · rw [List.mem_singleton.1 hp]; show o.n ≠ 1; omega
      · intro i hi
        have hn2 := h.next i (by simpa using hi)
        rw [List.length_append, List.length_singleton] at hi
        by_cases e : i + 1 < ps.length
        · rw [List.getElem_append_left (by omega), List.getElem_append_left e] at hn2 ⊢; exact hn2
        · rw [List.getElem_append_left (by omega), List.getElem_append_right (by omega)] at hn2 ⊢
          simpa using hn2
    · rw [addB_cop b hn]
      exact hnew (by rw [last_snoc, if_neg hn])
theorem Inv.all {base text : ByteArray} (ht : text.size ≤ 8) : ∀ (f k : Nat) (os : List Op2), Inv base text k os → k ≤ text.size → text.size ≤ k + f → Inv base text text.size (dMk (bl base) (bl text) f k os) := by
  intro f
  induction f with
  | zero => intro k os h h1 h2; obtain rfl : k = text.size := (by omega); exact h
  | succ f ih =>
    intro k os h h1 h2
    have hlen : (bl text).length = text.size := bl_size text
    by_cases hk : k < text.size
    · have hk' : k < (bl text).length := by omega
      by_cases hc : 2 ≤ (best (bl base) ((bl text).drop k)).2
      · rw [dMk_cop os hk' hc]
        have hr := (best_is (bl base) ((bl text).drop k)).2.1
        rw [List.length_drop] at hr
        exact ih _ _ (h.copy hc) (by omega) (by omega)
      · rw [dMk_ins os hk' hc]
        exact ih _ _ (h.insert ht hk) (by omega) (by omega)
    · rw [dMk_end _ _ (by omega)]
      obtain rfl : k = text.size := by omega
      exact h
theorem make_inv {base text : ByteArray} (hb : base.size ≤ 8) (ht : text.size ≤ 8) : Inv base text text.size (dMake base text) := by
  rw [dMake_yes hb ht]
  exact Inv.all ht _ _ _ (Inv.nil_ base text) (Nat.zero_le _) (by omega)

/-! ### What the laws on making ask. -/
theorem make_apply {base text : ByteArray} (hb : base.size ≤ 8) (ht : text.size ≤ 8) : dOk base (dMake base text) = true ∧ dRes base (dMake base text) = text := by
  have h := make_inv hb ht
  have e : dApp base (dMake base text) = text := by
    apply bl_inj; rw [h.app, List.take_of_length_le (by rw [bl_size]; exact Nat.le_refl _)]
  have hok : dOk base (dMake base text) = true := dOk_y hb (by have := h.few; omega) (List.all_eq_true.2 h.fit) (by rw [e]; exact ht)
  exact ⟨hok, by rw [dRes_yes hok, e]⟩
theorem make_size {base text : ByteArray} (hb : base.size ≤ 8) (ht : text.size ≤ 8) : dsz (dMake base text) ≤ text.size + 1 ∧ (dsz (dMake base text) = 0 ↔ text.size = 0) := by
  have h := make_inv hb ht
  have h1 := h.size
  have h2 := last_le (dMake base text)
  refine ⟨by omega, fun e => ?_, fun e => ?_⟩
  · have := dsz_ge (dMake base text)
    rcases Nat.eq_zero_or_pos text.size with h0 | h0
    · exact h0
    · exact absurd (List.eq_nil_of_length_eq_zero (by omega)) (h.some_ h0)
  · have := h.few
    rw [List.eq_nil_of_length_eq_zero (l := dMake base text) (by omega), dsz_nil]
theorem make_self {base : ByteArray} (h : 2 ≤ base.size) (hb : base.size ≤ 8) : dMake base base = [⟨0, base.size, ⟨#[]⟩⟩] := by
  have hl : (bl base).length = base.size := bl_size base
  rw [dMake_yes hb hb, show base.size = base.size - 1 + 1 from by omega]
  have hs : best (bl base) ((bl base).drop 0) = (0, base.size) := by rw [List.drop_zero, best_self _ (by omega), hl]
  rw [dMk_cop [] (by omega) (by rw [hs]; exact h), hs, dMk_end _ _ (by show ¬ 0 + base.size < _; omega), show base.size - 1 + 1 = base.size from by omega]
  rfl
theorem make_none {text : ByteArray} (h : ¬ text.size = 0) (ht : text.size ≤ 8) : dMake ⟨#[]⟩ text = [⟨0, 0, text⟩] := by
  have hl : (bl text).length = text.size := bl_size text
  have key : ∀ (f k : Nat) (s : ByteArray), bl s = (bl text).take k → 0 < k → k ≤ text.size → text.size ≤ k + f → dMk [] (bl text) f k [⟨0, 0, s⟩] = [⟨0, 0, text⟩] := by
    intro f
    induction f with
    | zero =>
      intro k s hs h0 h1 h2
      obtain rfl : k = text.size := by omega
      rw [List.take_of_length_le (by omega)] at hs
      rw [bl_inj hs]; rfl
    | succ f ih =>
      intro k s hs h0 h1 h2
      by_cases hk : k < text.size
      · rw [dMk_ins _ (by omega) (by rw [best_nil]; decide)]
        have e : addB [⟨0, 0, s⟩] ((bl text).getD k 0) = [⟨0, 0, s ++ ⟨#[(bl text).getD k 0]⟩⟩] := addB_ins (os := []) (o := ⟨0, 0, s⟩) _ rfl
        rw [e]
        exact ih _ _ (by rw [bl_append, hs, bl_one, take_one hk]) (by omega) (by omega) (by omega)
      · rw [dMk_end _ _ (by omega)]
        obtain rfl : k = text.size := by omega
        rw [List.take_of_length_le (by omega)] at hs
        rw [bl_inj hs]
  rw [dMake_yes (by show 0 ≤ 8; omega) ht, show text.size = text.size - 1 + 1 from by omega, show bl ⟨#[]⟩ = [] from rfl, dMk_ins [] (by omega) (by rw [best_nil]; decide), addB_nil]
  have e := key (text.size - 1) 1 ⟨#[(bl text).getD 0 0]⟩ (by rw [bl_one, take_one (by omega)]; rfl) (by omega) (by omega) (by omega)
  exact e
theorem make_shape (base text : ByteArray) : (∀ i (h : i < (dMake base text).length), (dMake base text)[i].n ≠ 1 ∧ 0 ≤ (dMake base text)[i].n ∧ (0 < (dMake base text)[i].n → (dMake base text)[i].t.size = 0)) ∧
    (∀ i (h : i + 1 < (dMake base text).length), ¬ ((dMake base text)[i].n = 0 ∧ (dMake base text)[i + 1].n = 0)) := by
  by_cases hh : base.size ≤ 8 ∧ text.size ≤ 8
  · have h := make_inv hh.1 hh.2
    refine ⟨fun i hi => ?_, h.next⟩
    have hf := h.fit _ (List.getElem_mem hi)
    refine ⟨h.two _ (List.getElem_mem hi), (opf_in hf).2.1, fun hp => ((opf_cop (by omega)).1 hf).1⟩
  · have e := dMake_no hh
    refine ⟨fun i hi => ?_, fun i hi => ?_⟩
    · exfalso; rw [e] at hi; simp at hi
    · exfalso; rw [e] at hi; simp at hi
theorem make_few (base text : ByteArray) : (dMake base text).length ≤ 8 ∧ (dMake base text).length ≤ text.size := by
  by_cases hh : base.size ≤ 8 ∧ text.size ≤ 8
  · have h := (make_inv hh.1 hh.2).few; omega
  · rw [dMake_no hh]; simp
theorem make_fits (base text : ByteArray) : ∀ o ∈ dMake base text, 0 ≤ o.a ∧ o.a ≤ 8 ∧ 0 ≤ o.n ∧ o.n ≤ 8 ∧ o.t.size ≤ 8 := by
  by_cases hh : base.size ≤ 8 ∧ text.size ≤ 8
  · intro o ho
    have := opf_in ((make_inv hh.1 hh.2).fit o ho)
    omega
  · rw [dMake_no hh]; intro o ho; cases ho
end Pu
end Go.Proofs.YtdjfglebnblfkabDoor
