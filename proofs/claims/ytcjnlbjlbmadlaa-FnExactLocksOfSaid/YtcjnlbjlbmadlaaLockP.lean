/-
  Plain facts on locks: which are valid, what taking and freeing make of them, whose they are. No program is named here.
-/
import Derived.Test.YtcjnlbjlbmadlaaRefP
namespace Go.Proofs.Ytcjnlbjlbmadlaa
namespace Lk
open Rf

/-- A transaction or none. -/
def Own (n : Int) : Prop := -1 ≤ n ∧ n ≤ 11
def LV (zs : List Int) : Prop := zs.length = 4 ∧ ∀ z ∈ zs, Own z
def TV (t : Int) : Prop := 0 ≤ t ∧ t ≤ 11
/-- Taking is performing: from none to the transaction. -/
def lk1 (t : Int) (u : Up) : Up := ⟨u.r, -1, t⟩
def lk (t : Int) (us : List Up) : List Up := us.map (lk1 t)
theorem lk_length (t : Int) (us : List Up) : (lk t us).length = us.length := List.length_map _
theorem lk_asc {t : Int} (ht : TV t) {us : List Up} : ∀ {k : Int}, Asc k us → Asc k (lk t us) := by
  induction us with
  | nil => intro k _; trivial
  | cons u us ih =>
    intro k h
    refine ⟨h.1, ⟨h.2.1.1, ?_, ?_, ?_⟩, ih h.2.2⟩
    · show Val (-1); unfold Val; omega
    · show Val t; unfold Val; unfold TV at ht; omega
    · show (-1 : Int) ≠ t; unfold TV at ht; omega
theorem lk_UV {t : Int} (ht : TV t) {us : List Up} (h : UV us) : UV (lk t us) := ⟨(fun e => h.1 (by cases us with | nil => rfl | cons u us => cases e)), lk_asc ht h.2⟩
theorem take_LV {zs : List Int} {t : Int} {us : List Up} (hz : LV zs) (ht : TV t) : LV (setR zs (lk t us)) := by
  induction us generalizing zs with
  | nil => exact hz
  | cons u us ih =>
    show LV (setR (zs.set u.r.toNat t) (lk t us))
    refine ih ⟨by rw [List.length_set]; exact hz.1, fun z hm => ?_⟩
    rcases List.mem_or_eq_of_mem_set hm with hm | rfl
    · exact hz.2 z hm
    · unfold Own; unfold TV at ht; omega
theorem take_at {zs : List Int} {t : Int} {us : List Up} (hz : LV zs) (ht : TV t) (hu : UV us) {u : Up} (h : u ∈ us) : (setR zs (lk t us))[u.r.toNat]? = some t :=
  setR_at (u := lk1 t u) (lk_asc ht hu.2) hz.1 (List.mem_map_of_mem h)
theorem take_twice {zs : List Int} {t t2 : Int} {us : List Up} (hz : LV zs) (ht : TV t) (hu : UV us) : ¬ Fits (setR zs (lk t us)) (lk t2 us) := by
  obtain ⟨u, h⟩ := List.exists_mem_of_ne_nil us hu.1
  intro hf
  have h1 := hf (lk1 t2 u) (List.mem_map_of_mem h)
  unfold fit1 at h1
  have h2 := take_at hz ht hu h
  rw [show (lk1 t2 u).r = u.r from rfl, h2] at h1
  injection h1 with h1
  have : t = -1 := h1
  unfold TV at ht
  omega
theorem lk_far {t t2 : Int} {us vs : List Up} (h : ∀ u ∈ us, ∀ v ∈ vs, u.r.toNat ≠ v.r.toNat) : ∀ u ∈ lk t us, ∀ v ∈ lk t2 vs, u.r.toNat ≠ v.r.toNat := by
  intro u hu v hv
  obtain ⟨u', hu', rfl⟩ := List.mem_map.1 hu
  obtain ⟨v', hv', rfl⟩ := List.mem_map.1 hv
  exact h u' hu' v' hv'
theorem take_cross {zs : List Int} {t t2 : Int} {us vs : List Up} (hz : LV zs) (ht : TV t) (hu : UV us) (hv : UV vs) (hf : Fits zs (lk t2 vs)) : Fits (setR zs (lk t us)) (lk t2 vs) ↔ ¬ Cross us vs := by
  constructor
  · rintro h ⟨-, -, u, hu1, v, hv1, e⟩
    have h1 := h (lk1 t2 v) (List.mem_map_of_mem hv1)
    unfold fit1 at h1
    have h2 := take_at hz ht hu hu1
    rw [show (lk1 t2 v).r = u.r from e.symm, h2] at h1
    injection h1 with h1
    have : t = -1 := h1
    unfold TV at ht
    omega
  · intro h
    exact (fits_far (lk_far (no_cross hu hv h))).2 hf

/-! ### Whose. -/
def ofL : Int → Int → List Int → List Int
  | _, _, [] => []
  | k, t, z :: zs => if z = t then k :: ofL (k + 1) t zs else ofL (k + 1) t zs
theorem ofL_length (t : Int) : ∀ (zs : List Int) (k : Int), (ofL k t zs).length = zs.count t
  | [], _ => rfl
  | z :: zs, k => by
    have ih := ofL_length t zs (k + 1)
    unfold ofL
    by_cases e : z = t
    · rw [if_pos e, List.length_cons, ih, e, List.count_cons_self]
    · rw [if_neg e, ih, List.count_cons_of_ne e]
theorem ofL_mem (t x : Int) : ∀ (zs : List Int) (k : Int), x ∈ ofL k t zs ↔ ∃ i : Nat, x = k + i ∧ zs[i]? = some t
  | [], k => by simp [ofL]
  | z :: zs, k => by
    have ih := ofL_mem t x zs (k + 1)
    unfold ofL
    constructor
    · intro h
      by_cases e : z = t
      · rw [if_pos e] at h
        rcases List.mem_cons.1 h with rfl | h
        · exact ⟨0, by simp, by rw [e]; rfl⟩
        · obtain ⟨i, h1, h2⟩ := ih.1 h
          exact ⟨i + 1, by omega, h2⟩
      · rw [if_neg e] at h
        obtain ⟨i, h1, h2⟩ := ih.1 h
        exact ⟨i + 1, by omega, h2⟩
    · rintro ⟨i, h1, h2⟩
      cases i with
      | zero =>
        injection h2 with h2
        rw [if_pos h2]
        exact List.mem_cons.2 (.inl (by omega))
      | succ i =>
        have := ih.2 ⟨i, by omega, h2⟩
        by_cases e : z = t
        · rw [if_pos e]; exact List.mem_cons_of_mem _ this
        · rw [if_neg e]; exact this
theorem ofL_le (t : Int) (zs : List Int) (k : Int) : (ofL k t zs).length ≤ zs.length := by rw [ofL_length]; exact List.count_le_length
theorem ofL_none (t : Int) (zs : List Int) : (ofL 0 t zs).length = 0 ↔ t ∉ zs := by rw [ofL_length, List.count_eq_zero]
theorem ofL_at {t : Int} {zs : List Int} {r : Nat} (h : r < zs.length) : (r : Int) ∈ ofL 0 t zs ↔ zs[r] = t := by
  rw [ofL_mem]
  constructor
  · rintro ⟨i, h1, h2⟩
    have : i = r := by omega
    subst this
    rw [List.getElem?_eq_getElem h] at h2
    injection h2
  · intro e
    exact ⟨r, by omega, by rw [List.getElem?_eq_getElem h, e]⟩
theorem ofL_snoc (t : Int) : ∀ (zs : List Int) (z k : Int), ofL k t (zs ++ [z]) = ofL k t zs ++ (if z = t then [k + zs.length] else [])
  | [], z, k => by simp [ofL]
  | y :: zs, z, k => by
    have ih := ofL_snoc t zs z (k + 1)
    have e2 : k + 1 + (zs.length : Int) = k + ((y :: zs).length : Int) := by rw [List.length_cons]; omega
    rw [List.cons_append]
    unfold ofL
    by_cases e : y = t
    · rw [if_pos e, if_pos e, ih, e2]; rfl
    · rw [if_neg e, if_neg e, ih, e2]

/-! ### Freed. -/
def free1 (t z : Int) : Int := if z = t then -1 else z
def freeL (t : Int) (zs : List Int) : List Int := zs.map (free1 t)
theorem free_length (t : Int) (zs : List Int) : (freeL t zs).length = zs.length := List.length_map _
theorem free_LV {t : Int} {zs : List Int} (h : LV zs) : LV (freeL t zs) := by
  refine ⟨by rw [free_length]; exact h.1, fun z hz => ?_⟩
  obtain ⟨y, hy, rfl⟩ := List.mem_map.1 hz
  have := h.2 y hy
  unfold Own free1 at *
  split <;> omega
theorem free_none {t : Int} {zs : List Int} (h : TV t) : t ∉ freeL t zs := by
  intro hm
  obtain ⟨y, -, hy⟩ := List.mem_map.1 hm
  unfold TV at h
  unfold free1 at hy
  split at hy <;> omega
theorem free_same {t : Int} {zs : List Int} (h : t ∉ zs) : freeL t zs = zs := by
  unfold freeL
  conv => rhs; rw [← List.map_id zs]
  refine List.map_congr_left fun z hz => ?_
  unfold free1
  rw [if_neg (fun e => h (by rw [← e]; exact hz))]
  rfl
theorem free_at {t : Int} {zs : List Int} {r : Nat} (h : r < zs.length) (h2 : r < (freeL t zs).length) : (freeL t zs)[r] = if zs[r] = t then -1 else zs[r] := by
  have e : (freeL t zs)[r]? = some (free1 t zs[r]) := by
    unfold freeL
    rw [List.getElem?_map, List.getElem?_eq_getElem h]
    rfl
  rw [List.getElem?_eq_getElem h2] at e
  injection e
/-- What has been taken is freed again. -/
theorem free_take {zs : List Int} {t : Int} {us : List Up} (ht : TV t) (hu : UV us) (hf : Fits zs (lk t us)) (hn : t ∉ zs) : freeL t (setR zs (lk t us)) = zs := by
  apply List.ext_getElem?
  intro r
  unfold freeL
  rw [List.getElem?_map, setR_get]
  cases hz : zs[r]? with
  | none => rfl
  | some w =>
    simp only [Option.map_some, Option.some.injEq]
    by_cases hex : ∃ u ∈ us, u.r.toNat = r
    · obtain ⟨u, h, rfl⟩ := hex
      have h1 := wantAt_new (w := w) (u := lk1 t u) (lk_asc ht hu.2) (List.mem_map_of_mem h)
      rw [show (lk1 t u).r = u.r from rfl] at h1
      rw [h1]
      have h2 := hf (lk1 t u) (List.mem_map_of_mem h)
      unfold fit1 at h2
      rw [show (lk1 t u).r = u.r from rfl, hz] at h2
      injection h2 with h2
      show free1 t t = w
      unfold free1
      rw [if_pos rfl]
      exact h2.symm
    · rw [wantAt_no (us := lk t us) fun v hv => by obtain ⟨u, h, rfl⟩ := List.mem_map.1 hv; exact fun e => hex ⟨u, h, e⟩]
      unfold free1
      rw [if_neg fun e => hn (by rw [← e]; exact List.mem_of_getElem? hz)]
theorem take_has {zs : List Int} {t : Int} {us : List Up} (hz : LV zs) (ht : TV t) (hu : UV us) : t ∈ setR zs (lk t us) := by
  obtain ⟨u, h⟩ := List.exists_mem_of_ne_nil us hu.1
  exact List.mem_of_getElem? (take_at hz ht hu h)
theorem count_set {zs : List Int} {t : Int} : ∀ {r : Nat}, zs[r]? = some (-1) → t ≠ -1 → (zs.set r t).count t = zs.count t + 1 := by
  induction zs with
  | nil => intro r h; simp at h
  | cons z zs ih =>
    intro r h ht
    cases r with
    | zero =>
      injection h with h
      rw [List.set_cons_zero, List.count_cons_self, List.count_cons_of_ne (by rw [h]; exact fun e => ht e.symm)]
    | succ r =>
      rw [List.set_cons_succ]
      have := ih (r := r) h ht
      by_cases e : z = t
      · rw [e, List.count_cons_self, List.count_cons_self, this]
      · rw [List.count_cons_of_ne e, List.count_cons_of_ne e, this]
theorem take_count {t : Int} (ht : TV t) {us : List Up} : ∀ {zs : List Int} {k : Int}, Asc k us → Fits zs (lk t us) → (setR zs (lk t us)).count t = zs.count t + us.length := by
  induction us with
  | nil => intro zs k _ _; rfl
  | cons u us ih =>
    intro zs k h hf
    show (setR (zs.set u.r.toNat t) (lk t us)).count t = _
    have h0 := hf (lk1 t u) (List.mem_cons_self ..)
    unfold fit1 at h0
    rw [show (lk1 t u).r = u.r from rfl] at h0
    have hu0 := h.2.1.1.1
    have hf2 : Fits (zs.set u.r.toNat t) (lk t us) := by
      intro v hv
      obtain ⟨v', hv', rfl⟩ := List.mem_map.1 hv
      have h1 := hf (lk1 t v') (List.mem_cons_of_mem _ (List.mem_map_of_mem hv'))
      have h2 := (h.2.2.mem v' hv').1
      unfold fit1 at h1 ⊢
      rw [show (lk1 t v').r = v'.r from rfl] at h1 ⊢
      rw [List.getElem?_set_ne (by omega)]
      exact h1
    rw [ih h.2.2 hf2, count_set h0 (by unfold TV at ht; omega), List.length_cons]
    omega
/-! ### What LocksTake answers. -/
def IsLWay (zs : List Int) (t : Int) (us : List Up) : RWay → Prop
  | .bad => ¬ (LV zs ∧ TV t ∧ UV us)
  | .no => LV zs ∧ TV t ∧ UV us ∧ ¬ Fits zs (lk t us)
  | .yes => LV zs ∧ TV t ∧ UV us ∧ Fits zs (lk t us)
theorem lway_of (zs : List Int) (t : Int) (us : List Up) : ∃ y, IsLWay zs t us y := by
  by_cases h : LV zs ∧ TV t ∧ UV us
  · by_cases hf : Fits zs (lk t us)
    · exact ⟨.yes, h.1, h.2.1, h.2.2, hf⟩
    · exact ⟨.no, h.1, h.2.1, h.2.2, hf⟩
  · exact ⟨.bad, h⟩
/-- What LocksFree and LocksOf answer. -/
def freed (v : Bool) (zs : List Int) (t : Int) : List Int := if v then freeL t zs else []
def owned (v : Bool) (zs : List Int) (t : Int) : List Int := if v then ofL 0 t zs else []
end Lk
end Go.Proofs.Ytcjnlbjlbmadlaa
