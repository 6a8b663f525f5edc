/-
  Plain facts on refs and updates: which are valid, what updates make of refs, how refs differ, which updates cross. No program is named here.
-/
import Derived.Below
namespace Go.Proofs.Ytcjnlbjlbmadlaa
namespace Rf

/-- An update: which ref, its old and its new id. -/
structure Up where
  r : Int
  o : Int
  n : Int
theorem Up.ext' {a b : Up} (h1 : a.r = b.r) (h2 : a.o = b.o) (h3 : a.n = b.n) : a = b := by cases a; cases b; cases h1; cases h2; cases h3; rfl
/-- An id or none. -/
def Val (n : Int) : Prop := -1 ≤ n ∧ n ≤ 990
def RV (zs : List Int) : Prop := zs.length = 4 ∧ ∀ z ∈ zs, Val z
/-- The update alone is right. -/
def Ok (u : Up) : Prop := (0 ≤ u.r ∧ u.r ≤ 3) ∧ Val u.o ∧ Val u.n ∧ u.o ≠ u.n
/-- The updates, after one of the ref k. -/
def Asc : Int → List Up → Prop
  | _, [] => True
  | k, u :: us => k < u.r ∧ Ok u ∧ Asc u.r us
def UV (us : List Up) : Prop := us ≠ [] ∧ Asc (-1) us
theorem Asc.nil (k : Int) : Asc k [] := trivial
theorem Asc.weak {k k' : Int} {us : List Up} (h : Asc k us) (hk : k' ≤ k) : Asc k' us := by
  cases us with
  | nil => trivial
  | cons u us => exact ⟨by have := h.1; omega, h.2⟩
theorem Asc.mem {us : List Up} : ∀ {k : Int}, Asc k us → ∀ u ∈ us, k < u.r ∧ Ok u := by
  induction us with
  | nil => intro k _ u hu; cases hu
  | cons v us ih =>
    intro k h u hu
    rcases List.mem_cons.1 hu with rfl | hu
    · exact ⟨h.1, h.2.1⟩
    · obtain ⟨h1, h2⟩ := ih h.2.2 u hu
      exact ⟨by have := h.1; omega, h2⟩
theorem Asc.drop1 {us : List Up} : ∀ {k : Int}, Asc k us → ∀ i, Asc k (us.take i ++ us.drop (i + 1)) := by
  induction us with
  | nil => intro k _ i; simp [Asc]
  | cons u us ih =>
    intro k h i
    cases i with
    | zero => exact (h.2.2).weak (by have := h.1; omega)
    | succ i => exact ⟨h.1, h.2.1, ih h.2.2 i⟩
theorem Asc.twice {us : List Up} : ∀ {k : Int} {i : Nat}, i < us.length → ¬ Asc k (us.take (i + 1) ++ us.drop i) := by
  induction us with
  | nil => intro k i hi; simp at hi
  | cons u us ih =>
    intro k i hi h
    cases i with
    | zero => have := h.2.2.1; omega
    | succ i => exact ih (by simpa using hi) h.2.2
/-- By places: the update at each place is right, and comes behind the one ahead of it. -/
theorem asc_iff {us : List Up} : ∀ {k : Int}, Asc k us ↔ ∀ i (h : i < us.length), Ok us[i] ∧ (if _hi : i = 0 then k < us[i].r else (us[i - 1]'(by omega)).r < us[i].r) := by
  induction us with
  | nil => intro k; exact ⟨fun _ i h => absurd h (Nat.not_lt_zero _), fun _ => trivial⟩
  | cons u us ih =>
    intro k
    constructor
    · rintro ⟨h1, h2, h3⟩ i hi
      cases i with
      | zero => exact ⟨h2, by simpa using h1⟩
      | succ i =>
        obtain ⟨g1, g2⟩ := ih.1 h3 i (by simpa using hi)
        refine ⟨g1, ?_⟩
        rw [dif_neg (by omega)]
        cases i with
        | zero => simpa using g2
        | succ i => rw [dif_neg (by omega)] at g2; exact g2
    · intro h
      refine ⟨by have := (h 0 (by simp)).2; rwa [dif_pos rfl] at this, (h 0 (by simp)).1, ih.2 fun i hi => ?_⟩
      obtain ⟨g1, g2⟩ := h (i + 1) (by simpa using hi)
      refine ⟨g1, ?_⟩
      rw [dif_neg (by omega)] at g2
      cases i with
      | zero => rw [dif_pos rfl]; exact g2
      | succ i => rw [dif_neg (by omega)]; exact g2

/-! ### Updates performed. -/
def fit1 (zs : List Int) (u : Up) : Prop := zs[u.r.toNat]? = some u.o
def Fits (zs : List Int) (us : List Up) : Prop := ∀ u ∈ us, fit1 zs u
def setR (zs : List Int) (us : List Up) : List Int := us.foldl (fun zs u => zs.set u.r.toNat u.n) zs
theorem setR_nil (zs : List Int) : setR zs [] = zs := rfl
theorem setR_cons (zs : List Int) (u : Up) (us : List Up) : setR zs (u :: us) = setR (zs.set u.r.toNat u.n) us := rfl
theorem setR_snoc (zs : List Int) (us : List Up) (u : Up) : setR zs (us ++ [u]) = (setR zs us).set u.r.toNat u.n := by unfold setR; rw [List.foldl_append]; rfl
theorem setR_length (us : List Up) : ∀ zs : List Int, (setR zs us).length = zs.length := by
  induction us with
  | nil => intro zs; rfl
  | cons u us ih => intro zs; rw [setR_cons, ih, List.length_set]
/-- What becomes of the ref r, that had w. -/
def wantAt (r : Nat) (w : Int) (us : List Up) : Int := us.foldl (fun w u => if u.r.toNat = r then u.n else w) w
theorem wantAt_snoc (r : Nat) (w : Int) (us : List Up) (u : Up) : wantAt r w (us ++ [u]) = if u.r.toNat = r then u.n else wantAt r w us := by unfold wantAt; rw [List.foldl_append]; rfl
theorem wantAt_nil (r : Nat) (w : Int) : wantAt r w [] = w := rfl
theorem setR_get (us : List Up) : ∀ (zs : List Int) (r : Nat), (setR zs us)[r]? = zs[r]?.map (fun w => wantAt r w us) := by
  induction us with
  | nil => intro zs r; cases h : zs[r]? <;> simp [setR, wantAt, h]
  | cons u us ih =>
    intro zs r
    rw [setR_cons, ih, List.getElem?_set]
    by_cases h : u.r.toNat = r
    · subst h
      rw [if_pos rfl]
      by_cases hl : u.r.toNat < zs.length
      · rw [if_pos hl, List.getElem?_eq_getElem hl]
        simp [wantAt]
      · rw [if_neg hl, List.getElem?_eq_none (by omega)]
        rfl
    · rw [if_neg h]
      cases zs[r]? with
      | none => rfl
      | some w => simp [wantAt, h]
theorem setR_RV {zs : List Int} {us : List Up} (h : RV zs) (hu : ∀ u ∈ us, Val u.n) : RV (setR zs us) := by
  induction us generalizing zs with
  | nil => exact h
  | cons u us ih =>
    rw [setR_cons]
    refine ih ⟨by rw [List.length_set]; exact h.1, fun z hz => ?_⟩ (fun v hv => hu v (List.mem_cons_of_mem _ hv))
    rcases List.mem_or_eq_of_mem_set hz with hz | rfl
    · exact h.2 z hz
    · exact hu u (List.mem_cons_self ..)
/-- A ref ahead of all updates keeps its id. -/
theorem wantAt_far {us : List Up} : ∀ {k : Int} {r : Nat} {w : Int}, Asc k us → (r : Int) ≤ k → wantAt r w us = w := by
  induction us with
  | nil => intros; rfl
  | cons u us ih =>
    intro k r w h hr
    have h1 := h.1
    have hne : ¬ u.r.toNat = r := by omega
    show wantAt r (if u.r.toNat = r then u.n else w) us = w
    rw [if_neg hne]
    exact ih h.2.2 (by omega)
/-- A ref of an update gets its new id. -/
theorem wantAt_new {us : List Up} : ∀ {k : Int} {u : Up} {w : Int}, Asc k us → u ∈ us → wantAt u.r.toNat w us = u.n := by
  induction us with
  | nil => intro k u w _ hu; cases hu
  | cons v us ih =>
    intro k u w h hu
    show wantAt u.r.toNat (if v.r.toNat = u.r.toNat then v.n else w) us = u.n
    rcases List.mem_cons.1 hu with rfl | hu
    · rw [if_pos rfl]
      exact wantAt_far h.2.2 (by have := h.2.1.1; omega)
    · exact ih h.2.2 hu
/-- A ref of no update keeps its id. -/
theorem wantAt_no {us : List Up} {r : Nat} {w : Int} (h : ∀ u ∈ us, u.r.toNat ≠ r) : wantAt r w us = w := by
  induction us generalizing w with
  | nil => rfl
  | cons v us ih =>
    show wantAt r (if v.r.toNat = r then v.n else w) us = w
    rw [if_neg (h v (List.mem_cons_self ..))]
    exact ih fun u hu => h u (List.mem_cons_of_mem _ hu)
theorem Asc.inj {us : List Up} {k : Int} (h : Asc k us) {u v : Up} (hu : u ∈ us) (hv : v ∈ us) (e : u.r.toNat = v.r.toNat) : u.n = v.n := by
  have h1 := wantAt_new (w := 0) h hu
  rw [e, wantAt_new (w := 0) h hv] at h1
  exact h1.symm
theorem setR_at {zs : List Int} {us : List Up} {k : Int} (h : Asc k us) (hz : zs.length = 4) {u : Up} (hu : u ∈ us) : (setR zs us)[u.r.toNat]? = some u.n := by
  have hr := (h.mem u hu).2.1
  rw [setR_get, List.getElem?_eq_getElem (by omega), Option.map_some, wantAt_new h hu]
theorem apply_twice {zs : List Int} {us : List Up} (h : UV us) (hz : zs.length = 4) : ¬ Fits (setR zs us) us := by
  obtain ⟨hne, ha⟩ := h
  obtain ⟨u, hu⟩ := List.exists_mem_of_ne_nil us hne
  intro hf
  have h1 := hf u hu
  unfold fit1 at h1
  rw [setR_at ha hz hu] at h1
  injection h1 with h1
  exact (ha.mem u hu).2.2.2.2 h1.symm

/-! ### Undone. -/
def inv1 (u : Up) : Up := ⟨u.r, u.n, u.o⟩
def inv (us : List Up) : List Up := us.map inv1
theorem inv_inv (us : List Up) : inv (inv us) = us := by
  unfold inv
  rw [List.map_map]
  conv => rhs; rw [← List.map_id us]
  exact List.map_congr_left fun u _ => rfl
theorem Asc.inv {us : List Up} : ∀ {k : Int}, Asc k us → Asc k (Rf.inv us) := by
  induction us with
  | nil => intro k _; trivial
  | cons u us ih => intro k h; exact ⟨h.1, ⟨h.2.1.1, h.2.1.2.2.1, h.2.1.2.1, fun e => h.2.1.2.2.2 e.symm⟩, ih h.2.2⟩
theorem UV.inv {us : List Up} (h : UV us) : UV (Rf.inv us) := ⟨by unfold Rf.inv; simp [h.1], h.2.inv⟩
theorem fits_inv {zs : List Int} {us : List Up} (h : UV us) (hz : zs.length = 4) : Fits (setR zs us) (inv us) := by
  intro v hv
  obtain ⟨u, hu, rfl⟩ := List.mem_map.1 hv
  exact setR_at h.2 hz hu
theorem set_back {zs : List Int} {us : List Up} (h : UV us) (hf : Fits zs us) : setR (setR zs us) (inv us) = zs := by
  apply List.ext_getElem?
  intro r
  rw [setR_get, setR_get]
  cases hz : zs[r]? with
  | none => rfl
  | some w =>
    simp only [Option.map_some, Option.some.injEq]
    by_cases hex : ∃ u ∈ us, u.r.toNat = r
    · obtain ⟨u, hu, rfl⟩ := hex
      have hi := wantAt_new (w := wantAt u.r.toNat w us) h.2.inv (List.mem_map_of_mem hu : inv1 u ∈ inv us)
      have : (inv1 u).r.toNat = u.r.toNat := rfl
      rw [this] at hi
      rw [hi]
      have h1 := hf u hu
      unfold fit1 at h1
      rw [hz] at h1
      injection h1 with h1
      exact h1.symm
    · have hno : ∀ u ∈ us, u.r.toNat ≠ r := fun u hu e => hex ⟨u, hu, e⟩
      rw [wantAt_no (us := inv us) fun v hv => by obtain ⟨u, hu, rfl⟩ := List.mem_map.1 hv; exact hno u hu, wantAt_no hno]

/-! ### Differences. -/
/-- The differences from the ref k on. -/
def difL (k : Int) : List Int → List Int → List Up
  | a :: as, b :: bs => if a = b then difL (k + 1) as bs else ⟨k, a, b⟩ :: difL (k + 1) as bs
  | _, _ => []
theorem difL_nil (k : Int) : difL k [] [] = [] := rfl
theorem difL_asc : ∀ (as bs : List Int) (k : Int), 0 ≤ k → k + as.length ≤ 4 → (∀ z ∈ as, Val z) → (∀ z ∈ bs, Val z) → Asc (k - 1) (difL k as bs)
  | [], _, _, _, _, _, _ => trivial
  | _ :: _, [], _, _, _, _, _ => trivial
  | a :: as, b :: bs, k, h0, hl, ha, hb => by
    rw [List.length_cons] at hl
    have ih := difL_asc as bs (k + 1) (by omega) (by omega) (fun z hz => ha z (List.mem_cons_of_mem _ hz)) (fun z hz => hb z (List.mem_cons_of_mem _ hz))
    unfold difL
    by_cases e : a = b
    · rw [if_pos e]; exact ih.weak (by omega)
    · rw [if_neg e]
      refine ⟨by show k - 1 < k; omega, ⟨⟨h0, by show k ≤ 3; omega⟩, ha a (List.mem_cons_self ..), hb b (List.mem_cons_self ..), e⟩, ?_⟩
      have : k + 1 - 1 = k := by omega
      rw [this] at ih
      exact ih
theorem difL_inv : ∀ (as bs : List Int) (k : Int), difL k bs as = inv (difL k as bs)
  | [], [], _ => rfl
  | [], _ :: _, _ => rfl
  | _ :: _, [], _ => rfl
  | a :: as, b :: bs, k => by
    unfold difL
    by_cases e : a = b
    · rw [if_pos e, if_pos e.symm]; exact difL_inv as bs (k + 1)
    · rw [if_neg e, if_neg fun e' => e e'.symm]
      show _ = (⟨k, b, a⟩ : Up) :: inv (difL (k + 1) as bs)
      rw [difL_inv as bs (k + 1)]
theorem difL_none : ∀ (as bs : List Int) (k : Int), as.length = bs.length → difL k as bs = [] → as = bs
  | [], [], _, _, _ => rfl
  | [], _ :: _, _, h, _ => by simp at h
  | _ :: _, [], _, h, _ => by simp at h
  | a :: as, b :: bs, k, h, he => by
    unfold difL at he
    by_cases e : a = b
    · rw [if_pos e] at he
      rw [e, difL_none as bs (k + 1) (by simpa using h) he]
    · rw [if_neg e] at he
      cases he
theorem difL_same : ∀ (as : List Int) (k : Int), difL k as as = []
  | [], _ => rfl
  | a :: as, k => by unfold difL; rw [if_pos rfl]; exact difL_same as (k + 1)
theorem difL_mem : ∀ (as bs : List Int) (k : Int) (u : Up), u ∈ difL k as bs → ∃ i : Nat, u.r = k + i ∧ as[i]? = some u.o ∧ bs[i]? = some u.n
  | [], _, _, _, h => by cases h
  | _ :: _, [], _, _, h => by cases h
  | a :: as, b :: bs, k, u, h => by
    unfold difL at h
    by_cases e : a = b
    · rw [if_pos e] at h
      obtain ⟨i, h1, h2, h3⟩ := difL_mem as bs (k + 1) u h
      exact ⟨i + 1, by omega, h2, h3⟩
    · rw [if_neg e] at h
      rcases List.mem_cons.1 h with rfl | h
      · exact ⟨0, by simp, rfl, rfl⟩
      · obtain ⟨i, h1, h2, h3⟩ := difL_mem as bs (k + 1) u h
        exact ⟨i + 1, by omega, h2, h3⟩
theorem difL_all : ∀ (as bs : List Int) (k : Int) (i : Nat) (x y : Int), as[i]? = some x → bs[i]? = some y → x ≠ y → (⟨k + i, x, y⟩ : Up) ∈ difL k as bs
  | [], _, _, i, _, _, h, _, _ => by simp at h
  | _ :: _, [], _, i, _, _, _, h, _ => by simp at h
  | a :: as, b :: bs, k, i, x, y, hx, hy, hne => by
    unfold difL
    cases i with
    | zero =>
      injection hx with hx
      injection hy with hy
      subst hx
      subst hy
      rw [if_neg hne]
      simp
    | succ i =>
      have ih := difL_all as bs (k + 1) i x y hx hy hne
      have e2 : k + 1 + (i : Int) = k + ((i + 1 : Nat) : Int) := by omega
      rw [e2] at ih
      by_cases e : a = b
      · rw [if_pos e]; exact ih
      · rw [if_neg e]; exact List.mem_cons_of_mem _ ih
def dif (from_ to_ : List Int) : List Up := difL 0 from_ to_
theorem dif_UV {a b : List Int} (ha : RV a) (hb : RV b) (h : dif a b ≠ []) : UV (dif a b) := ⟨h, difL_asc a b 0 (by omega) (by rw [ha.1]; omega) ha.2 hb.2⟩
theorem dif_fits {a b : List Int} : Fits a (dif a b) := by
  intro u hu
  obtain ⟨i, h1, h2, _⟩ := difL_mem a b 0 u hu
  unfold fit1
  rw [show u.r.toNat = i from by omega]
  exact h2
theorem dif_set {a b : List Int} (ha : RV a) (hb : RV b) : setR a (dif a b) = b := by
  have hasc := difL_asc a b 0 (by omega) (by rw [ha.1]; omega) ha.2 hb.2
  apply List.ext_getElem?
  intro r
  rw [setR_get]
  by_cases hr : r < 4
  · rw [List.getElem?_eq_getElem (by rw [ha.1]; exact hr), List.getElem?_eq_getElem (by rw [hb.1]; exact hr), Option.map_some]
    congr 1
    by_cases e : a[r]'(by rw [ha.1]; exact hr) = b[r]'(by rw [hb.1]; exact hr)
    · rw [← e]
      refine wantAt_no fun u hu er => ?_
      obtain ⟨i, h1, h2, h3⟩ := difL_mem a b 0 u hu
      have hi : i = r := by omega
      subst hi
      rw [List.getElem?_eq_getElem (by rw [ha.1]; exact hr)] at h2
      rw [List.getElem?_eq_getElem (by rw [hb.1]; exact hr)] at h3
      injection h2 with h2
      injection h3 with h3
      exact ((hasc.mem u hu).2.2.2.2) (by rw [← h2, ← h3]; exact e)
    · have hm := difL_all a b 0 r _ _ (List.getElem?_eq_getElem (by rw [ha.1]; exact hr)) (List.getElem?_eq_getElem (by rw [hb.1]; exact hr)) e
      have := wantAt_new (w := a[r]'(by rw [ha.1]; exact hr)) hasc hm
      rw [show (0 + (r : Int)).toNat = r from by omega] at this
      exact this
  · rw [List.getElem?_eq_none (by rw [ha.1]; omega), List.getElem?_eq_none (by rw [hb.1]; omega)]
    rfl
/-- Ascending updates with the same members are the same. -/
theorem asc_eq {us : List Up} : ∀ {vs : List Up} {k k' : Int}, Asc k us → Asc k' vs → (∀ u, u ∈ us ↔ u ∈ vs) → us = vs := by
  induction us with
  | nil =>
    intro vs k k' _ _ h
    cases vs with
    | nil => rfl
    | cons v vs => exact absurd ((h v).2 (List.mem_cons_self ..)) (by simp)
  | cons u us ih =>
    intro vs k k' hu hv h
    cases vs with
    | nil => exact absurd ((h u).1 (List.mem_cons_self ..)) (by simp)
    | cons v vs =>
      have e : u = v := by
        rcases List.mem_cons.1 ((h u).1 (List.mem_cons_self ..)) with e | h1
        · exact e
        · rcases List.mem_cons.1 ((h v).2 (List.mem_cons_self ..)) with e | h2
          · exact e.symm
          · have := (hv.2.2.mem u h1).1
            have := (hu.2.2.mem v h2).1
            omega
      subst e
      rw [ih hu.2.2 hv.2.2 fun x => ?_]
      constructor
      · intro hx
        rcases List.mem_cons.1 ((h x).1 (List.mem_cons_of_mem _ hx)) with e | h1
        · subst e; have := (hu.2.2.mem x hx).1; omega
        · exact h1
      · intro hx
        rcases List.mem_cons.1 ((h x).2 (List.mem_cons_of_mem _ hx)) with e | h1
        · subst e; have := (hv.2.2.mem x hx).1; omega
        · exact h1
theorem dif_apply {zs : List Int} {us : List Up} (hz : RV zs) (hu : UV us) (hf : Fits zs us) : dif zs (setR zs us) = us := by
  have hs := setR_RV hz fun u h => (hu.2.mem u h).2.2.2.1
  refine asc_eq (difL_asc _ _ 0 (by omega) (by rw [hz.1]; omega) hz.2 hs.2) hu.2 fun u => ⟨fun h => ?_, fun h => ?_⟩
  · obtain ⟨i, h1, h2, h3⟩ := difL_mem _ _ 0 u h
    have hne : u.o ≠ u.n := ((difL_asc _ _ 0 (by omega) (by rw [hz.1]; omega) hz.2 hs.2).mem u h).2.2.2.2
    rw [setR_get, h2, Option.map_some] at h3
    injection h3 with h3
    by_cases hex : ∃ v ∈ us, v.r.toNat = i
    · obtain ⟨v, hv, rfl⟩ := hex
      have hv1 := hf v hv
      unfold fit1 at hv1
      rw [h2] at hv1
      injection hv1 with hv1
      rw [wantAt_new hu.2 hv] at h3
      have hr := (hu.2.mem v hv).2.1
      have : u = v := Up.ext' (by omega) hv1 h3.symm
      rw [this]; exact hv
    · rw [wantAt_no fun v hv e => hex ⟨v, hv, e⟩] at h3
      exact absurd h3 hne
  · have hr := (hu.2.mem u h).2.1
    have h1 := hf u h
    unfold fit1 at h1
    have h2 := setR_at hu.2 hz.1 h
    have := difL_all zs (setR zs us) 0 u.r.toNat u.o u.n h1 h2 (hu.2.mem u h).2.2.2.2
    have e : (⟨0 + (u.r.toNat : Int), u.o, u.n⟩ : Up) = u := Up.ext' (by show 0 + (u.r.toNat : Int) = u.r; omega) rfl rfl
    rw [e] at this
    exact this

/-! ### Crossing. -/
def Cross (a b : List Up) : Prop := UV a ∧ UV b ∧ ∃ u ∈ a, ∃ v ∈ b, u.r = v.r
theorem Cross.symm {a b : List Up} (h : Cross a b) : Cross b a := by
  obtain ⟨h1, h2, u, hu, v, hv, e⟩ := h
  exact ⟨h2, h1, v, hv, u, hu, e.symm⟩
theorem cross_comm (a b : List Up) : Cross a b ↔ Cross b a := ⟨.symm, .symm⟩
theorem cross_self {a : List Up} (h : UV a) : Cross a a := by
  obtain ⟨u, hu⟩ := List.exists_mem_of_ne_nil a h.1
  exact ⟨h, h, u, hu, u, hu, rfl⟩
theorem no_cross {a b : List Up} (ha : UV a) (hb : UV b) (h : ¬ Cross a b) : ∀ u ∈ a, ∀ v ∈ b, u.r.toNat ≠ v.r.toNat := fun u hu v hv e => by
  have h1 := (ha.2.mem u hu).2.1
  have h2 := (hb.2.mem v hv).2.1
  exact h ⟨ha, hb, u, hu, v, hv, by omega⟩
theorem fits_far {zs : List Int} {a b : List Up} (h : ∀ u ∈ a, ∀ v ∈ b, u.r.toNat ≠ v.r.toNat) : Fits (setR zs a) b ↔ Fits zs b := by
  refine forall_congr' fun v => forall_congr' fun hv => ?_
  unfold fit1
  rw [setR_get]
  cases hz : zs[v.r.toNat]? with
  | none => exact Iff.rfl
  | some w => rw [Option.map_some, wantAt_no fun u hu => h u hu v hv]
theorem set_comm {zs : List Int} {a b : List Up} (ha : UV a) (h : ∀ u ∈ a, ∀ v ∈ b, u.r.toNat ≠ v.r.toNat) : setR (setR zs a) b = setR (setR zs b) a := by
  apply List.ext_getElem?
  intro r
  rw [setR_get, setR_get, setR_get, setR_get]
  cases zs[r]? with
  | none => rfl
  | some w =>
    simp only [Option.map_some, Option.some.injEq]
    by_cases h1 : ∃ u ∈ a, u.r.toNat = r
    · obtain ⟨u, hu, rfl⟩ := h1
      rw [wantAt_no fun v hv e => h u hu v hv e.symm, wantAt_new ha.2 hu, wantAt_new ha.2 hu]
    · have n1 : ∀ u ∈ a, u.r.toNat ≠ r := fun u hu e => h1 ⟨u, hu, e⟩
      rw [wantAt_no (us := a) n1, wantAt_no (us := a) n1]

/-! ### What RefsApply answers. -/
/-- By which of the three ways: invalid, not fitting, performed. -/
inductive RWay | bad | no | yes
def applied (zs : List Int) (us : List Up) : RWay → List Int
  | .bad => []
  | .no => zs
  | .yes => setR zs us
def RWay.ok : RWay → Bool
  | .yes => true
  | _ => false
def IsRWay (zs : List Int) (us : List Up) : RWay → Prop
  | .bad => ¬ (RV zs ∧ UV us)
  | .no => RV zs ∧ UV us ∧ ¬ Fits zs us
  | .yes => RV zs ∧ UV us ∧ Fits zs us
theorem way_of (zs : List Int) (us : List Up) : ∃ y, IsRWay zs us y := by
  by_cases h : RV zs ∧ UV us
  · by_cases hf : Fits zs us
    · exact ⟨.yes, h.1, h.2, hf⟩
    · exact ⟨.no, h.1, h.2, hf⟩
  · exact ⟨.bad, h⟩
end Rf
end Go.Proofs.Ytcjnlbjlbmadlaa
