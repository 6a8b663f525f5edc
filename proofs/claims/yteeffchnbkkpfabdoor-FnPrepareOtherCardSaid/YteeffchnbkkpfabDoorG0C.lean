/-
  Plain facts on objects: lists of links, texts, ids. No program is named here.
  Words for memory: a slice whose cells are known, kept over what a call makes.
  Plain facts on refs and updates: which are valid, what updates make of refs, how refs differ, which updates cross. No program is named here.
  Plain facts on locks: which are valid, what taking and freeing make of them, whose they are. No program is named here.
  Plain facts on shards: what their records say of refs, locks and transactions. No program is named here.
-/
import Derived.Below
import Derived.WalkKit
import Derived.WalkSpells
import Derived.WalkLawsBesides
import Derived.Deep.Draws
import Derived.Deep.AppendLies
namespace Go.Proofs.YteeffchnbkkpfabDoor
namespace Pu

def ascB (lo : Int) : List Int → Bool
  | [] => true
  | x :: xs => decide (lo < x) && (decide (x < 991) && ascB x xs)

def kindB (k : Int) (n m : Nat) : Bool :=
  if k = 1 then decide (n = 0) else if k = 2 then decide (m = 0) else if k = 3 then decide (0 < n) else false

def vldB (k : Int) (zs : List Int) (m : Nat) : Bool := ascB (-1) zs && (decide (zs.length ≤ 4) && (decide (m ≤ 8) && kindB k zs.length m))

def mixL (n : Int) : List Int → Int
  | [] => n
  | x :: xs => mixL ((n * 613 + x + 1) % 991) xs
def mixT (n : Int) : List UInt8 → Int
  | [] => n
  | b :: bs => mixT ((n * 257 + (b.toNat : Int) + 1) % 991) bs
def idOf (k : Int) (zs : List Int) (bs : List UInt8) : Int := mixT (mixL (100 * k + zs.length) zs) bs
def oid (k : Int) (zs : List Int) (bs : List UInt8) : Int := if vldB k zs bs.length = true then idOf k zs bs else -1

theorem ascB_range {lo : Int} {zs : List Int} (h : ascB lo zs = true) : ∀ x ∈ zs, lo < x ∧ x < 991 := by
  induction zs generalizing lo with
  | nil => intro x hx; cases hx
  | cons a as ih =>
    simp only [ascB, Bool.and_eq_true, decide_eq_true_eq] at h
    intro x hx
    rcases List.mem_cons.1 hx with rfl | hx
    · exact ⟨h.1, h.2.1⟩
    · have := ih h.2.2 x hx
      exact ⟨by omega, this.2⟩

theorem mixL_range {n : Int} {zs : List Int} (h0 : 0 ≤ n) (h1 : n < 991) : 0 ≤ mixL n zs ∧ mixL n zs < 991 := by
  induction zs generalizing n with
  | nil => exact ⟨h0, h1⟩
  | cons a as ih => exact ih (by omega) (by omega)
theorem mixT_range {n : Int} {bs : List UInt8} (h0 : 0 ≤ n) (h1 : n < 991) : 0 ≤ mixT n bs ∧ mixT n bs < 991 := by
  induction bs generalizing n with
  | nil => exact ⟨h0, h1⟩
  | cons a as ih => exact ih (by omega) (by omega)

theorem vldB_parts {k : Int} {zs : List Int} {m : Nat} (h : vldB k zs m = true) : ascB (-1) zs = true ∧ zs.length ≤ 4 ∧ m ≤ 8 ∧ 1 ≤ k ∧ k ≤ 3 := by
  simp only [vldB, Bool.and_eq_true, decide_eq_true_eq] at h
  obtain ⟨h1, h2, h3, h4⟩ := h
  refine ⟨h1, h2, h3, ?_⟩
  unfold kindB at h4
  by_cases e1 : k = 1
  · omega
  by_cases e2 : k = 2
  · omega
  by_cases e3 : k = 3
  · omega
  · simp [e1, e2, e3] at h4

theorem idOf_range {k : Int} {zs : List Int} {bs : List UInt8} (h : vldB k zs bs.length = true) : 0 ≤ idOf k zs bs ∧ idOf k zs bs < 991 := by
  obtain ⟨_, h2, _, h4, h5⟩ := vldB_parts h
  obtain ⟨a, b⟩ := mixL_range (n := 100 * k + zs.length) (zs := zs) (by omega) (by omega)
  exact mixT_range a b

theorem oid_range (k : Int) (zs : List Int) (bs : List UInt8) : -1 ≤ oid k zs bs ∧ oid k zs bs < 991 := by
  unfold oid
  split
  · rename_i h; have := idOf_range h; omega
  · omega
theorem oid_valid {k : Int} {zs : List Int} {bs : List UInt8} : (0 ≤ oid k zs bs) ↔ vldB k zs bs.length = true := by
  unfold oid
  split
  · rename_i h; have := idOf_range h; exact ⟨fun _ => h, fun _ => this.1⟩
  · rename_i h; exact ⟨fun e => by omega, fun e => absurd e h⟩

theorem ascB_drop {lo : Int} {zs : List Int} {k : Nat} (hk : k < zs.length) : ascB lo (zs.drop k) = (decide (lo < zs[k]) && (decide (zs[k] < 991) && ascB zs[k] (zs.drop (k + 1)))) := by
  rw [List.drop_eq_getElem_cons hk]; rfl
theorem mixL_drop {n : Int} {zs : List Int} {k : Nat} (hk : k < zs.length) : mixL n (zs.drop k) = mixL ((n * 613 + zs[k] + 1) % 991) (zs.drop (k + 1)) := by
  rw [List.drop_eq_getElem_cons hk]; rfl
theorem mixT_drop {n : Int} {bs : List UInt8} {k : Nat} (hk : k < bs.length) : mixT n (bs.drop k) = mixT ((n * 257 + (bs[k].toNat : Int) + 1) % 991) (bs.drop (k + 1)) := by
  rw [List.drop_eq_getElem_cons hk]; rfl
end Pu
end Go.Proofs.YteeffchnbkkpfabDoor
namespace Go.Proofs.YteeffchnbkkpfabDoor
open Go.RowKit
namespace Wo

theorem add_block (a : Addr) (n : Nat) : (a.add n).block = a.block := by
  unfold Addr.add
  split
  · rfl
  · rfl

theorem add_zero (a : Addr) : a.add 0 = a := by simp [Addr.add]

/-- The slice with head A holds the cells vs, and lies below block B. -/
def Row (w : World) (B : Nat) (A : Option Addr) (vs : List Value) : Prop :=
  vs = [] ∨ ∃ ad, A = some ad ∧ ad.block < B ∧ ∀ j v, vs[j]? = some v → w.cell? (ad.add j) = some v

theorem Row.none_ (w : World) (B : Nat) (A : Option Addr) : Row w B A [] := .inl rfl
theorem Row.head {w : World} {B : Nat} {A : Option Addr} {vs : List Value} (h : Row w B A vs) (hk : 0 < vs.length) :
    ∃ ad, A = some ad ∧ ad.block < B ∧ ∀ j (hj : j < vs.length), w.cell? (ad.add j) = some vs[j] := by
  rcases h with rfl | ⟨ad, e, hb, hc⟩
  · simp at hk
  · exact ⟨ad, e, hb, fun j hj => hc j _ (List.getElem?_eq_getElem hj)⟩
theorem Row.get {w : World} {B : Nat} {A : Option Addr} {vs : List Value} (h : Row w B A vs) {k : Nat} (hk : k < vs.length) :
    ∃ ad, A = some ad ∧ ad.block < B ∧ w.cell? (ad.add k) = some vs[k] := by
  obtain ⟨ad, e, hb, hc⟩ := h.head (by omega)
  exact ⟨ad, e, hb, hc k hk⟩
theorem Row.keep {w w' : World} {B : Nat} {A : Option Addr} {vs : List Value} (h : Row w B A vs) (hk : ∀ p : Addr, p.block < B → w'.cell? p = w.cell? p) : Row w' B A vs := by
  rcases h with rfl | ⟨ad, e, hb, hc⟩
  · exact .inl rfl
  · exact .inr ⟨ad, e, hb, fun j v hv => by rw [hk _ (by rw [add_block]; exact hb)]; exact hc j v hv⟩
theorem Row.more {w : World} {B B' : Nat} {A : Option Addr} {vs : List Value} (h : Row w B A vs) (hB : B ≤ B') : Row w B' A vs := by
  rcases h with rfl | ⟨ad, e, hb, hc⟩
  · exact .inl rfl
  · exact .inr ⟨ad, e, by omega, hc⟩
theorem Row.below {w w' : World} {B C : Nat} {A : Option Addr} {vs : List Value} (h : Row w B A vs) (hb : Below C w w') (hC : B ≤ C) : Row w' B A vs :=
  h.keep fun p hp => hb.cell (by omega)
theorem Row.alloc {w : World} {B : Nat} {A : Option Addr} {vs : List Value} (h : Row w B A vs) (hB : B ≤ w.heap.size) (o : Obj) : Row (w.alloc o) B A vs :=
  h.below ((Below.refl B w).alloc hB o) (Nat.le_refl _)
theorem Row.drewN {w : World} {B : Nat} {A : Option Addr} {vs : List Value} (h : Row w B A vs) (n : Nat) : Row (w.drewN n) B A vs := h
theorem Row.of_own {w : World} {base : Nat} {e : TypeId} {size n c : Nat} {A : Option Addr} {xs : List Value} (h : w.ownsRow base e size (.slice A n c) n xs) (hn : xs ≠ [] → 0 < n) : Row w w.heap.size A xs := by
  by_cases hx : xs = []
  · exact .inl hx
  · obtain ⟨g, cap, hv, _, hlt⟩ := h.form (hn hx)
    have hA : A = some ⟨g, 0, none⟩ := by injection hv
    subst hA
    exact .inr ⟨_, rfl, hlt, h.cells (g := g) rfl⟩

/-- Integers. -/
def ints (zs : List Int) : List Value := zs.map (Value.int .i64)
theorem ints_length (zs : List Int) : (ints zs).length = zs.length := List.length_map _
theorem ints_get (zs : List Int) (k : Nat) (h : k < zs.length) : (ints zs)[k]'(by rw [ints_length]; exact h) = .int .i64 zs[k] := by simp [ints]
theorem Row.int_ {w : World} {B : Nat} {A : Option Addr} {zs : List Int} (h : Row w B A (ints zs)) {k : Nat} (hk : k < zs.length) :
    ∃ ad, A = some ad ∧ ad.block < B ∧ w.cell? (ad.add k) = some (.int .i64 zs[k]) := by
  obtain ⟨ad, e, hb, hc⟩ := h.get (k := k) (by rw [ints_length]; exact hk)
  exact ⟨ad, e, hb, by rw [hc, ints_get]⟩

theorem hid {p : Prop} (h : p) : Hid p := h
theorem bcell {B : Nat} {W w1 : World} (hb : Below B W w1) : (∀ b o, b < B → w1.cell? ⟨b, o, none⟩ = W.cell? ⟨b, o, none⟩) ∧ (∀ b o, b < B → w1.frozen? ⟨b, o, none⟩ = W.frozen? ⟨b, o, none⟩) :=
  ⟨fun b o h => hb.cell (p := ⟨b, o, none⟩) h, fun b o h => hb.frozen (p := ⟨b, o, none⟩) h⟩
theorem Below.drewN {B : Nat} {a w : World} (h : Below B a w) (n : Nat) : Below B a (w.drewN n) := ⟨h.os, h.tape, h.output, h.size, h.block⟩
end Wo
end Go.Proofs.YteeffchnbkkpfabDoor
namespace Go.Proofs.YteeffchnbkkpfabDoor
namespace Rf

/-- An update: which ref, its old and its new id. -/
structure Up where
  r : Int
  o : Int
  n : Int
theorem Up.ext' {a b : Up} (h1 : a.r = b.r) (h2 : a.o = b.o) (h3 : a.n = b.n) : a = b := by cases a; cases b; cases h1; cases h2; cases h3; rfl
/-- An id or none. -/
def Val (n : Int) : Prop := -1 ≤ n ∧ n ≤ 990
def RV (zs : List Int) : Prop := zs.length = 4 ∧ ∀ z ∈ zs, Val z
/-- The update alone is right. -/
def Ok (u : Up) : Prop := (0 ≤ u.r ∧ u.r ≤ 3) ∧ Val u.o ∧ Val u.n ∧ u.o ≠ u.n
/-- The updates, after one of the ref k. -/
def Asc : Int → List Up → Prop
  | _, [] => True
  | k, u :: us => k < u.r ∧ Ok u ∧ Asc u.r us
def UV (us : List Up) : Prop := us ≠ [] ∧ Asc (-1) us
theorem Asc.nil (k : Int) : Asc k [] := trivial
theorem Asc.weak {k k' : Int} {us : List Up} (h : Asc k us) (hk : k' ≤ k) : Asc k' us := by
  cases us with
  | nil => trivial
  | cons u us => exact ⟨by have := h.1; omega, h.2⟩
theorem Asc.mem {us : List Up} : ∀ {k : Int}, Asc k us → ∀ u ∈ us, k < u.r ∧ Ok u := by
  induction us with
  | nil => intro k _ u hu; cases hu
  | cons v us ih =>
    intro k h u hu
    rcases List.mem_cons.1 hu with rfl | hu
    · exact ⟨h.1, h.2.1⟩
    · obtain ⟨h1, h2⟩ := ih h.2.2 u hu
      exact ⟨by have := h.1; omega, h2⟩
theorem Asc.drop1 {us : List Up} : ∀ {k : Int}, Asc k us → ∀ i, Asc k (us.take i ++ us.drop (i + 1)) := by
  induction us with
  | nil => intro k _ i; simp [Asc]
  | cons u us ih =>
    intro k h i
    cases i with
    | zero => exact (h.2.2).weak (by have := h.1; omega)
    | succ i => exact ⟨h.1, h.2.1, ih h.2.2 i⟩
theorem Asc.twice {us : List Up} : ∀ {k : Int} {i : Nat}, i < us.length → ¬ Asc k (us.take (i + 1) ++ us.drop i) := by
  induction us with
  | nil => intro k i hi; simp at hi
  | cons u us ih =>
    intro k i hi h
    cases i with
    | zero => have := h.2.2.1; omega
    | succ i => exact ih (by simpa using hi) h.2.2
/-- By places: the update at each place is right, and comes behind the one ahead of it. -/
theorem asc_iff {us : List Up} : ∀ {k : Int}, Asc k us ↔ ∀ i (h : i < us.length), Ok us[i] ∧ (if _hi : i = 0 then k < us[i].r else (us[i - 1]'(by omega)).r < us[i].r) := by
  induction us with
  | nil => intro k; exact ⟨fun _ i h => absurd h (Nat.not_lt_zero _), fun _ => trivial⟩
  | cons u us ih =>
    intro k
    constructor
    · rintro ⟨h1, h2, h3⟩ i hi
      cases i with
      | zero => exact ⟨h2, by simpa using h1⟩
      | succ i =>
        obtain ⟨g1, g2⟩ := ih.1 h3 i (by simpa using hi)
        refine ⟨g1, ?_⟩
        rw [dif_neg (by omega)]
        cases i with
        | zero => simpa using g2
        | succ i => rw [dif_neg (by omega)] at g2; exact g2
    · intro h
      refine ⟨by have := (h 0 (by simp)).2; rwa [dif_pos rfl] at this, (h 0 (by simp)).1, ih.2 fun i hi => ?_⟩
      obtain ⟨g1, g2⟩ := h (i + 1) (by simpa using hi)
      refine ⟨g1, ?_⟩
      rw [dif_neg (by omega)] at g2
      cases i with
      | zero => rw [dif_pos rfl]; exact g2
      | succ i => rw [dif_neg (by omega)]; exact g2

/-! ### Updates performed. -/
def fit1 (zs : List Int) (u : Up) : Prop := zs[u.r.toNat]? = some u.o
def Fits (zs : List Int) (us : List Up) : Prop := ∀ u ∈ us, fit1 zs u
def setR (zs : List Int) (us : List Up) : List Int := us.foldl (fun zs u => zs.set u.r.toNat u.n) zs
theorem setR_nil (zs : List Int) : setR zs [] = zs := rfl
theorem setR_cons (zs : List Int) (u : Up) (us : List Up) : setR zs (u :: us) = setR (zs.set u.r.toNat u.n) us := rfl
theorem setR_snoc (zs : List Int) (us : List Up) (u : Up) : setR zs (us ++ [u]) = (setR zs us).set u.r.toNat u.n := by unfold setR; rw [List.foldl_append]; rfl
theorem setR_length (us : List Up) : ∀ zs : List Int, (setR zs us).length = zs.length := by
  induction us with
  | nil => intro zs; rfl
  | cons u us ih => intro zs; rw [setR_cons, ih, List.length_set]
/-- What becomes of the ref r, that had w. -/
def wantAt (r : Nat) (w : Int) (us : List Up) : Int := us.foldl (fun w u => if u.r.toNat = r then u.n else w) w
theorem wantAt_snoc (r : Nat) (w : Int) (us : List Up) (u : Up) : wantAt r w (us ++ [u]) = if u.r.toNat = r then u.n else wantAt r w us := by unfold wantAt; rw [List.foldl_append]; rfl
theorem wantAt_nil (r : Nat) (w : Int) : wantAt r w [] = w := rfl
theorem setR_get (us : List Up) : ∀ (zs : List Int) (r : Nat), (setR zs us)[r]? = zs[r]?.map (fun w => wantAt r w us) := by
  induction us with
  | nil => intro zs r; cases h : zs[r]? <;> simp [setR, wantAt, h]
  | cons u us ih =>
    intro zs r
    rw [setR_cons, ih, List.getElem?_set]
    by_cases h : u.r.toNat = r
    · subst h
      rw [if_pos rfl]
      by_cases hl : u.r.toNat < zs.length
      · rw [if_pos hl, List.getElem?_eq_getElem hl]
        simp [wantAt]
      · rw [if_neg hl, List.getElem?_eq_none (by omega)]
        rfl
    · rw [if_neg h]
      cases zs[r]? with
      | none => rfl
      | some w => simp [wantAt, h]
theorem setR_RV {zs : List Int} {us : List Up} (h : RV zs) (hu : ∀ u ∈ us, Val u.n) : RV (setR zs us) := by
  induction us generalizing zs with
  | nil => exact h
  | cons u us ih =>
    rw [setR_cons]
    refine ih ⟨by rw [List.length_set]; exact h.1, fun z hz => ?_⟩ (fun v hv => hu v (List.mem_cons_of_mem _ hv))
    rcases List.mem_or_eq_of_mem_set hz with hz | rfl
    · exact h.2 z hz
    · exact hu u (List.mem_cons_self ..)
/-- A ref ahead of all updates keeps its id. -/
theorem wantAt_far {us : List Up} : ∀ {k : Int} {r : Nat} {w : Int}, Asc k us → (r : Int) ≤ k → wantAt r w us = w := by
  induction us with
  | nil => intros; rfl
  | cons u us ih =>
    intro k r w h hr
    have h1 := h.1
    have hne : ¬ u.r.toNat = r := by omega
    show wantAt r (if u.r.toNat = r then u.n else w) us = w
    rw [if_neg hne]
    exact ih h.2.2 (by omega)
/-- A ref of an update gets its new id. -/
theorem wantAt_new {us : List Up} : ∀ {k : Int} {u : Up} {w : Int}, Asc k us → u ∈ us → wantAt u.r.toNat w us = u.n := by
  induction us with
  | nil => intro k u w _ hu; cases hu
  | cons v us ih =>
    intro k u w h hu
    show wantAt u.r.toNat (if v.r.toNat = u.r.toNat then v.n else w) us = u.n
    rcases List.mem_cons.1 hu with rfl | hu
    · rw [if_pos rfl]
      exact wantAt_far h.2.2 (by have := h.2.1.1; omega)
    · exact ih h.2.2 hu
/-- A ref of no update keeps its id. -/
theorem wantAt_no {us : List Up} {r : Nat} {w : Int} (h : ∀ u ∈ us, u.r.toNat ≠ r) : wantAt r w us = w := by
  induction us generalizing w with
  | nil => rfl
  | cons v us ih =>
    show wantAt r (if v.r.toNat = r then v.n else w) us = w
    rw [if_neg (h v (List.mem_cons_self ..))]
    exact ih fun u hu => h u (List.mem_cons_of_mem _ hu)
theorem Asc.inj {us : List Up} {k : Int} (h : Asc k us) {u v : Up} (hu : u ∈ us) (hv : v ∈ us) (e : u.r.toNat = v.r.toNat) : u.n = v.n := by
  have h1 := wantAt_new (w := 0) h hu
  rw [e, wantAt_new (w := 0) h hv] at h1
  exact h1.symm
theorem setR_at {zs : List Int} {us : List Up} {k : Int} (h : Asc k us) (hz : zs.length = 4) {u : Up} (hu : u ∈ us) : (setR zs us)[u.r.toNat]? = some u.n := by
  have hr := (h.mem u hu).2.1
  rw [setR_get, List.getElem?_eq_getElem (by omega), Option.map_some, wantAt_new h hu]
theorem apply_twice {zs : List Int} {us : List Up} (h : UV us) (hz : zs.length = 4) : ¬ Fits (setR zs us) us := by
  obtain ⟨hne, ha⟩ := h
  obtain ⟨u, hu⟩ := List.exists_mem_of_ne_nil us hne
  intro hf
  have h1 := hf u hu
  unfold fit1 at h1
  rw [setR_at ha hz hu] at h1
  injection h1 with h1
  exact (ha.mem u hu).2.2.2.2 h1.symm

/-! ### Undone. -/
def inv1 (u : Up) : Up := ⟨u.r, u.n, u.o⟩
def inv (us : List Up) : List Up := us.map inv1
theorem inv_inv (us : List Up) : inv (inv us) = us := by
  unfold inv
  rw [List.map_map]
  conv => rhs; rw [← List.map_id us]
  exact List.map_congr_left fun u _ => rfl
theorem Asc.inv {us : List Up} : ∀ {k : Int}, Asc k us → Asc k (Rf.inv us) := by
  induction us with
  | nil => intro k _; trivial
  | cons u us ih => intro k h; exact ⟨h.1, ⟨h.2.1.1, h.2.1.2.2.1, h.2.1.2.1, fun e => h.2.1.2.2.2 e.symm⟩, ih h.2.2⟩
theorem UV.inv {us : List Up} (h : UV us) : UV (Rf.inv us) := ⟨by unfold Rf.inv; simp [h.1], h.2.inv⟩
theorem fits_inv {zs : List Int} {us : List Up} (h : UV us) (hz : zs.length = 4) : Fits (setR zs us) (inv us) := by
  intro v hv
  obtain ⟨u, hu, rfl⟩ := List.mem_map.1 hv
  exact setR_at h.2 hz hu
theorem set_back {zs : List Int} {us : List Up} (h : UV us) (hf : Fits zs us) : setR (setR zs us) (inv us) = zs := by
  apply List.ext_getElem?
  intro r
  rw [setR_get, setR_get]
  cases hz : zs[r]? with
  | none => rfl
  | some w =>
    simp only [Option.map_some, Option.some.injEq]
    by_cases hex : ∃ u ∈ us, u.r.toNat = r
    · obtain ⟨u, hu, rfl⟩ := hex
      have hi := wantAt_new (w := wantAt u.r.toNat w us) h.2.inv (List.mem_map_of_mem hu : inv1 u ∈ inv us)
      have : (inv1 u).r.toNat = u.r.toNat := rfl
      rw [this] at hi
      rw [hi]
      have h1 := hf u hu
      unfold fit1 at h1
      rw [hz] at h1
      injection h1 with h1
      exact h1.symm
    · have hno : ∀ u ∈ us, u.r.toNat ≠ r := fun u hu e => hex ⟨u, hu, e⟩
      rw [wantAt_no (us := inv us) fun v hv => by obtain ⟨u, hu, rfl⟩ := List.mem_map.1 hv; exact hno u hu, wantAt_no hno]

/-! ### Differences. -/
/-- The differences from the ref k on. -/
def difL (k : Int) : List Int → List Int → List Up
  | a :: as, b :: bs => if a = b then difL (k + 1) as bs else ⟨k, a, b⟩ :: difL (k + 1) as bs
  | _, _ => []
theorem difL_nil (k : Int) : difL k [] [] = [] := rfl
theorem difL_asc : ∀ (as bs : List Int) (k : Int), 0 ≤ k → k + as.length ≤ 4 → (∀ z ∈ as, Val z) → (∀ z ∈ bs, Val z) → Asc (k - 1) (difL k as bs)
  | [], _, _, _, _, _, _ => trivial
  | _ :: _, [], _, _, _, _, _ => trivial
  | a :: as, b :: bs, k, h0, hl, ha, hb => by
    rw [List.length_cons] at hl
    have ih := difL_asc as bs (k + 1) (by omega) (by omega) (fun z hz => ha z (List.mem_cons_of_mem _ hz)) (fun z hz => hb z (List.mem_cons_of_mem _ hz))
    unfold difL
    by_cases e : a = b
    · rw [if_pos e]; exact ih.weak (by omega)
    · rw [if_neg e]
      refine ⟨by show k - 1 < k; omega, ⟨⟨h0, by show k ≤ 3; omega⟩, ha a (List.mem_cons_self ..), hb b (List.mem_cons_self ..), e⟩, ?_⟩
      have : k + 1 - 1 = k := by omega
      rw [this] at ih
      exact ih
theorem difL_inv : ∀ (as bs : List Int) (k : Int), difL k bs as = inv (difL k as bs)
  | [], [], _ => rfl
  | [], _ :: _, _ => rfl
  | _ :: _, [], _ => rfl
  | a :: as, b :: bs, k => by
    unfold difL
    by_cases e : a = b
    · rw [if_pos e, if_pos e.symm]; exact difL_inv as bs (k + 1)
    · rw [if_neg e, if_neg fun e' => e e'.symm]
      show _ = (⟨k, b, a⟩ : Up) :: inv (difL (k + 1) as bs)
      rw [difL_inv as bs (k + 1)]
theorem difL_none : ∀ (as bs : List Int) (k : Int), as.length = bs.length → difL k as bs = [] → as = bs
  | [], [], _, _, _ => rfl
  | [], _ :: _, _, h, _ => by simp at h
  | _ :: _, [], _, h, _ => by simp at h
  | a :: as, b :: bs, k, h, he => by
    unfold difL at he
    by_cases e : a = b
    · rw [if_pos e] at he
      rw [e, difL_none as bs (k + 1) (by simpa using h) he]
    · rw [if_neg e] at he
      cases he
theorem difL_same : ∀ (as : List Int) (k : Int), difL k as as = []
  | [], _ => rfl
  | a :: as, k => by unfold difL; rw [if_pos rfl]; exact difL_same as (k + 1)
theorem difL_mem : ∀ (as bs : List Int) (k : Int) (u : Up), u ∈ difL k as bs → ∃ i : Nat, u.r = k + i ∧ as[i]? = some u.o ∧ bs[i]? = some u.n
  | [], _, _, _, h => by cases h
  | _ :: _, [], _, _, h => by cases h
  | a :: as, b :: bs, k, u, h => by
    unfold difL at h
    by_cases e : a = b
    · rw [if_pos e] at h
      obtain ⟨i, h1, h2, h3⟩ := difL_mem as bs (k + 1) u h
      exact ⟨i + 1, by omega, h2, h3⟩
    · rw [if_neg e] at h
      rcases List.mem_cons.1 h with rfl | h
      · exact ⟨0, by simp, rfl, rfl⟩
      · obtain ⟨i, h1, h2, h3⟩ := difL_mem as bs (k + 1) u h
        exact ⟨i + 1, by omega, h2, h3⟩
theorem difL_all : ∀ (as bs : List Int) (k : Int) (i : Nat) (x y : Int), as[i]? = some x → bs[i]? = some y → x ≠ y → (⟨k + i, x, y⟩ : Up) ∈ difL k as bs
  | [], _, _, i, _, _, h, _, _ => by simp at h
  | _ :: _, [], _, i, _, _, _, h, _ => by simp at h
  | a :: as, b :: bs, k, i, x, y, hx, hy, hne => by
    unfold difL
    cases i with
    | zero =>
      injection hx with hx
      injection hy with hy
      subst hx
      subst hy
      rw [if_neg hne]
      simp
    | succ i =>
      have ih := difL_all as bs (k + 1) i x y hx hy hne
      have e2 : k + 1 + (i : Int) = k + ((i + 1 : Nat) : Int) := by omega
      rw [e2] at ih
      by_cases e : a = b
      · rw [if_pos e]; exact ih
      · rw [if_neg e]; exact List.mem_cons_of_mem _ ih
def dif (from_ to_ : List Int) : List Up := difL 0 from_ to_
theorem dif_UV {a b : List Int} (ha : RV a) (hb : RV b) (h : dif a b ≠ []) : UV (dif a b) := ⟨h, difL_asc a b 0 (by omega) (by rw [ha.1]; omega) ha.2 hb.2⟩
theorem dif_fits {a b : List Int} : Fits a (dif a b) := by
  intro u hu
  obtain ⟨i, h1, h2, _⟩ := difL_mem a b 0 u hu
  unfold fit1
  rw [show u.r.toNat = i from by omega]
  exact h2
theorem dif_set {a b : List Int} (ha : RV a) (hb : RV b) : setR a (dif a b) = b := by
  have hasc := difL_asc a b 0 (by omega) (by rw [ha.1]; omega) ha.2 hb.2
  apply List.ext_getElem?
  intro r
  rw [setR_get]
  by_cases hr : r < 4
  · rw [List.getElem?_eq_getElem (by rw [ha.1]; exact hr), List.getElem?_eq_getElem (by rw [hb.1]; exact hr), Option.map_some]
    congr 1
    by_cases e : a[r]'(by rw [ha.1]; exact hr) = b[r]'(by rw [hb.1]; exact hr)
    · rw [← e]
      refine wantAt_no fun u hu er => ?_
      obtain ⟨i, h1, h2, h3⟩ := difL_mem a b 0 u hu
      have hi : i = r := by omega
      subst hi
      rw [List.getElem?_eq_getElem (by rw [ha.1]; exact hr)] at h2
      rw [List.getElem?_eq_getElem (by rw [hb.1]; exact hr)] at h3
      injection h2 with h2
      injection h3 with h3
      exact ((hasc.mem u hu).2.2.2.2) (by rw [← h2, ← h3]; exact e)
    · have hm := difL_all a b 0 r _ _ (List.getElem?_eq_getElem (by rw [ha.1]; exact hr)) (List.getElem?_eq_getElem (by rw [hb.1]; exact hr)) e
      have := wantAt_new (w := a[r]'(by rw [ha.1]; exact hr)) hasc hm
      rw [show (0 + (r : Int)).toNat = r from by omega] at this
      exact this
  · rw [List.getElem?_eq_none (by rw [ha.1]; omega), List.getElem?_eq_none (by rw [hb.1]; omega)]
    rfl
/-- Ascending updates with the same members are the same. -/
theorem asc_eq {us : List Up} : ∀ {vs : List Up} {k k' : Int}, Asc k us → Asc k' vs → (∀ u, u ∈ us ↔ u ∈ vs) → us = vs := by
  induction us with
  | nil =>
    intro vs k k' _ _ h
    cases vs with
    | nil => rfl
    | cons v vs => exact absurd ((h v).2 (List.mem_cons_self ..)) (by simp)
  | cons u us ih =>
    intro vs k k' hu hv h
    cases vs with
    | nil => exact absurd ((h u).1 (List.mem_cons_self ..)) (by simp)
    | cons v vs =>
      have e : u = v := by
        rcases List.mem_cons.1 ((h u).1 (List.mem_cons_self ..)) with e | h1
        · exact e
        · rcases List.mem_cons.1 ((h v).2 (List.mem_cons_self ..)) with e | h2
          · exact e.symm
          · have := (hv.2.2.mem u h1).1
            have := (hu.2.2.mem v h2).1
            omega
      subst e
      rw [ih hu.2.2 hv.2.2 fun x => ?_]
      constructor
      · intro hx
        rcases List.mem_cons.1 ((h x).1 (List.mem_cons_of_mem _ hx)) with e | h1
        · subst e; have := (hu.2.2.mem x hx).1; omega
        · exact h1
      · intro hx
        rcases List.mem_cons.1 ((h x).2 (List.mem_cons_of_mem _ hx)) with e | h1
        · subst e; have := (hv.2.2.mem x hx).1; omega
        · exact h1
theorem dif_apply {zs : List Int} {us : List Up} (hz : RV zs) (hu : UV us) (hf : Fits zs us) : dif zs (setR zs us) = us := by
  have hs := setR_RV hz fun u h => (hu.2.mem u h).2.2.2.1
  refine asc_eq (difL_asc _ _ 0 (by omega) (by rw [hz.1]; omega) hz.2 hs.2) hu.2 fun u => ⟨fun h => ?_, fun h => ?_⟩
  · obtain ⟨i, h1, h2, h3⟩ := difL_mem _ _ 0 u h
    have hne : u.o ≠ u.n := ((difL_asc _ _ 0 (by omega) (by rw [hz.1]; omega) hz.2 hs.2).mem u h).2.2.2.2
    rw [setR_get, h2, Option.map_some] at h3
    injection h3 with h3
    by_cases hex : ∃ v ∈ us, v.r.toNat = i
    · obtain ⟨v, hv, rfl⟩ := hex
      have hv1 := hf v hv
      unfold fit1 at hv1
      rw [h2] at hv1
      injection hv1 with hv1
      rw [wantAt_new hu.2 hv] at h3
      have hr := (hu.2.mem v hv).2.1
      have : u = v := Up.ext' (by omega) hv1 h3.symm
      rw [this]; exact hv
    · rw [wantAt_no fun v hv e => hex ⟨v, hv, e⟩] at h3
      exact absurd h3 hne
  · have hr := (hu.2.mem u h).2.1
    have h1 := hf u h
    unfold fit1 at h1
    have h2 := setR_at hu.2 hz.1 h
    have := difL_all zs (setR zs us) 0 u.r.toNat u.o u.n h1 h2 (hu.2.mem u h).2.2.2.2
    have e : (⟨0 + (u.r.toNat : Int), u.o, u.n⟩ : Up) = u := Up.ext' (by show 0 + (u.r.toNat : Int) = u.r; omega) rfl rfl
    rw [e] at this
    exact this

/-! ### Crossing. -/
def Cross (a b : List Up) : Prop := UV a ∧ UV b ∧ ∃ u ∈ a, ∃ v ∈ b, u.r = v.r
theorem Cross.symm {a b : List Up} (h : Cross a b) : Cross b a := by
  obtain ⟨h1, h2, u, hu, v, hv, e⟩ := h
  exact ⟨h2, h1, v, hv, u, hu, e.symm⟩
theorem cross_comm (a b : List Up) : Cross a b ↔ Cross b a := ⟨.symm, .symm⟩
theorem cross_self {a : List Up} (h : UV a) : Cross a a := by
  obtain ⟨u, hu⟩ := List.exists_mem_of_ne_nil a h.1
  exact ⟨h, h, u, hu, u, hu, rfl⟩
theorem no_cross {a b : List Up} (ha : UV a) (hb : UV b) (h : ¬ Cross a b) : ∀ u ∈ a, ∀ v ∈ b, u.r.toNat ≠ v.r.toNat := fun u hu v hv e => by
  have h1 := (ha.2.mem u hu).2.1
  have h2 := (hb.2.mem v hv).2.1
  exact h ⟨ha, hb, u, hu, v, hv, by omega⟩
theorem fits_far {zs : List Int} {a b : List Up} (h : ∀ u ∈ a, ∀ v ∈ b, u.r.toNat ≠ v.r.toNat) : Fits (setR zs a) b ↔ Fits zs b := by
  refine forall_congr' fun v => forall_congr' fun hv => ?_
  unfold fit1
  rw [setR_get]
  cases hz : zs[v.r.toNat]? with
  | none => exact Iff.rfl
  | some w => rw [Option.map_some, wantAt_no fun u hu => h u hu v hv]
theorem set_comm {zs : List Int} {a b : List Up} (ha : UV a) (h : ∀ u ∈ a, ∀ v ∈ b, u.r.toNat ≠ v.r.toNat) : setR (setR zs a) b = setR (setR zs b) a := by
  apply List.ext_getElem?
  intro r
  rw [setR_get, setR_get, setR_get, setR_get]
  cases zs[r]? with
  | none => rfl
  | some w =>
    simp only [Option.map_some, Option.some.injEq]
    by_cases h1 : ∃ u ∈ a, u.r.toNat = r
    · obtain ⟨u, hu, rfl⟩ := h1
      rw [wantAt_no fun v hv e => h u hu v hv e.symm, wantAt_new ha.2 hu, wantAt_new ha.2 hu]
    · have n1 : ∀ u ∈ a, u.r.toNat ≠ r := fun u hu e => h1 ⟨u, hu, e⟩
      rw [wantAt_no (us := a) n1, wantAt_no (us := a) n1]

/-! ### What RefsApply answers. -/
/-- By which of the three ways: invalid, not fitting, performed. -/
inductive RWay | bad | no | yes
def applied (zs : List Int) (us : List Up) : RWay → List Int
  | .bad => []
  | .no => zs
  | .yes => setR zs us
def RWay.ok : RWay → Bool
  | .yes => true
  | _ => false
def IsRWay (zs : List Int) (us : List Up) : RWay → Prop
  | .bad => ¬ (RV zs ∧ UV us)
  | .no => RV zs ∧ UV us ∧ ¬ Fits zs us
  | .yes => RV zs ∧ UV us ∧ Fits zs us
theorem way_of (zs : List Int) (us : List Up) : ∃ y, IsRWay zs us y := by
  by_cases h : RV zs ∧ UV us
  · by_cases hf : Fits zs us
    · exact ⟨.yes, h.1, h.2, hf⟩
    · exact ⟨.no, h.1, h.2, hf⟩
  · exact ⟨.bad, h⟩
end Rf
end Go.Proofs.YteeffchnbkkpfabDoor
namespace Go.Proofs.YteeffchnbkkpfabDoor
namespace Lk
open Rf

/-- A transaction or none. -/
def Own (n : Int) : Prop := -1 ≤ n ∧ n ≤ 11
def LV (zs : List Int) : Prop := zs.length = 4 ∧ ∀ z ∈ zs, Own z
def TV (t : Int) : Prop := 0 ≤ t ∧ t ≤ 11
/-- Taking is performing: from none to the transaction. -/
def lk1 (t : Int) (u : Up) : Up := ⟨u.r, -1, t⟩
def lk (t : Int) (us : List Up) : List Up := us.map (lk1 t)
theorem lk_length (t : Int) (us : List Up) : (lk t us).length = us.length := List.length_map _
theorem lk_asc {t : Int} (ht : TV t) {us : List Up} : ∀ {k : Int}, Asc k us → Asc k (lk t us) := by
  induction us with
  | nil => intro k _; trivial
  | cons u us ih =>
    intro k h
    refine ⟨h.1, ⟨h.2.1.1, ?_, ?_, ?_⟩, ih h.2.2⟩
    · show Val (-1); unfold Val; omega
    · show Val t; unfold Val; unfold TV at ht; omega
    · show (-1 : Int) ≠ t; unfold TV at ht; omega
theorem lk_UV {t : Int} (ht : TV t) {us : List Up} (h : UV us) : UV (lk t us) := ⟨(fun e => h.1 (by cases us with | nil => rfl | cons u us => cases e)), lk_asc ht h.2⟩
theorem take_LV {zs : List Int} {t : Int} {us : List Up} (hz : LV zs) (ht : TV t) : LV (setR zs (lk t us)) := by
  induction us generalizing zs with
  | nil => exact hz
  | cons u us ih =>
    show LV (setR (zs.set u.r.toNat t) (lk t us))
    refine ih ⟨by rw [List.length_set]; exact hz.1, fun z hm => ?_⟩
    rcases List.mem_or_eq_of_mem_set hm with hm | rfl
    · exact hz.2 z hm
    · unfold Own; unfold TV at ht; omega
theorem take_at {zs : List Int} {t : Int} {us : List Up} (hz : LV zs) (ht : TV t) (hu : UV us) {u : Up} (h : u ∈ us) : (setR zs (lk t us))[u.r.toNat]? = some t :=
  setR_at (u := lk1 t u) (lk_asc ht hu.2) hz.1 (List.mem_map_of_mem h)
theorem take_twice {zs : List Int} {t t2 : Int} {us : List Up} (hz : LV zs) (ht : TV t) (hu : UV us) : ¬ Fits (setR zs (lk t us)) (lk t2 us) := by
  obtain ⟨u, h⟩ := List.exists_mem_of_ne_nil us hu.1
  intro hf
  have h1 := hf (lk1 t2 u) (List.mem_map_of_mem h)
  unfold fit1 at h1
  have h2 := take_at hz ht hu h
  rw [show (lk1 t2 u).r = u.r from rfl, h2] at h1
  injection h1 with h1
  have : t = -1 := h1
  unfold TV at ht
  omega
theorem lk_far {t t2 : Int} {us vs : List Up} (h : ∀ u ∈ us, ∀ v ∈ vs, u.r.toNat ≠ v.r.toNat) : ∀ u ∈ lk t us, ∀ v ∈ lk t2 vs, u.r.toNat ≠ v.r.toNat := by
  intro u hu v hv
  obtain ⟨u', hu', rfl⟩ := List.mem_map.1 hu
  obtain ⟨v', hv', rfl⟩ := List.mem_map.1 hv
  exact h u' hu' v' hv'
theorem take_cross {zs : List Int} {t t2 : Int} {us vs : List Up} (hz : LV zs) (ht : TV t) (hu : UV us) (hv : UV vs) (hf : Fits zs (lk t2 vs)) : Fits (setR zs (lk t us)) (lk t2 vs) ↔ ¬ Cross us vs := by
  constructor
  · rintro h ⟨-, -, u, hu1, v, hv1, e⟩
    have h1 := h (lk1 t2 v) (List.mem_map_of_mem hv1)
    unfold fit1 at h1
    have h2 := take_at hz ht hu hu1
    rw [show (lk1 t2 v).r = u.r from e.symm, h2] at h1
    injection h1 with h1
    have : t = -1 := h1
    unfold TV at ht
    omega
  · intro h
    exact (fits_far (lk_far (no_cross hu hv h))).2 hf

/-! ### Whose. -/
def ofL : Int → Int → List Int → List Int
  | _, _, [] => []
  | k, t, z :: zs => if z = t then k :: ofL (k + 1) t zs else ofL (k + 1) t zs
theorem ofL_length (t : Int) : ∀ (zs : List Int) (k : Int), (ofL k t zs).length = zs.count t
  | [], _ => rfl
  | z :: zs, k => by
    have ih := ofL_length t zs (k + 1)
    unfold ofL
    by_cases e : z = t
    · rw [if_pos e, List.length_cons, ih, e, List.count_cons_self]
    · rw [if_neg e, ih, List.count_cons_of_ne e]
theorem ofL_mem (t x : Int) : ∀ (zs : List Int) (k : Int), x ∈ ofL k t zs ↔ ∃ i : Nat, x = k + i ∧ zs[i]? = some t
  | [], k => by simp [ofL]
  | z :: zs, k => by
    have ih := ofL_mem t x zs (k + 1)
    unfold ofL
    constructor
    · intro h
      by_cases e : z = t
      · rw [if_pos e] at h
        rcases List.mem_cons.1 h with rfl | h
        · exact ⟨0, by simp, by rw [e]; rfl⟩
        · obtain ⟨i, h1, h2⟩ := ih.1 h
          exact ⟨i + 1, by omega, h2⟩
      · rw [if_neg e] at h
        obtain ⟨i, h1, h2⟩ := ih.1 h
        exact ⟨i + 1, by omega, h2⟩
    · rintro ⟨i, h1, h2⟩
      cases i with
      | zero =>
        injection h2 with h2
        rw [if_pos h2]
        exact List.mem_cons.2 (.inl (by omega))
      | succ i =>
        have := ih.2 ⟨i, by omega, h2⟩
        by_cases e : z = t
        · rw [if_pos e]; exact List.mem_cons_of_mem _ this
        · rw [if_neg e]; exact this
theorem ofL_le (t : Int) (zs : List Int) (k : Int) : (ofL k t zs).length ≤ zs.length := by rw [ofL_length]; exact List.count_le_length
theorem ofL_none (t : Int) (zs : List Int) : (ofL 0 t zs).length = 0 ↔ t ∉ zs := by rw [ofL_length, List.count_eq_zero]
theorem ofL_at {t : Int} {zs : List Int} {r : Nat} (h : r < zs.length) : (r : Int) ∈ ofL 0 t zs ↔ zs[r] = t := by
  rw [ofL_mem]
  constructor
  · rintro ⟨i, h1, h2⟩
    have : i = r := by omega
    subst this
    rw [List.getElem?_eq_getElem h] at h2
    injection h2
  · intro e
    exact ⟨r, by omega, by rw [List.getElem?_eq_getElem h, e]⟩
theorem ofL_snoc (t : Int) : ∀ (zs : List Int) (z k : Int), ofL k t (zs ++ [z]) = ofL k t zs ++ (if z = t then [k + zs.length] else [])
  | [], z, k => by simp [ofL]
  | y :: zs, z, k => by
    have ih := ofL_snoc t zs z (k + 1)
    have e2 : k + 1 + (zs.length : Int) = k + ((y :: zs).length : Int) := by rw [List.length_cons]; omega
    rw [List.cons_append]
    unfold ofL
    by_cases e : y = t
    · rw [if_pos e, if_pos e, ih, e2]; rfl
    · rw [if_neg e, if_neg e, ih, e2]

/-! ### Freed. -/
def free1 (t z : Int) : Int := if z = t then -1 else z
def freeL (t : Int) (zs : List Int) : List Int := zs.map (free1 t)
theorem free_length (t : Int) (zs : List Int) : (freeL t zs).length = zs.length := List.length_map _
theorem free_LV {t : Int} {zs : List Int} (h : LV zs) : LV (freeL t zs) := by
  refine ⟨by rw [free_length]; exact h.1, fun z hz => ?_⟩
  obtain ⟨y, hy, rfl⟩ := List.mem_map.1 hz
  have := h.2 y hy
  unfold Own free1 at *
  split <;> omega
theorem free_none {t : Int} {zs : List Int} (h : TV t) : t ∉ freeL t zs := by
  intro hm
  obtain ⟨y, -, hy⟩ := List.mem_map.1 hm
  unfold TV at h
  unfold free1 at hy
  split at hy <;> omega
theorem free_same {t : Int} {zs : List Int} (h : t ∉ zs) : freeL t zs = zs := by
  unfold freeL
  conv => rhs; rw [← List.map_id zs]
  refine List.map_congr_left fun z hz => ?_
  unfold free1
  rw [if_neg (fun e => h (by rw [← e]; exact hz))]
  rfl
theorem free_at {t : Int} {zs : List Int} {r : Nat} (h : r < zs.length) (h2 : r < (freeL t zs).length) : (freeL t zs)[r] = if zs[r] = t then -1 else zs[r] := by
  have e : (freeL t zs)[r]? = some (free1 t zs[r]) := by
    unfold freeL
    rw [List.getElem?_map, List.getElem?_eq_getElem h]
    rfl
  rw [List.getElem?_eq_getElem h2] at e
  injection e
/-- What has been taken is freed again. -/
theorem free_take {zs : List Int} {t : Int} {us : List Up} (ht : TV t) (hu : UV us) (hf : Fits zs (lk t us)) (hn : t ∉ zs) : freeL t (setR zs (lk t us)) = zs := by
  apply List.ext_getElem?
  intro r
  unfold freeL
  rw [List.getElem?_map, setR_get]
  cases hz : zs[r]? with
  | none => rfl
  | some w =>
    simp only [Option.map_some, Option.some.injEq]
    by_cases hex : ∃ u ∈ us, u.r.toNat = r
    · obtain ⟨u, h, rfl⟩ := hex
      have h1 := wantAt_new (w := w) (u := lk1 t u) (lk_asc ht hu.2) (List.mem_map_of_mem h)
      rw [show (lk1 t u).r = u.r from rfl] at h1
      rw [h1]
      have h2 := hf (lk1 t u) (List.mem_map_of_mem h)
      unfold fit1 at h2
      rw [show (lk1 t u).r = u.r from rfl, hz] at h2
      injection h2 with h2
      show free1 t t = w
      unfold free1
      rw [if_pos rfl]
      exact h2.symm
    · rw [wantAt_no (us := lk t us) fun v hv => by obtain ⟨u, h, rfl⟩ := List.mem_map.1 hv; exact fun e => hex ⟨u, h, e⟩]
      unfold free1
      rw [if_neg fun e => hn (by rw [← e]; exact List.mem_of_getElem? hz)]
theorem take_has {zs : List Int} {t : Int} {us : List Up} (hz : LV zs) (ht : TV t) (hu : UV us) : t ∈ setR zs (lk t us) := by
  obtain ⟨u, h⟩ := List.exists_mem_of_ne_nil us hu.1
  exact List.mem_of_getElem? (take_at hz ht hu h)
theorem count_set {zs : List Int} {t : Int} : ∀ {r : Nat}, zs[r]? = some (-1) → t ≠ -1 → (zs.set r t).count t = zs.count t + 1 := by
  induction zs with
  | nil => intro r h; simp at h
  | cons z zs ih =>
    intro r h ht
    cases r with
    | zero =>
      injection h with h
      rw [List.set_cons_zero, List.count_cons_self, List.count_cons_of_ne (by rw [h]; exact fun e => ht e.symm)]
    | succ r =>
      rw [List.set_cons_succ]
      have := ih (r := r) h ht
      by_cases e : z = t
      · rw [e, List.count_cons_self, List.count_cons_self, this]
      · rw [List.count_cons_of_ne e, List.count_cons_of_ne e, this]
theorem take_count {t : Int} (ht : TV t) {us : List Up} : ∀ {zs : List Int} {k : Int}, Asc k us → Fits zs (lk t us) → (setR zs (lk t us)).count t = zs.count t + us.length := by
  induction us with
  | nil => intro zs k _ _; rfl
  | cons u us ih =>
    intro zs k h hf
    show (setR (zs.set u.r.toNat t) (lk t us)).count t = _
    have h0 := hf (lk1 t u) (List.mem_cons_self ..)
    unfold fit1 at h0
    rw [show (lk1 t u).r = u.r from rfl] at h0
    have hu0 := h.2.1.1.1
    have hf2 : Fits (zs.set u.r.toNat t) (lk t us) := by
      intro v hv
      obtain ⟨v', hv', rfl⟩ := List.mem_map.1 hv
      have h1 := hf (lk1 t v') (List.mem_cons_of_mem _ (List.mem_map_of_mem hv'))
      have h2 := (h.2.2.mem v' hv').1
      unfold fit1 at h1 ⊢
      rw [show (lk1 t v').r = v'.r from rfl] at h1 ⊢
      rw [List.getElem?_set_ne (by omega)]
      exact h1
    rw [ih h.2.2 hf2, count_set h0 (by unfold TV at ht; omega), List.length_cons]
    omega
/-! ### What LocksTake answers. -/
def IsLWay (zs : List Int) (t : Int) (us : List Up) : RWay → Prop
  | .bad => ¬ (LV zs ∧ TV t ∧ UV us)
  | .no => LV zs ∧ TV t ∧ UV us ∧ ¬ Fits zs (lk t us)
  | .yes => LV zs ∧ TV t ∧ UV us ∧ Fits zs (lk t us)
theorem lway_of (zs : List Int) (t : Int) (us : List Up) : ∃ y, IsLWay zs t us y := by
  by_cases h : LV zs ∧ TV t ∧ UV us
  · by_cases hf : Fits zs (lk t us)
    · exact ⟨.yes, h.1, h.2.1, h.2.2, hf⟩
    · exact ⟨.no, h.1, h.2.1, h.2.2, hf⟩
  · exact ⟨.bad, h⟩
/-- What LocksFree and LocksOf answer. -/
def freed (v : Bool) (zs : List Int) (t : Int) : List Int := if v then freeL t zs else []
def owned (v : Bool) (zs : List Int) (t : Int) : List Int := if v then ofL 0 t zs else []
end Lk
end Go.Proofs.YteeffchnbkkpfabDoor
namespace Go.Proofs.YteeffchnbkkpfabDoor
namespace Sh
open Rf Lk

/-- A record: its kind, its transaction, its updates. -/
structure Rec where
  k : Int
  t : Int
  us : List Up
/-- The state of a shard. -/
structure St where
  refs : List Int
  locks : List Int
/-- What the records say of a transaction: the kind of the last one. -/
def ask (rs : List Rec) (t : Int) : Int := rs.foldl (fun s r => if r.t = t then r.k else s) 0
/-- The updates of the first vote for it. -/
def upd : List Rec → Int → List Up
  | [], _ => []
  | r :: rs, t => if r.t = t ∧ r.k = 1 then r.us else upd rs t
theorem ask_snoc (rs : List Rec) (r : Rec) (t : Int) : ask (rs ++ [r]) t = if r.t = t then r.k else ask rs t := by
  unfold ask
  rw [List.foldl_append]
  rfl
theorem upd_snoc (rs : List Rec) (r : Rec) (t : Int) (h : r.t = t → r.k = 1 → ∀ x ∈ rs, ¬ (x.t = t ∧ x.k = 1)) : upd (rs ++ [r]) t = if r.t = t ∧ r.k = 1 then r.us else upd rs t := by
  induction rs with
  | nil => rfl
  | cons x rs ih =>
    show (if x.t = t ∧ x.k = 1 then x.us else upd (rs ++ [r]) t) = _
    have ih' := ih fun h1 h2 y hy => h h1 h2 y (List.mem_cons_of_mem _ hy)
    by_cases hx : x.t = t ∧ x.k = 1
    · rw [if_pos hx]
      by_cases hr : r.t = t ∧ r.k = 1
      · exact absurd hx (h hr.1 hr.2 x List.mem_cons_self)
      · rw [if_neg hr]
        show _ = (if x.t = t ∧ x.k = 1 then x.us else upd rs t)
        rw [if_pos hx]
    · rw [if_neg hx, ih']
      show _ = if r.t = t ∧ r.k = 1 then r.us else (if x.t = t ∧ x.k = 1 then x.us else upd rs t)
      rw [if_neg hx]
/-- A record that may follow on others, by its kind. -/
inductive Step (rs : List Rec) (s : St) (r : Rec) : St → Prop
  | prepare : r.k = 1 → ask rs r.t = 0 → UV r.us → Fits s.refs r.us → Fits s.locks (lk r.t r.us) → Step rs s r ⟨s.refs, setR s.locks (lk r.t r.us)⟩
  | commit : r.k = 2 → ask rs r.t = 1 → r.us = [] → Step rs s r ⟨setR s.refs (upd rs r.t), freeL r.t s.locks⟩
  | abort : r.k = 3 → (ask rs r.t = 0 ∨ ask rs r.t = 1) → r.us = [] → Step rs s r ⟨s.refs, freeL r.t s.locks⟩
theorem Step.one {rs : List Rec} {s : St} {r : Rec} {a b : St} (h1 : Step rs s r a) (h2 : Step rs s r b) : a = b := by
  cases h1 <;> cases h2 <;> first | rfl | omega
/-- What all records make of a new shard. -/
inductive Rcv : List Rec → St → Prop
  | nil : Rcv [] ⟨[-1, -1, -1, -1], [-1, -1, -1, -1]⟩
  | snoc {rs : List Rec} {s s' : St} {r : Rec} : Rcv rs s → TV r.t → Step rs s r s' → Rcv (rs ++ [r]) s'
/-- What holds of a shard all the time. -/
structure Inv (rs : List Rec) (s : St) : Prop where
  refs : RV s.refs
  locks : LV s.locks
  kinds : ∀ r ∈ rs, TV r.t ∧ (r.k = 1 ∨ r.k = 2 ∨ r.k = 3)
  none_ : ∀ t, ask rs t = 0 → ∀ r ∈ rs, r.t ≠ t
  prep : ∀ t, ask rs t = 1 → TV t ∧ UV (upd rs t) ∧ Fits s.refs (upd rs t) ∧ ∀ u ∈ upd rs t, s.locks[u.r.toNat]? = some t
  owner : ∀ (r : Nat) (z : Int), s.locks[r]? = some z → z = -1 ∨ (ask rs z = 1 ∧ ∃ u ∈ upd rs z, u.r.toNat = r)
theorem Inv.begin_ : Inv [] ⟨[-1, -1, -1, -1], [-1, -1, -1, -1]⟩ := by
  refine ⟨⟨rfl, fun z hz => ?_⟩, ⟨rfl, fun z hz => ?_⟩, fun r hr => (by cases hr), fun t _ r hr => (by cases hr), fun t ht => absurd ht (by unfold ask; simp), fun r z hz => .inl ?_⟩
  · simp at hz; subst hz; unfold Val; omega
  · simp at hz; subst hz; unfold Lk.Own; omega
  · match r, hz with
    | 0, hz => simpa using hz.symm
    | 1, hz => simpa using hz.symm
    | 2, hz => simpa using hz.symm
    | 3, hz => simpa using hz.symm
    | r + 4, hz => simp at hz
theorem ask_fresh {rs : List Rec} {s : St} (h : Inv rs s) {t : Int} (ht : ask rs t = 0) : ∀ x ∈ rs, ¬ (x.t = t ∧ x.k = 1) := fun x hx e => h.none_ t ht x hx e.1
theorem ask_kind {rs : List Rec} {s : St} (h : Inv rs s) {r : Rec} (hr : r.k ≠ 0) : ∀ t, ask (rs ++ [r]) t = 0 → ∀ x ∈ rs ++ [r], x.t ≠ t := fun t ht x hx e => by
  rw [ask_snoc] at ht
  by_cases hrt : r.t = t
  · rw [if_pos hrt] at ht; exact hr ht
  · rw [if_neg hrt] at ht
    rcases List.mem_append.1 hx with hx | hx
    · exact h.none_ t ht x hx e
    · rw [List.mem_singleton] at hx
      subst hx
      exact hrt e
theorem free_get {t : Int} {zs : List Int} {r : Nat} : (freeL t zs)[r]? = zs[r]?.map fun z => if z = t then -1 else z := by
  unfold freeL
  rw [List.getElem?_map]
  rfl
theorem setR_far {zs : List Int} {us : List Up} {r : Nat} (h : ∀ u ∈ us, u.r.toNat ≠ r) : (setR zs us)[r]? = zs[r]? := by
  rw [setR_get]
  cases hz : zs[r]? with
  | none => rfl
  | some w => simp [wantAt_no h]
theorem Inv.step {rs : List Rec} {s s' : St} {r : Rec} (h : Inv rs s) (ht : TV r.t) (hs : Step rs s r s') : Inv (rs ++ [r]) s' := by
  have hk : r.k = 1 ∨ r.k = 2 ∨ r.k = 3 := by cases hs <;> omega
  have kinds : ∀ x ∈ rs ++ [r], TV x.t ∧ (x.k = 1 ∨ x.k = 2 ∨ x.k = 3) := fun x hx => by
    rcases List.mem_append.1 hx with hx | hx
    · exact h.kinds x hx
    · rw [List.mem_singleton] at hx
      subst hx
      exact ⟨ht, hk⟩
  have none_ := ask_kind h (r := r) (by omega)
  cases hs with
  | prepare k1 k2 k3 k4 k5 =>
    have hu : ∀ t, upd (rs ++ [r]) t = if r.t = t ∧ r.k = 1 then r.us else upd rs t := fun t => upd_snoc rs r t fun e _ => ask_fresh h (by rw [← e]; exact k2)
    have far : ∀ z, ask rs z = 1 → ∀ u ∈ upd rs z, ∀ v ∈ lk r.t r.us, v.r.toNat ≠ u.r.toNat := fun z hz u hu' v hv e => by
      have h1 := (h.prep z hz).2.2.2 u hu'
      have h2 : s.locks[v.r.toNat]? = some v.o := k5 v hv
      obtain ⟨v0, hv0, rfl⟩ := List.mem_map.1 hv
      have h3 : s.locks[u.r.toNat]? = some (-1) := by rw [← e]; exact h2
      rw [h1] at h3
      have := (h.prep z hz).1
      unfold TV at this
      injection h3 with h3
      omega
    refine ⟨h.refs, take_LV h.locks ht, kinds, none_, fun t hat => ?_, fun i z hz => ?_⟩
    · rw [ask_snoc] at hat
      rw [hu t]
      by_cases e : r.t = t
      · rw [if_pos ⟨e, k1⟩]
        subst e
        exact ⟨ht, k3, k4, fun u hu' => take_at h.locks ht k3 hu'⟩
      · rw [if_neg e] at hat
        rw [if_neg fun x => e x.1]
        obtain ⟨p1, p2, p3, p4⟩ := h.prep t hat
        exact ⟨p1, p2, p3, fun u hu' => by rw [setR_far (far t hat u hu')]; exact p4 u hu'⟩
    · by_cases hex : ∃ u ∈ r.us, u.r.toNat = i
      · obtain ⟨u, hu', rfl⟩ := hex
        have h1 := take_at h.locks ht k3 hu'
        have e : z = r.t := by rw [show (setR s.locks (lk r.t r.us))[u.r.toNat]? = some z from hz] at h1; injection h1
        subst e
        right
        rw [ask_snoc, if_pos rfl, hu, if_pos ⟨rfl, k1⟩]
        exact ⟨k1, u, hu', rfl⟩
      · have hz' : s.locks[i]? = some z := by
          rw [← hz]
          refine (setR_far fun v hv e => hex ?_).symm
          obtain ⟨v0, hv0, rfl⟩ := List.mem_map.1 hv
          exact ⟨v0, hv0, e⟩
        rcases h.owner i z hz' with e | ⟨e1, e2⟩
        · exact .inl e
        · right
          have hne : ¬ r.t = z := fun e => by rw [e, e1] at k2; omega
          rw [ask_snoc, if_neg hne, hu, if_neg fun x => hne x.1]
          exact ⟨e1, e2⟩
  | commit k1 k2 k3 =>
    have hu : ∀ t, upd (rs ++ [r]) t = upd rs t := fun t => by rw [upd_snoc rs r t fun _ e => by omega, if_neg fun x => by omega]
    obtain ⟨q1, q2, q3, q4⟩ := h.prep r.t k2
    refine ⟨setR_RV h.refs fun u hu' => (q2.2.mem u hu').2.2.2.1, free_LV h.locks, kinds, none_, fun t hat => ?_, fun i z hz => ?_⟩
    · rw [ask_snoc] at hat
      by_cases e : r.t = t
      · rw [if_pos e] at hat; omega
      · rw [if_neg e] at hat
        rw [hu]
        obtain ⟨p1, p2, p3, p4⟩ := h.prep t hat
        refine ⟨p1, p2, fun u hu' => ?_, fun u hu' => ?_⟩
        · show (setR s.refs (upd rs r.t))[u.r.toNat]? = _
          rw [setR_far fun v hv e2 => e ?_]
          · exact p3 u hu'
          · have h1 := q4 v hv
            have h2 := p4 u hu'
            rw [e2, h2] at h1
            injection h1 with h1
            exact h1.symm
        · show (freeL r.t s.locks)[u.r.toNat]? = _
          rw [free_get, p4 u hu']
          simp only [Option.map_some, Option.some.injEq]
          rw [if_neg fun x => e x.symm]
    · rw [show (freeL r.t s.locks)[i]? = s.locks[i]?.map _ from free_get] at hz
      cases hz' : s.locks[i]? with
      | none => rw [hz'] at hz; cases hz
      | some z0 =>
        rw [hz'] at hz
        simp only [Option.map_some, Option.some.injEq] at hz
        by_cases e : z0 = r.t
        · rw [if_pos e] at hz; exact .inl hz.symm
        · rw [if_neg e] at hz
          subst hz
          rcases h.owner i z0 hz' with e' | ⟨e1, e2⟩
          · exact .inl e'
          · right
            rw [ask_snoc, if_neg fun x => e x.symm, hu]
            exact ⟨e1, e2⟩
  | abort k1 k2 k3 =>
    have hu : ∀ t, upd (rs ++ [r]) t = upd rs t := fun t => by rw [upd_snoc rs r t fun _ e => by omega, if_neg fun x => by omega]
    refine ⟨h.refs, free_LV h.locks, kinds, none_, fun t hat => ?_, fun i z hz => ?_⟩
    · rw [ask_snoc] at hat
      by_cases e : r.t = t
      · rw [if_pos e] at hat; omega
      · rw [if_neg e] at hat
        rw [hu]
        obtain ⟨p1, p2, p3, p4⟩ := h.prep t hat
        refine ⟨p1, p2, p3, fun u hu' => ?_⟩
        show (freeL r.t s.locks)[u.r.toNat]? = _
        rw [free_get, p4 u hu']
        simp only [Option.map_some, Option.some.injEq]
        rw [if_neg fun x => e x.symm]
    · rw [show (freeL r.t s.locks)[i]? = s.locks[i]?.map _ from free_get] at hz
      cases hz' : s.locks[i]? with
      | none => rw [hz'] at hz; cases hz
      | some z0 =>
        rw [hz'] at hz
        simp only [Option.map_some, Option.some.injEq] at hz
        by_cases e : z0 = r.t
        · rw [if_pos e] at hz; exact .inl hz.symm
        · rw [if_neg e] at hz
          subst hz
          rcases h.owner i z0 hz' with e' | ⟨e1, e2⟩
          · exact .inl e'
          · right
            rw [ask_snoc, if_neg fun x => e x.symm, hu]
            exact ⟨e1, e2⟩
theorem Rcv.inv {rs : List Rec} {s : St} (h : Rcv rs s) : Inv rs s := by
  induction h with
  | nil => exact Inv.begin_
  | snoc _ ht hs ih => exact ih.step ht hs
theorem Rcv.snoc_inv {rs : List Rec} {r : Rec} {s' : St} (h : Rcv (rs ++ [r]) s') : ∃ s, Rcv rs s ∧ TV r.t ∧ Step rs s r s' := by
  generalize hx : rs ++ [r] = xs at h
  cases h with
  | nil => exact absurd hx (by simp)
  | snoc h1 h2 h3 =>
    obtain ⟨rfl, e⟩ := List.append_inj' hx rfl
    simp only [List.cons.injEq, and_true] at e
    subst e
    exact ⟨_, h1, h2, h3⟩
theorem Rcv.one {rs : List Rec} : ∀ {a b : St}, Rcv rs a → Rcv rs b → a = b := by
  intro a b h
  induction h generalizing b with
  | nil =>
    intro k
    generalize hx : ([] : List Rec) = xs at k
    cases k with
    | nil => rfl
    | snoc _ _ _ => exact absurd hx.symm (by simp)
  | snoc h1 _ h3 ih =>
    intro k
    obtain ⟨s2, k1, _, k3⟩ := k.snoc_inv
    obtain rfl := ih k1
    exact h3.one k3
theorem Rcv.pre {xs ys : List Rec} {s : St} (h : Rcv (xs ++ ys) s) : ∃ s0, Rcv xs s0 := by
  generalize hz : xs ++ ys = zs at h
  induction h generalizing ys with
  | nil =>
    obtain ⟨rfl, -⟩ := List.append_eq_nil_iff.1 hz
    exact ⟨_, .nil⟩
  | @snoc rs s s' r h1 h2 h3 ih =>
    by_cases hy : ys = []
    · subst hy
      rw [List.append_nil] at hz
      subst hz
      exact ⟨_, .snoc h1 h2 h3⟩
    · have e := List.dropLast_concat_getLast hy
      rw [← e, ← List.append_assoc] at hz
      exact ih (List.append_inj' hz rfl).1
/-- Exactly prepared transactions have locks. -/
theorem Inv.has {rs : List Rec} {s : St} (h : Inv rs s) {t : Int} (ht : TV t) : t ∈ s.locks ↔ ask rs t = 1 := by
  refine ⟨fun hm => ?_, fun ha => ?_⟩
  · obtain ⟨i, hi, e⟩ := List.mem_iff_getElem.1 hm
    rcases h.owner i t (by rw [List.getElem?_eq_getElem hi, e]) with e | ⟨e, _⟩
    · unfold TV at ht; omega
    · exact e
  · obtain ⟨_, hu, _, hl⟩ := h.prep t ha
    obtain ⟨u, hu'⟩ := List.exists_mem_of_ne_nil _ hu.1
    exact List.mem_of_getElem? (hl u hu')
/-- The committed transactions, in their order. -/
def com (rs : List Rec) : List Int := (rs.filter fun r => r.k == 2).map Rec.t
theorem com_snoc (rs : List Rec) (r : Rec) : com (rs ++ [r]) = com rs ++ if r.k = 2 then [r.t] else [] := by
  unfold com
  rw [List.filter_append, List.map_append]
  by_cases e : r.k = 2
  · simp [e]
  · simp [e]
theorem Rcv.com_iff {rs : List Rec} {s : St} (h : Rcv rs s) (t : Int) : t ∈ com rs ↔ ask rs t = 2 := by
  induction h with
  | nil => unfold com ask; simp
  | @snoc rs s s' r h1 h2 h3 ih =>
    rw [com_snoc, ask_snoc]
    by_cases e : r.t = t
    · subst e
      rw [if_pos rfl]
      cases h3 with
      | prepare k1 k2 _ _ _ => rw [k1]; simp; rw [ih]; omega
      | commit k1 _ _ => rw [k1]; simp
      | abort k1 k2 _ => rw [k1]; simp; rw [ih]; omega
    · rw [if_neg e]
      have : t ∉ (if r.k = 2 then [r.t] else []) := by
        split
        · simp; exact fun x => e x.symm
        · simp
      rw [List.mem_append, ← ih]
      exact ⟨fun x => x.elim id fun y => absurd y this, .inl⟩
theorem Rcv.com_nodup {rs : List Rec} {s : St} (h : Rcv rs s) : (com rs).Nodup := by
  induction h with
  | nil => exact List.nodup_nil
  | @snoc rs s s' r h1 h2 h3 ih =>
    rw [com_snoc]
    split
    · rename_i hk
      rw [List.nodup_append]
      refine ⟨ih, List.nodup_cons.2 ⟨by simp, List.nodup_nil⟩, fun a ha b hb e => ?_⟩
      rw [List.mem_singleton] at hb
      subst hb
      subst e
      have := (h1.com_iff r.t).1 ha
      cases h3 <;> omega
    · rw [List.append_nil]; exact ih
def start : List Int := [-1, -1, -1, -1]
/-- The refs after the first transactions of a list. -/
def after (rs : List Rec) (ts : List Int) : List Int := ts.foldl (fun z t => setR z (upd rs t)) start
theorem after_congr {rs rs' : List Rec} {ts : List Int} (h : ∀ t ∈ ts, upd rs' t = upd rs t) : after rs' ts = after rs ts := by
  unfold after
  generalize start = z
  induction ts generalizing z with
  | nil => rfl
  | cons t ts ih =>
    show ts.foldl _ (setR z (upd rs' t)) = ts.foldl _ (setR z (upd rs t))
    rw [h t List.mem_cons_self]
    exact ih (fun t ht => h t (List.mem_cons_of_mem _ ht)) _
/-- Refs are those of the committed transactions, each of which fitted in its time. -/
theorem Rcv.refs_of {rs : List Rec} {s : St} (h : Rcv rs s) : s.refs = after rs (com rs) ∧ ∀ i (hi : i < (com rs).length), UV (upd rs (com rs)[i]) ∧ Fits (after rs ((com rs).take i)) (upd rs (com rs)[i]) := by
  induction h with
  | nil => exact ⟨rfl, fun i hi => absurd hi (by unfold com; simp)⟩
  | @snoc rs s s' r h1 h2 h3 ih =>
    obtain ⟨ih1, ih2⟩ := ih
    have hi := h1.inv
    have same : ∀ t ∈ com rs, upd (rs ++ [r]) t = upd rs t := fun t ht => by
      have ha := (h1.com_iff t).1 ht
      rw [upd_snoc rs r t fun e1 e2 => by
        have : ask rs r.t = 0 := by cases h3 <;> first | assumption | omega
        exact ask_fresh hi (by rw [← e1]; exact this)]
      rw [if_neg]
      rintro ⟨e1, e2⟩
      have : ask rs r.t = 0 := by cases h3 <;> first | assumption | omega
      rw [e1] at this
      omega
    have old : ∀ i (hx : i < (com rs).length), UV (upd (rs ++ [r]) (com rs)[i]) ∧ Fits (after (rs ++ [r]) ((com rs).take i)) (upd (rs ++ [r]) (com rs)[i]) := fun i hx => by
      rw [same _ (List.getElem_mem hx), after_congr fun t ht => same t (List.mem_of_mem_take ht)]
      exact ih2 i hx
    by_cases hk : r.k = 2
    · have hc : com (rs ++ [r]) = com rs ++ [r.t] := by rw [com_snoc, if_pos hk]
      have hask : ask rs r.t = 1 := by cases h3 <;> first | assumption | omega
      have hup : upd (rs ++ [r]) r.t = upd rs r.t := by rw [upd_snoc rs r r.t fun _ e => by omega, if_neg fun x => by omega]
      obtain ⟨_, p2, p3, _⟩ := hi.prep r.t hask
      have hall : after (rs ++ [r]) (com rs) = s.refs := by rw [after_congr same, ← ih1]
      refine ⟨?_, fun i hx => ?_⟩
      · have e : s'.refs = setR s.refs (upd rs r.t) := by cases h3 <;> first | rfl | omega
        rw [hc, e]
        unfold after
        rw [List.foldl_append]
        show _ = setR (after (rs ++ [r]) (com rs)) (upd (rs ++ [r]) r.t)
        rw [hall, hup]
      · by_cases hl : i < (com rs).length
        · have := old i hl
          simp only [hc, List.getElem_append_left hl, List.take_append_of_le_length (Nat.le_of_lt hl)]
          exact this
        · have hil : i = (com rs).length := by rw [hc] at hx; simp at hx; omega
          subst hil
          have e1 : (com (rs ++ [r]))[(com rs).length] = r.t := by simp [hc]
          have e2 : (com (rs ++ [r])).take (com rs).length = com rs := by simp [hc]
          rw [e1, e2, hall, hup]
          exact ⟨p2, p3⟩
    · have hc : com (rs ++ [r]) = com rs := by rw [com_snoc, if_neg hk, List.append_nil]
      have e : s'.refs = s.refs := by cases h3 <;> first | rfl | omega
      refine ⟨by rw [hc, e, after_congr same, ih1], fun i hx => ?_⟩
      have := old i (by rw [hc] at hx; exact hx)
      simp only [hc]
      exact this
/-! ### What the functions on shards answer. -/
def Vld (rs : List Rec) : Prop := (∃ s, Rcv rs s) ∧ rs.length ≤ 30
theorem Vld.snoc_iff {rs : List Rec} {s : St} (h : Rcv rs s) (r : Rec) : Vld (rs ++ [r]) ↔ rs.length < 30 ∧ TV r.t ∧ ∃ s', Step rs s r s' := by
  constructor
  · rintro ⟨⟨s', h'⟩, hl⟩
    obtain ⟨s0, h0, ht, hs⟩ := h'.snoc_inv
    obtain rfl := h.one h0
    exact ⟨by simp at hl; omega, ht, s', hs⟩
  · rintro ⟨hl, ht, s', hs⟩
    exact ⟨⟨s', .snoc h ht hs⟩, by simp; omega⟩
theorem Vld.prepare_iff {rs : List Rec} {s : St} (h : Rcv rs s) {t : Int} (ht : TV t) (us : List Up) :
    Vld (rs ++ [⟨1, t, us⟩]) ↔ rs.length < 30 ∧ ask rs t = 0 ∧ UV us ∧ Fits s.refs us ∧ Fits s.locks (lk t us) := by
  rw [Vld.snoc_iff h]
  constructor
  · rintro ⟨hl, -, s', hs⟩
    cases hs with
    | prepare _ k2 k3 k4 k5 => exact ⟨hl, k2, k3, k4, k5⟩
    | commit k1 _ _ => exact absurd k1 (by simp)
    | abort k1 _ _ => exact absurd k1 (by simp)
  · rintro ⟨hl, k2, k3, k4, k5⟩
    exact ⟨hl, ht, _, .prepare rfl k2 k3 k4 k5⟩
theorem Vld.commit_iff {rs : List Rec} {s : St} (h : Rcv rs s) {t : Int} (ht : TV t) : Vld (rs ++ [⟨2, t, []⟩]) ↔ rs.length < 30 ∧ ask rs t = 1 := by
  rw [Vld.snoc_iff h]
  constructor
  · rintro ⟨hl, -, s', hs⟩
    cases hs with
    | prepare k1 _ _ _ _ => exact absurd k1 (by simp)
    | commit _ k2 _ => exact ⟨hl, k2⟩
    | abort k1 _ _ => exact absurd k1 (by simp)
  · rintro ⟨hl, k2⟩
    exact ⟨hl, ht, _, .commit rfl k2 rfl⟩
theorem Vld.abort_iff {rs : List Rec} {s : St} (h : Rcv rs s) {t : Int} (ht : TV t) : Vld (rs ++ [⟨3, t, []⟩]) ↔ rs.length < 30 ∧ (ask rs t = 0 ∨ ask rs t = 1) := by
  rw [Vld.snoc_iff h]
  constructor
  · rintro ⟨hl, -, s', hs⟩
    cases hs with
    | prepare k1 _ _ _ _ => exact absurd k1 (by simp)
    | commit k1 _ _ => exact absurd k1 (by simp)
    | abort _ k2 _ => exact ⟨hl, k2⟩
  · rintro ⟨hl, k2⟩
    exact ⟨hl, ht, _, .abort rfl k2 rfl⟩
theorem ask_range {rs : List Rec} {s : St} (h : Rcv rs s) (t : Int) : ask rs t = 0 ∨ ask rs t = 1 ∨ ask rs t = 2 ∨ ask rs t = 3 := by
  induction h with
  | nil => exact .inl (by unfold ask; simp)
  | @snoc rs s s' r h1 h2 h3 ih =>
    rw [ask_snoc]
    split
    · cases h3 <;> omega
    · exact ih
theorem ask_TV {rs : List Rec} {s : St} (h : Rcv rs s) {t : Int} (ht : ¬ TV t) : ask rs t = 0 := by
  induction h with
  | nil => unfold ask; simp
  | @snoc rs s s' r h1 h2 h3 ih =>
    rw [ask_snoc, if_neg fun e => ht (by rw [← e]; exact h2)]
    exact ih
/-- A vote, all that it may come to: the records behind it, and the word. -/
inductive Voted (rs : List Rec) (t : Int) (us : List Up) : List Rec → Bool → Prop
  | bad : ¬ (Vld rs ∧ TV t ∧ UV us) → Voted rs t us [] false
  | known : Vld rs → TV t → UV us → ask rs t ≠ 0 → Voted rs t us rs (ask rs t == 1)
  | yes : Vld rs → TV t → UV us → ask rs t = 0 → Vld (rs ++ [⟨1, t, us⟩]) → Voted rs t us (rs ++ [⟨1, t, us⟩]) true
  | no : Vld rs → TV t → UV us → ask rs t = 0 → ¬ Vld (rs ++ [⟨1, t, us⟩]) → rs.length < 30 → Voted rs t us (rs ++ [⟨3, t, []⟩]) false
  | full : Vld rs → TV t → UV us → ask rs t = 0 → ¬ rs.length < 30 → Voted rs t us rs false
/-- A decision: k is 2 for a commit, 3 for an abort. -/
inductive Decided (rs : List Rec) (t k : Int) : List Rec → Bool → Prop
  | bad : ¬ (Vld rs ∧ TV t) → Decided rs t k [] false
  | known : Vld rs → TV t → ask rs t = k → Decided rs t k rs true
  | yes : Vld rs → TV t → ask rs t ≠ k → Vld (rs ++ [⟨k, t, []⟩]) → Decided rs t k (rs ++ [⟨k, t, []⟩]) true
  | no : Vld rs → TV t → ask rs t ≠ k → ¬ Vld (rs ++ [⟨k, t, []⟩]) → Decided rs t k rs false
theorem voted_ex (rs : List Rec) (t : Int) (us : List Up) : ∃ xs b, Voted rs t us xs b := by
  by_cases h : Vld rs ∧ TV t ∧ UV us
  · obtain ⟨h1, h2, h3⟩ := h
    by_cases ha : ask rs t = 0
    · by_cases hl : rs.length < 30
      · by_cases hv : Vld (rs ++ [⟨1, t, us⟩])
        · exact ⟨_, _, .yes h1 h2 h3 ha hv⟩
        · exact ⟨_, _, .no h1 h2 h3 ha hv hl⟩
      · exact ⟨_, _, .full h1 h2 h3 ha hl⟩
    · exact ⟨_, _, .known h1 h2 h3 ha⟩
  · exact ⟨_, _, .bad h⟩
theorem decided_ex (rs : List Rec) (t k : Int) : ∃ xs b, Decided rs t k xs b := by
  by_cases h : Vld rs ∧ TV t
  · obtain ⟨h1, h2⟩ := h
    by_cases ha : ask rs t = k
    · exact ⟨_, _, .known h1 h2 ha⟩
    · by_cases hv : Vld (rs ++ [⟨k, t, []⟩])
      · exact ⟨_, _, .yes h1 h2 ha hv⟩
      · exact ⟨_, _, .no h1 h2 ha hv⟩
  · exact ⟨_, _, .bad h⟩
/-! ### What the laws ask. -/
/-- A decision is final. -/
theorem final {rs : List Rec} {s : St} (h : Rcv rs s) {t k k' : Int} (ht : TV t) (ha : ask rs t = k) (hk : k = 2 ∨ k = 3) (hk' : k' = 2 ∨ k' = 3) : ¬ Vld (rs ++ [⟨k', t, []⟩]) := by
  rcases hk' with rfl | rfl
  · rw [Vld.commit_iff h ht]; omega
  · rw [Vld.abort_iff h ht]; omega
theorem fits_lk {zs : List Int} {t : Int} {us : List Up} : Fits zs (lk t us) ↔ ∀ u ∈ us, zs[u.r.toNat]? = some (-1) := by
  constructor
  · intro h u hu
    exact h (lk1 t u) (List.mem_map_of_mem hu)
  · intro h v hv
    obtain ⟨u, hu, rfl⟩ := List.mem_map.1 hv
    exact h u hu
/-- A commit performs the updates, and frees what was locked; all else stays. -/
theorem commit_at {rs : List Rec} {s : St} (h : Inv rs s) {t : Int} (ha : ask rs t = 1) (i : Nat) :
    (s.locks[i]? = some t → (freeL t s.locks)[i]? = some (-1) ∧ (setR s.refs (upd rs t))[i]? ≠ s.refs[i]?) ∧ (s.locks[i]? ≠ some t → (freeL t s.locks)[i]? = s.locks[i]? ∧ (setR s.refs (upd rs t))[i]? = s.refs[i]?) := by
  obtain ⟨ht, hu, hf, hl⟩ := h.prep t ha
  refine ⟨fun e => ?_, fun e => ?_⟩
  · refine ⟨by rw [free_get, e]; simp, fun e2 => ?_⟩
    rcases h.owner i t e with e3 | ⟨_, u, hu', e4⟩
    · unfold TV at ht; omega
    · subst e4
      have h1 := setR_at hu.2 h.refs.1 hu'
      have h2 : s.refs[u.r.toNat]? = some u.o := hf u hu'
      rw [e2, h2] at h1
      injection h1 with h1
      exact (hu.2.mem u hu').2.2.2.2 h1
  · refine ⟨?_, setR_far fun u hu' e2 => e (by rw [← e2]; exact hl u hu')⟩
    rw [free_get]
    cases hz : s.locks[i]? with
    | none => rfl
    | some z =>
      rw [hz] at e
      simp only [Option.map_some]
      rw [if_neg fun x => e (by rw [x])]
/-- A vote locks what it is about. -/
theorem prepare_at {rs : List Rec} {s : St} (h : Inv rs s) {t : Int} (ht : TV t) {us : List Up} (hu : UV us) (hf : Fits s.locks (lk t us)) {u : Up} (hm : u ∈ us) : s.locks[u.r.toNat]? = some (-1) ∧ (setR s.locks (lk t us))[u.r.toNat]? = some t :=
  ⟨fits_lk.1 hf u hm, take_at h.locks ht hu hm⟩
/-- Another transaction is not concerned. -/
theorem voted_other {rs xs : List Rec} {t t' : Int} {us : List Up} {b : Bool} (h : Voted rs t us xs b) (hx : xs ≠ []) (hne : t' ≠ t) : ask xs t' = ask rs t' := by
  cases h with
  | bad _ => exact absurd rfl hx
  | known _ _ _ _ => rfl
  | yes _ _ _ _ _ => rw [ask_snoc, if_neg fun e => hne e.symm]
  | no _ _ _ _ _ _ => rw [ask_snoc, if_neg fun e => hne e.symm]
  | full _ _ _ _ _ => rfl
theorem decided_other {rs xs : List Rec} {t t' k : Int} {b : Bool} (h : Decided rs t k xs b) (hx : xs ≠ []) (hne : t' ≠ t) : ask xs t' = ask rs t' := by
  cases h with
  | bad _ => exact absurd rfl hx
  | known _ _ _ => rfl
  | yes _ _ _ _ => rw [ask_snoc, if_neg fun e => hne e.symm]
  | no _ _ _ _ => rfl
theorem voted_valid {rs xs : List Rec} {t : Int} {us : List Up} {b : Bool} (h : Voted rs t us xs b) : Vld xs := by
  cases h with
  | bad _ => exact ⟨⟨_, .nil⟩, Nat.zero_le _⟩
  | known h1 _ _ _ => exact h1
  | yes _ _ _ _ h5 => exact h5
  | no h1 h2 _ h4 _ h6 => obtain ⟨⟨s, hs⟩, _⟩ := h1; exact (Vld.abort_iff hs h2).2 ⟨h6, .inl h4⟩
  | full h1 _ _ _ _ => exact h1
theorem decided_valid {rs xs : List Rec} {t k : Int} {b : Bool} (h : Decided rs t k xs b) : Vld xs := by
  cases h with
  | bad _ => exact ⟨⟨_, .nil⟩, Nat.zero_le _⟩
  | known h1 _ _ => exact h1
  | yes _ _ _ h4 => exact h4
  | no h1 _ _ _ => exact h1
/-- The same request gets the same vote, where a record more fits. -/
theorem voted_twice {rs xs : List Rec} {t : Int} {us : List Up} {b : Bool} (h : Voted rs t us xs b) (hx : xs ≠ []) (hl : rs.length ≠ 30) : Voted xs t us xs b := by
  have hv := voted_valid h
  cases h with
  | bad _ => exact absurd rfl hx
  | known h1 h2 h3 h4 => exact .known h1 h2 h3 h4
  | yes _ h2 h3 _ _ =>
    have e : ask (rs ++ [⟨1, t, us⟩]) t = 1 := by rw [ask_snoc, if_pos rfl]
    have := Voted.known hv h2 h3 (by rw [e]; decide)
    rw [e] at this
    exact this
  | no _ h2 h3 _ _ _ =>
    have e : ask (rs ++ [⟨3, t, []⟩]) t = 3 := by rw [ask_snoc, if_pos rfl]
    have := Voted.known hv h2 h3 (by rw [e]; decide)
    rw [e] at this
    exact this
  | full h1 _ _ _ h5 => have := h1.2; omega
end Sh
end Go.Proofs.YteeffchnbkkpfabDoor
