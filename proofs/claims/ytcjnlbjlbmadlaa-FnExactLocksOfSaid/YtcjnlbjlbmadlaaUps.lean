/-
  Lists of updates in memory: three cells each.
-/
import Derived.Test.YtcjnlbjlbmadlaaKitD
import Derived.Test.YtcjnlbjlbmadlaaRefP
namespace Go.Proofs.Ytcjnlbjlbmadlaa
open Go.RowKit Wo Pu Rf

def upV (o : Up) : List Value := [.int .i64 o.r, .int .i64 o.o, .int .i64 o.n]
def upsV (os : List Up) : List Value := os.flatMap upV
theorem upsV_length (os : List Up) : (upsV os).length = os.length * 3 := by
  induction os with
  | nil => rfl
  | cons o os ih => show (upV o ++ upsV os).length = _; rw [List.length_append, ih, List.length_cons]; show 3 + _ = _; omega
theorem upsV_append (os ps : List Up) : upsV (os ++ ps) = upsV os ++ upsV ps := List.flatMap_append
theorem upsV_one (o : Up) : upsV [o] = upV o := by simp [upsV]
theorem upsV_get {os : List Up} {k d : Nat} (hk : k < os.length) (hd : d < 3) : (upsV os)[k * 3 + d]? = (upV os[k])[d]? := by
  induction os generalizing k with
  | nil => simp at hk
  | cons o os ih =>
    show (upV o ++ upsV os)[k * 3 + d]? = _
    cases k with
    | zero =>
      rw [Nat.zero_mul, Nat.zero_add, List.getElem?_append_left (by show d < 3; exact hd)]
      rfl
    | succ k =>
      rw [List.getElem?_append_right (by show 3 ≤ _; omega), show (k + 1) * 3 + d - (upV o).length = k * 3 + d from by show (k + 1) * 3 + d - 3 = _; omega, ih (by simpa using hk)]
      rfl
theorem upsV_take (os : List Up) (k : Nat) : upsV (os.take k) = (upsV os).take (k * 3) := by
  induction os generalizing k with
  | nil => simp [upsV]
  | cons o os ih =>
    cases k with
    | zero => simp [upsV]
    | succ k =>
      show upV o ++ upsV (os.take k) = (upV o ++ upsV os).take _
      rw [ih, List.take_append, show (k + 1) * 3 - (upV o).length = k * 3 from by show (k + 1) * 3 - 3 = _; omega, List.take_of_length_le (l := upV o) (by show 3 ≤ _; omega)]
theorem upsV_drop (os : List Up) (k : Nat) : upsV (os.drop k) = (upsV os).drop (k * 3) := by
  induction os generalizing k with
  | nil => simp [upsV]
  | cons o os ih =>
    cases k with
    | zero => simp [upsV]
    | succ k =>
      show upsV (os.drop k) = (upV o ++ upsV os).drop _
      rw [ih, List.drop_append, show (k + 1) * 3 - (upV o).length = k * 3 from by show (k + 1) * 3 - 3 = _; omega, List.drop_of_length_le (l := upV o) (by show 3 ≤ _; omega)]
      rfl
theorem upV_cells (o : Up) : ∀ u ∈ upV o, u.oneCell' = true := by
  intro u hu
  simp only [upV, List.mem_cons, List.not_mem_nil, or_false] at hu
  rcases hu with rfl | rfl | rfl <;> rfl
theorem upsV_cells (os : List Up) : ∀ u ∈ upsV os, u.oneCell' = true := by
  intro u hu
  obtain ⟨o, _, hu⟩ := List.mem_flatMap.1 hu
  exact upV_cells o u hu

theorem Wo.Row.up_ {w : World} {B : Nat} {A : Option Addr} {os : List Up} (h : Row w B A (upsV os)) {k : Nat} (hk : k < os.length) :
    ∃ (o : Up) (ad : Addr), os[k] = o ∧ A = some ad ∧ (ad.add (k * 3)).block < B ∧ w.cell? (ad.add (k * 3)) = some (.int .i64 o.r) ∧ w.cell? ⟨(ad.add (k * 3)).block, (ad.add (k * 3)).off + 1, none⟩ = some (.int .i64 o.o) ∧
      w.cell? ⟨(ad.add (k * 3)).block, (ad.add (k * 3)).off + 2, none⟩ = some (.int .i64 o.n) := by
  have hl := upsV_length os
  rcases h with h | ⟨ad, e, hb, hc⟩
  · rw [h] at hl; simp at hl; omega
  · have h0 := hc (k * 3 + 0) (.int .i64 os[k].r) (by rw [upsV_get hk (by omega)]; rfl)
    have h1 := hc (k * 3 + 1) (.int .i64 os[k].o) (by rw [upsV_get hk (by omega)]; rfl)
    have h2 := hc (k * 3 + 2) (.int .i64 os[k].n) (by rw [upsV_get hk (by omega)]; rfl)
    rw [← add_add] at h0 h1 h2
    exact ⟨_, ad, rfl, e, by rw [add_block]; exact hb, by rw [add_zero] at h0; exact h0, h1, h2⟩
/-- The cells of a whole update. -/
theorem Wo.Row.drew {w : World} {B : Nat} {A : Option Addr} {vs : List Value} (h : Row w B A vs) : Row w.drew B A vs := h

/-- The numbers are what Go's are. -/
def Int64 (z : Int) : Prop := -9223372036854775808 ≤ z ∧ z ≤ 9223372036854775807
def FitU (os : List Up) : Prop := ∀ o ∈ os, Int64 o.r ∧ Int64 o.o ∧ Int64 o.n
theorem FitU.get {os : List Up} (h : FitU os) {k : Nat} (hk : k < os.length) {o : Up} (e : os[k] = o) : Int64 o.r ∧ Int64 o.o ∧ Int64 o.n := by
  subst e; exact h _ (List.getElem_mem hk)
/-- A list of updates of the call's own. -/
def OwnUps (w : World) (B : Nat) (v : Value) (os : List Up) : Prop := w.ownsRow B 53 3 v os.length (upsV os)
theorem OwnUps.below {w w' : World} {B : Nat} {v : Value} {os : List Up} (h : OwnUps w B v os) (hb : Below w.heap.size w w') : OwnUps w' B v os := own_below h hb (Nat.le_refl _)
theorem OwnUps.but {w w' : World} {R B : Nat} {v : Value} {os : List Up} (h : OwnUps w B v os) (hb : But R w w') (hR : R < B) : OwnUps w' B v os := by
  refine World.ownsRow.kept h hb ?_
  rcases hv : v.ownBlock with _ | k
  · exact .inl rfl
  · refine .inr (fun e => ?_)
    have := (World.ownsRow.lt h k hv).1
    injection e with e
    omega
theorem OwnUps.base {w : World} {B B' : Nat} {v : Value} {os : List Up} (h : OwnUps w B v os) (hB : B' ≤ B) : OwnUps w B' v os := by
  obtain ⟨h1, h2⟩ := h
  refine ⟨h1, ?_⟩
  rcases h2 with h | ⟨g, cap, cur, hv, hb, hr⟩
  · exact .inl h
  · exact .inr ⟨g, cap, cur, hv, by omega, hr⟩
theorem OwnUps.lt {w : World} {B : Nat} {v : Value} {os : List Up} (h : OwnUps w B v os) : ∀ k, v.ownBlock = some k → B ≤ k := fun k hk => (World.ownsRow.lt h k hk).1
theorem OwnUps.nil_new {w : World} {B : Nat} (hB : B ≤ w.heap.size) : OwnUps (w.alloc (.cells #[] 53)) B (.slice (some ⟨w.heap.size, 0, none⟩) 0 0) [] := nil_own hB _ _
theorem OwnUps.form {w : World} {B : Nat} {v : Value} {os : List Up} (h : OwnUps w B v os) : ∃ (A : Option Addr) (c : Nat), v = .slice A os.length c ∧ Row w w.heap.size A (upsV os) ∧ os.length ≤ c := by
  have h1 := h
  obtain ⟨hl, h2⟩ := h
  rcases h2 with ⟨rfl, h0⟩ | ⟨g, cap, cur, rfl, hB, hh, hn, hm, hcs, htk⟩
  · have h0' : os.length = 0 := by omega
    exact ⟨none, 0, by rw [h0'], .inl (List.eq_nil_of_length_eq_zero (by rw [upsV_length]; omega)), by omega⟩
  · exact ⟨some ⟨g, 0, none⟩, cap, rfl, .inr ⟨_, rfl, (World.ownsRow.lt h1 g rfl).2, World.ownsRow.cells h1 (g := g) rfl⟩, hn⟩
theorem info_up : (Try.prog.info? 53).map (fun i => (i.zero, i.size, i.bytes)) = some (some (.agg #[.int .i64 0, .int .i64 0, .int .i64 0]), 3, 24) := by kernel_rfl
/-- Behind it: a list of updates of the call's own. -/
def NewUps (os : List Up) (w : World) (e : Ending) (w' : World) : Prop := ∃ v, e = .returned v ∧ OwnUps w' w.heap.size v os ∧ Below w.heap.size w w'
theorem NewUps.mk_ {os : List Up} {v : Value} {w w' : World} (h : OwnUps w' w.heap.size v os) (hb : Below w.heap.size w w') : NewUps os w (.returned v) w' := ⟨v, rfl, h, hb⟩
end Go.Proofs.Ytcjnlbjlbmadlaa
