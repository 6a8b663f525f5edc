/-
  Lists of operations in memory: three cells each.
-/
import Derived.Test.YtkekbobnbipmoaaKitD
import Derived.Test.YtkekbobnbipmoaaDPure
namespace Go.Proofs.Ytkekbobnbipmoaa
open Go.RowKit Wo Pu

def opV (o : Op2) : List Value := [.int .i64 o.a, .int .i64 o.n, .string o.t]
def opsV (os : List Op2) : List Value := os.flatMap opV
theorem opsV_length (os : List Op2) : (opsV os).length = os.length * 3 := by
  induction os with
  | nil => rfl
  | cons o os ih => show (opV o ++ opsV os).length = _; rw [List.length_append, ih, List.length_cons]; show 3 + _ = _; omega
theorem opsV_append (os ps : List Op2) : opsV (os ++ ps) = opsV os ++ opsV ps := List.flatMap_append
theorem opsV_one (o : Op2) : opsV [o] = opV o := by simp [opsV]
theorem opsV_get {os : List Op2} {k d : Nat} (hk : k < os.length) (hd : d < 3) : (opsV os)[k * 3 + d]? = (opV os[k])[d]? := by
  induction os generalizing k with
  | nil => simp at hk
  | cons o os ih =>
    show (opV o ++ opsV os)[k * 3 + d]? = _
    cases k with
    | zero =>
      rw [Nat.zero_mul, Nat.zero_add, List.getElem?_append_left (by show d < 3; exact hd)]
      rfl
    | succ k =>
      rw [List.getElem?_append_right (by show 3 ≤ _; omega), show (k + 1) * 3 + d - (opV o).length = k * 3 + d from by show (k + 1) * 3 + d - 3 = _; omega, ih (by simpa using hk)]
      rfl
theorem opsV_take (os : List Op2) (k : Nat) : opsV (os.take k) = (opsV os).take (k * 3) := by
  induction os generalizing k with
  | nil => simp [opsV]
  | cons o os ih =>
    cases k with
    | zero => simp [opsV]
    | succ k =>
      show opV o ++ opsV (os.take k) = (opV o ++ opsV os).take _
      rw [ih, List.take_append, show (k + 1) * 3 - (opV o).length = k * 3 from by show (k + 1) * 3 - 3 = _; omega, List.take_of_length_le (l := opV o) (by show 3 ≤ _; omega)]
theorem opsV_drop (os : List Op2) (k : Nat) : opsV (os.drop k) = (opsV os).drop (k * 3) := by
  induction os generalizing k with
  | nil => simp [opsV]
  | cons o os ih =>
    cases k with
    | zero => simp [opsV]
    | succ k =>
      show opsV (os.drop k) = (opV o ++ opsV os).drop _
      rw [ih, List.drop_append, show (k + 1) * 3 - (opV o).length = k * 3 from by show (k + 1) * 3 - 3 = _; omega, List.drop_of_length_le (l := opV o) (by show 3 ≤ _; omega)]
      rfl
theorem opV_cells (o : Op2) : ∀ u ∈ opV o, u.oneCell' = true := by
  intro u hu
  simp only [opV, List.mem_cons, List.not_mem_nil, or_false] at hu
  rcases hu with rfl | rfl | rfl <;> rfl
theorem opsV_cells (os : List Op2) : ∀ u ∈ opsV os, u.oneCell' = true := by
  intro u hu
  obtain ⟨o, _, hu⟩ := List.mem_flatMap.1 hu
  exact opV_cells o u hu

theorem Wo.Row.op_ {w : World} {B : Nat} {A : Option Addr} {os : List Op2} (h : Row w B A (opsV os)) {k : Nat} (hk : k < os.length) :
    ∃ (o : Op2) (ad : Addr), os[k] = o ∧ A = some ad ∧ (ad.add (k * 3)).block < B ∧ w.cell? (ad.add (k * 3)) = some (.int .i64 o.a) ∧ w.cell? ⟨(ad.add (k * 3)).block, (ad.add (k * 3)).off + 1, none⟩ = some (.int .i64 o.n) ∧
      w.cell? ⟨(ad.add (k * 3)).block, (ad.add (k * 3)).off + 2, none⟩ = some (.string o.t) := by
  have hl := opsV_length os
  rcases h with h | ⟨ad, e, hb, hc⟩
  · rw [h] at hl; simp at hl; omega
  · have h0 := hc (k * 3 + 0) (.int .i64 os[k].a) (by rw [opsV_get hk (by omega)]; rfl)
    have h1 := hc (k * 3 + 1) (.int .i64 os[k].n) (by rw [opsV_get hk (by omega)]; rfl)
    have h2 := hc (k * 3 + 2) (.string os[k].t) (by rw [opsV_get hk (by omega)]; rfl)
    rw [← add_add] at h0 h1 h2
    exact ⟨_, ad, rfl, e, by rw [add_block]; exact hb, by rw [add_zero] at h0; exact h0, h1, h2⟩
/-- The cells of a whole operation. -/
theorem Wo.Row.drew {w : World} {B : Nat} {A : Option Addr} {vs : List Value} (h : Row w B A vs) : Row w.drew B A vs := h

/-- The lengths and numbers are what Go's are. -/
def Fit2 (os : List Op2) : Prop := ∀ o ∈ os, o.t.size ≤ 1048576 ∧ -9223372036854775808 ≤ o.a ∧ o.a ≤ 9223372036854775807 ∧ -9223372036854775808 ≤ o.n ∧ o.n ≤ 9223372036854775807
theorem Fit2.get {os : List Op2} (h : Fit2 os) {k : Nat} (hk : k < os.length) {o : Op2} (e : os[k] = o) : o.t.size ≤ 1048576 ∧ -9223372036854775808 ≤ o.a ∧ o.a ≤ 9223372036854775807 ∧ -9223372036854775808 ≤ o.n ∧ o.n ≤ 9223372036854775807 := by
  subst e; exact h _ (List.getElem_mem hk)
theorem Fit2.take {os : List Op2} (h : Fit2 os) (k : Nat) : Fit2 (os.take k) := fun o ho => h o (List.mem_of_mem_take ho)
theorem Fit2.drop {os : List Op2} (h : Fit2 os) (k : Nat) : Fit2 (os.drop k) := fun o ho => h o (List.mem_of_mem_drop ho)

/-- A list of operations of the call's own. -/
def OwnOps (w : World) (B : Nat) (v : Value) (os : List Op2) : Prop := w.ownsRow B 99 3 v os.length (opsV os)
theorem OwnOps.below {w w' : World} {B : Nat} {v : Value} {os : List Op2} (h : OwnOps w B v os) (hb : Below w.heap.size w w') : OwnOps w' B v os := own_below h hb (Nat.le_refl _)
theorem OwnOps.but {w w' : World} {R B : Nat} {v : Value} {os : List Op2} (h : OwnOps w B v os) (hb : But R w w') (hR : R < B) : OwnOps w' B v os := by
  refine World.ownsRow.kept h hb ?_
  rcases hv : v.ownBlock with _ | k
  · exact .inl rfl
  · refine .inr (fun e => ?_)
    have := (World.ownsRow.lt h k hv).1
    injection e with e
    omega
theorem OwnOps.base {w : World} {B B' : Nat} {v : Value} {os : List Op2} (h : OwnOps w B v os) (hB : B' ≤ B) : OwnOps w B' v os := by
  obtain ⟨h1, h2⟩ := h
  refine ⟨h1, ?_⟩
  rcases h2 with h | ⟨g, cap, cur, hv, hb, hr⟩
  · exact .inl h
  · exact .inr ⟨g, cap, cur, hv, by omega, hr⟩
theorem OwnOps.lt {w : World} {B : Nat} {v : Value} {os : List Op2} (h : OwnOps w B v os) : ∀ k, v.ownBlock = some k → B ≤ k := fun k hk => (World.ownsRow.lt h k hk).1
theorem OwnOps.nil_new {w : World} {B : Nat} (hB : B ≤ w.heap.size) : OwnOps (w.alloc (.cells #[] 99)) B (.slice (some ⟨w.heap.size, 0, none⟩) 0 0) [] := nil_own hB _ _
theorem OwnOps.form {w : World} {B : Nat} {v : Value} {os : List Op2} (h : OwnOps w B v os) : ∃ (A : Option Addr) (c : Nat), v = .slice A os.length c ∧ Row w w.heap.size A (opsV os) ∧ os.length ≤ c := by
  have h1 := h
  obtain ⟨hl, h2⟩ := h
  rcases h2 with ⟨rfl, h0⟩ | ⟨g, cap, cur, rfl, hB, hh, hn, hm, hcs, htk⟩
  · have h0' : os.length = 0 := by omega
    exact ⟨none, 0, by rw [h0'], .inl (List.eq_nil_of_length_eq_zero (by rw [opsV_length]; omega)), by omega⟩
  · exact ⟨some ⟨g, 0, none⟩, cap, rfl, .inr ⟨_, rfl, (World.ownsRow.lt h1 g rfl).2, World.ownsRow.cells h1 (g := g) rfl⟩, hn⟩
theorem info_op : (Try.prog.info? 99).map (fun i => (i.zero, i.size, i.bytes)) = some (some (.agg #[.int .i64 0, .int .i64 0, .string ⟨#[]⟩]), 3, 32) := by kernel_rfl
/-- Behind it: a list of operations of the call's own. -/
def NewOps (os : List Op2) (w : World) (e : Ending) (w' : World) : Prop := ∃ v, e = .returned v ∧ OwnOps w' w.heap.size v os ∧ Below w.heap.size w w'
theorem NewOps.mk_ {os : List Op2} {v : Value} {w w' : World} (h : OwnOps w' w.heap.size v os) (hb : Below w.heap.size w w') : NewOps os w (.returned v) w' := ⟨v, rfl, h, hb⟩
end Go.Proofs.Ytkekbobnbipmoaa
