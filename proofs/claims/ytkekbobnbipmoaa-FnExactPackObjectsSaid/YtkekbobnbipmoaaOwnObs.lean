/-
  Lists of objects that a call has made.
-/
import Derived.Test.YtkekbobnbipmoaaApp
import Derived.Test.YtkekbobnbipmoaaObject
namespace Go.Proofs.Ytkekbobnbipmoaa
open Go.RowKit Wo Pu

/-- Among the cells xs the j-th object is o; its links are of the call's own. -/
def ObIs (w : World) (B : Nat) (xs : List Value) (j : Nat) (o : Ob) : Prop :=
  ∃ (A : Option Addr) (c : Nat), xs[j * 3]? = some (.int .i64 o.kd) ∧ xs[j * 3 + 1]? = some (.slice A o.zs.length c) ∧ xs[j * 3 + 2]? = some (.string o.s) ∧ Own w B (.slice A o.zs.length c) o.zs
/-- The slice v, of the call's own, holds the objects os. -/
def OwnObs (w : World) (B : Nat) (v : Value) (os : List Ob) : Prop :=
  ∃ xs, w.ownsRow B 42 3 v os.length xs ∧ ∀ j (hj : j < os.length), ObIs w B xs j os[j]

theorem own_below {w w' : World} {B C n sz : Nat} {e : TypeId} {v : Value} {xs : List Value} (h : w.ownsRow B e sz v n xs) (hb : Below C w w') (hC : w.heap.size ≤ C) : w'.ownsRow B e sz v n xs := by
  obtain ⟨h1, h2⟩ := h
  refine ⟨h1, ?_⟩
  rcases h2 with h2 | ⟨g, cap, cur, hv, hB, hh, hr⟩
  · exact .inl h2
  · refine .inr ⟨g, cap, cur, hv, hB, ?_, hr⟩
    have hl : g < w.heap.size := by
      rcases Nat.lt_or_ge g w.heap.size with h3 | h3
      · exact h3
      · rw [Array.getElem?_eq_none h3] at hh; cases hh
    rw [hb.block g (by omega)]
    exact hh
theorem OwnObs.below {w w' : World} {B : Nat} {v : Value} {os : List Ob} (h : OwnObs w B v os) (hb : Below w.heap.size w w') : OwnObs w' B v os := by
  obtain ⟨xs, h1, h2⟩ := h
  refine ⟨xs, own_below h1 hb (Nat.le_refl _), fun j hj => ?_⟩
  obtain ⟨A, c, q0, q1, q2, q3⟩ := h2 j hj
  exact ⟨A, c, q0, q1, q2, q3.below hb (Nat.le_refl _)⟩
theorem OwnObs.but {w w' : World} {R B : Nat} {v : Value} {os : List Ob} (h : OwnObs w B v os) (hb : But R w w') (hR : R < B) : OwnObs w' B v os := by
  obtain ⟨xs, h1, h2⟩ := h
  refine ⟨xs, World.ownsRow.kept h1 hb ?_, fun j hj => ?_⟩
  · rcases hv : v.ownBlock with _ | k
    · exact .inl rfl
    · refine .inr (fun e => ?_)
      have := (World.ownsRow.lt h1 k hv).1
      injection e with e
      omega
  · obtain ⟨A, c, q0, q1, q2, q3⟩ := h2 j hj
    exact ⟨A, c, q0, q1, q2, q3.but hb hR⟩
theorem OwnObs.base {w : World} {B B' : Nat} {v : Value} {os : List Ob} (h : OwnObs w B v os) (hB : B' ≤ B) : OwnObs w B' v os := by
  obtain ⟨xs, ⟨h1, h1'⟩, h2⟩ := h
  refine ⟨xs, ⟨h1, ?_⟩, fun j hj => ?_⟩
  · rcases h1' with h | ⟨g, cap, cur, hv, hb, hr⟩
    · exact .inl h
    · exact .inr ⟨g, cap, cur, hv, by omega, hr⟩
  · obtain ⟨A, c, q0, q1, q2, q3⟩ := h2 j hj
    exact ⟨A, c, q0, q1, q2, q3.base hB⟩
theorem OwnObs.lt {w : World} {B : Nat} {v : Value} {os : List Ob} (h : OwnObs w B v os) : ∀ k, v.ownBlock = some k → B ≤ k := fun k hk => by
  obtain ⟨xs, h1, _⟩ := h
  exact (World.ownsRow.lt h1 k hk).1
theorem OwnObs.nil_new {w : World} {B : Nat} (hB : B ≤ w.heap.size) : OwnObs (w.alloc (.cells #[] 42)) B (.slice (some ⟨w.heap.size, 0, none⟩) 0 0) [] :=
  ⟨[], nil_own hB _ _, fun j hj => by simp at hj⟩
theorem OwnObs.form {w : World} {B : Nat} {v : Value} {os : List Ob} (h : OwnObs w B v os) : ∃ (A : Option Addr) (c : Nat), v = .slice A os.length c ∧ Objs w w.heap.size A os := by
  obtain ⟨xs, h1, h2⟩ := h
  have h1' := h1
  obtain ⟨hl, h1⟩ := h1
  rcases h1 with ⟨rfl, h0⟩ | ⟨g, cap, cur, rfl, hB, hh, hn, hm, hcs, htk⟩
  · exact ⟨none, 0, by rw [h0], .inl (List.eq_nil_of_length_eq_zero h0)⟩
  · refine ⟨some ⟨g, 0, none⟩, cap, rfl, .inr ⟨_, rfl, (World.ownsRow.lt h1' g rfl).2, fun i hi => ?_⟩⟩
    obtain ⟨A, c, q0, q1, q2, q3⟩ := h2 i hi
    have hc := World.ownsRow.cells h1' (g := g) rfl
    have e : ∀ d, (((⟨g, 0, none⟩ : Addr).add (i * 3)).add d) = (⟨g, 0, none⟩ : Addr).add (i * 3 + d) := fun d => by
      rw [add_lit, add_lit]
      unfold Addr.add
      split
      · rename_i h; subst h; rfl
      · rfl
    exact ⟨A, c, hc _ _ q0, by rw [e]; exact hc _ _ q1, by rw [e]; exact hc _ _ q2, q3.row⟩
/-- One object more. -/
theorem OwnObs.app {w w1 : World} {B c : Nat} {A : Option Addr} {v v' : Value} {os : List Ob} {o : Ob} {ys : List Value} (hos : ∀ j (hj : j < os.length), ObIs w B ys j os[j]) (hlen : ys.length = os.length * 3)
    (hlinks : Own w B (.slice A o.zs.length c) o.zs) (hrow : w.ownsRow B 42 3 v os.length ys)
    (hown : w1.ownsRow B 42 3 v' (os.length + 1) (ys ++ [.int .i64 o.kd, .slice A o.zs.length c, .string o.s]))
    (hg : (w.alloc (.cells #[.int .i64 o.kd, .slice A o.zs.length c, .string o.s] 42)).grownBy w1 v.ownBlock) : OwnObs w1 B v' (os ++ [o]) := by
  have al := (Below.refl w.heap.size w).alloc (Nat.le_refl _) (.cells #[.int .i64 o.kd, .slice A o.zs.length c, .string o.s] 42)
  -- the links of any of the objects are in another block than the row of the objects
  have keep : ∀ {u : Value} {zs : List Int}, Own w B u zs → Own w1 B u zs := fun {u zs} h => by
    have h' := h.below al (Nat.le_refl _)
    refine World.ownsRow.kept h' hg ?_
    rcases hu : u.ownBlock with _ | k
    · exact .inl rfl
    · refine .inr (fun e => ?_)
      rcases h.2 with ⟨rfl, _⟩ | ⟨g, _, cur, rfl, _, hh, _⟩
      · cases hu
      · have hk : g = k := by simpa [Value.ownBlock] using hu
        subst hk
        rcases hrow.2 with ⟨rfl, _⟩ | ⟨g2, _, cur2, rfl, _, hh2, _⟩
        · cases e
        · have hk : g = g2 := by simpa [Value.ownBlock] using e
          subst hk
          rw [hh] at hh2
          injection hh2 with h3
          injection h3 with _ h3
          exact absurd h3 (by decide)
  refine ⟨_, by simpa using hown, fun j hj => ?_⟩
  by_cases e : j < os.length
  · obtain ⟨A', c', q0, q1, q2, q3⟩ := hos j e
    rw [List.getElem_append_left e]
    exact ⟨A', c', by rw [List.getElem?_append_left (by omega)]; exact q0, by rw [List.getElem?_append_left (by omega)]; exact q1, by rw [List.getElem?_append_left (by omega)]; exact q2, keep q3⟩
  · have ej : j = os.length := by simp at hj; omega
    subst ej
    have eo : (os ++ [o])[os.length]'(by simp) = o := by simp
    rw [eo]
    refine ⟨A, c, ?_, ?_, ?_, keep hlinks⟩
    · rw [List.getElem?_append_right (by omega), hlen]; simp
    · rw [List.getElem?_append_right (by omega), hlen, show os.length * 3 + 1 - os.length * 3 = 1 from by omega]; rfl
    · rw [List.getElem?_append_right (by omega), hlen, show os.length * 3 + 2 - os.length * 3 = 2 from by omega]; rfl
theorem obj_cells (o : Ob) (A : Option Addr) (c : Nat) : ∀ u ∈ [Value.int .i64 o.kd, .slice A o.zs.length c, .string o.s], u.oneCell' = true := by
  intro u hu
  simp only [List.mem_cons, List.not_mem_nil, or_false] at hu
  rcases hu with rfl | rfl | rfl <;> rfl
theorem new_three (w : World) (v0 v1 v2 : Value) (t : TypeId) : ∀ j u, [v0, v1, v2][j]? = some u → (w.alloc (.cells #[v0, v1, v2] t)).cell? ((⟨w.heap.size, 0, none⟩ : Addr).add j) = some u :=
  World.news_of_block (cs := #[v0, v1, v2]) (heap_alloc_new w _)

/-- Behind it: an object with links of its own. -/
def NewObj (o : Ob) (w : World) (e : Ending) (w' : World) : Prop := ∃ (A : Option Addr) (c : Nat), e = .returned (ob o.kd A o.zs.length c o.s) ∧ Own w' w.heap.size (.slice A o.zs.length c) o.zs ∧ Below w.heap.size w w'
/-- Behind it: a list of objects of the call's own. -/
def NewList (os : List Ob) (w : World) (e : Ending) (w' : World) : Prop := ∃ v, e = .returned v ∧ OwnObs w' w.heap.size v os ∧ Below w.heap.size w w'

/-- What lies behind the append in l1One. -/
theorem one_facts {w w5 : World} {o : Ob} {A : Option Addr} {c : Nat} {v' : Value}
    (hown : w5.ownsRow (w.heap.size + 1 + 1) 3 1 v' (0 + o.zs.length) ([] ++ ints o.zs))
    (hg : (((w.alloc (.cells #[.int .i64 o.kd, .slice A o.zs.length c, .string o.s] 42)).alloc (.cells #[.int .i64 0, .slice none 0 0, .string ⟨#[]⟩] 42)).alloc (.cells #[] 3)).grownBy w5 (some (w.heap.size + 1 + 1))) :
    (∃ A2 c2, v' = .slice A2 o.zs.length c2) ∧ Own w5 (w.heap.size + 1 + 1) v' o.zs ∧ Blk w5 w.heap.size 42 (.int .i64 o.kd) (.slice A o.zs.length c) (.string o.s) ∧
    Blk w5 (w.heap.size + 1) 42 (.int .i64 0) (.slice none 0 0) (.string ⟨#[]⟩) ∧ Below w.heap.size w w5 := by
  have ho : Own w5 (w.heap.size + 1 + 1) v' o.zs := by
    rw [Nat.zero_add] at hown
    exact hown
  have u0 := Blk.new_ w 42 (.int .i64 o.kd) (.slice A o.zs.length c) (.string o.s)
  have z1 : (w.alloc (.cells #[.int .i64 o.kd, .slice A o.zs.length c, .string o.s] 42)).heap.size = w.heap.size + 1 := by simp
  have a0 := (Below.refl w.heap.size w).alloc (Nat.le_refl _) (.cells #[.int .i64 o.kd, .slice A o.zs.length c, .string o.s] 42)
  generalize w.alloc (.cells #[.int .i64 o.kd, .slice A o.zs.length c, .string o.s] 42) = x1 at *
  have t0 := Blk.new_ x1 42 (.int .i64 0) (.slice none 0 0) (.string ⟨#[]⟩)
  have z2 : (x1.alloc (.cells #[.int .i64 0, .slice none 0 0, .string ⟨#[]⟩] 42)).heap.size = w.heap.size + 1 + 1 := by simp; omega
  have a1 := (Below.refl x1.heap.size x1).alloc (Nat.le_refl _) (.cells #[.int .i64 0, .slice none 0 0, .string ⟨#[]⟩] 42)
  generalize x1.alloc (.cells #[.int .i64 0, .slice none 0 0, .string ⟨#[]⟩] 42) = x2 at *
  have a2 := (Below.refl x2.heap.size x2).alloc (Nat.le_refl _) (.cells #[] 3)
  have z3 : (x2.alloc (.cells #[] 3)).heap.size = w.heap.size + 1 + 1 + 1 := by simp; omega
  generalize x2.alloc (.cells #[] 3) = x3 at *
  rw [z1] at t0
  have hb : Below (w.heap.size + 1 + 1) x3 w5 := (Below.refl _ _).grown hg (by omega) (fun k hk => by injection hk with hk; omega)
  obtain ⟨A2, c2, hv, _⟩ := ho.form
  exact ⟨⟨A2, c2, hv⟩, ho, ((u0.below a1 (by omega)).below a2 (by omega)).below hb (by omega), (t0.below a2 (by omega)).below hb (by omega), ((a0.trans (a1.mono (by omega))).trans (a2.mono (by omega))).trans (hb.mono (by omega))⟩

theorem take_push {os : List Ob} {k : Nat} (hk : k < os.length) : os.take (k + 1) = os.take k ++ [os[k]] := List.take_succ_eq_append_getElem hk

end Go.Proofs.Ytkekbobnbipmoaa
