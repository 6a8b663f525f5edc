/-
  Lists of objects that a call has made.
-/
import Derived.Test.YtjniemimdjpibaaApp
import Derived.Test.YtjniemimdjpibaaObject
namespace Go.Proofs.Ytjniemimdjpibaa
open Go.RowKit Wo Pu

/-- Among the cells xs the j-th object is o; its links are of the call's own. -/
def ObIs (w : World) (B : Nat) (xs : List Value) (j : Nat) (o : Ob) : Prop :=
  ∃ (A : Option Addr) (c : Nat), xs[j * 3]? = some (.int .i64 o.kd) ∧ xs[j * 3 + 1]? = some (.slice A o.zs.length c) ∧ xs[j * 3 + 2]? = some (.string o.s) ∧ Own w B (.slice A o.zs.length c) o.zs
/-- The slice v, of the call's own, holds the objects os. -/
def OwnObs (w : World) (B : Nat) (v : Value) (os : List Ob) : Prop :=
  ∃ xs, w.ownsRow B 26 3 v os.length xs ∧ ∀ j (hj : j < os.length), ObIs w B xs j os[j]

theorem own_below {w w' : World} {B C n sz : Nat} {e : TypeId} {v : Value} {xs : List Value} (h : w.ownsRow B e sz v n xs) (hb : Below C w w') (hC : w.heap.size ≤ C) : w'.ownsRow B e sz v n xs := by
  obtain ⟨h1, h2⟩ := h
  refine ⟨h1, ?_⟩
  rcases h2 with h2 | ⟨g, cap, cur, hv, hB, hh, hr⟩
  · exact .inl h2
  · refine .inr ⟨g, cap, cur, hv, hB, ?_, hr⟩
    have hl : g < w.heap.size := by
      rcases Nat.lt_or_ge g w.heap.size with h3 | h3
      · exact h3
      · rw [Array.getElem?_eq_none h3] at hh; cases hh
    rw [hb.block g (by omega)]
    exact hh
theorem OwnObs.below {w w' : World} {B : Nat} {v : Value} {os : List Ob} (h : OwnObs w B v os) (hb : Below w.heap.size w w') : OwnObs w' B v os := by
  obtain ⟨xs, h1, h2⟩ := h
  refine ⟨xs, own_below h1 hb (Nat.le_refl _), fun j hj => ?_⟩
  obtain ⟨A, c, q0, q1, q2, q3⟩ := h2 j hj
  exact ⟨A, c, q0, q1, q2, q3.below hb (Nat.le_refl _)⟩
theorem OwnObs.but {w w' : World} {R B : Nat} {v : Value} {os : List Ob} (h : OwnObs w B v os) (hb : But R w w') (hR : R < B) : OwnObs w' B v os := by
  obtain ⟨xs, h1, h2⟩ := h
  refine ⟨xs, World.ownsRow.kept h1 hb ?_, fun j hj => ?_⟩
  · rcases hv : v.ownBlock with _ | k
    · exact .inl rfl
    · refine .inr (fun e => ?_)
      have := (World.ownsRow.lt h1 k hv).1
      injection e with e
      omega
  · obtain ⟨A, c, q0, q1, q2, q3⟩ := h2 j hj
    exact ⟨A, c, q0, q1, q2, q3.but hb hR⟩
theorem OwnObs.base {w : World} {B B' : Nat} {v : Value} {os : List Ob} (h : OwnObs w B v os) (hB : B' ≤ B) : OwnObs w B' v os := by
  obtain ⟨xs, ⟨h1, h1'⟩, h2⟩ := h
  refine ⟨xs, ⟨h1, ?_⟩, fun j hj => ?_⟩
  · rcases h1' with h | ⟨g, cap, cur, hv, hb, hr⟩
    · exact .inl h
    · exact .inr ⟨g, cap, cur, hv, by omega, hr⟩
  · obtain ⟨A, c, q0, q1, q2, q3⟩ := h2 j hj
    exact ⟨A, c, q0, q1, q2, q3.base hB⟩
theorem OwnObs.lt {w : World} {B : Nat} {v : Value} {os : List Ob} (h : OwnObs w B v os) : ∀ k, v.ownBlock = some k → B ≤ k := fun k hk => by
  obtain ⟨xs, h1, _⟩ := h
  exact (World.ownsRow.lt h1 k hk).1
theorem OwnObs.nil_new {w : World} {B : Nat} (hB : B ≤ w.heap.size) : OwnObs (w.alloc (.cells #[] 26)) B (.slice (some ⟨w.heap.size, 0, none⟩) 0 0) [] :=
  ⟨[], nil_own hB _ _, fun j hj => by simp at hj⟩
theorem OwnObs.form {w : World} {B : Nat} {v : Value} {os : List Ob} (h : OwnObs w B v os) : ∃ (A : Option Addr) (c : Nat), v = .slice A os.length c ∧ Objs w w.heap.size A os := by
  obtain ⟨xs, h1, h2⟩ := h
  have h1' := h1
  obtain ⟨hl, h1⟩ := h1
  rcases h1 with ⟨rfl, h0⟩ | ⟨g, cap, cur, rfl, hB, hh, hn, hm, hcs, htk⟩
  · exact ⟨none, 0, by rw [h0], .inl (List.eq_nil_of_length_eq_zero h0)⟩
  · refine ⟨some ⟨g, 0, none⟩, cap, rfl, .inr ⟨_, rfl, (World.ownsRow.lt h1' g rfl).2, fun i hi => ?_⟩⟩
    obtain ⟨A, c, q0, q1, q2, q3⟩ := h2 i hi
    have hc := World.ownsRow.cells h1' (g := g) rfl
    have e : ∀ d, (((⟨g, 0, none⟩ : Addr).add (i * 3)).add d) = (⟨g, 0, none⟩ : Addr).add (i * 3 + d) := fun d => by
      rw [add_lit, add_lit]
      unfold Addr.add
      split
      · rename_i h; subst h; rfl
      · rfl
    exact ⟨A, c, hc _ _ q0, by rw [e]; exact hc _ _ q1, by rw [e]; exact hc _ _ q2, q3.row⟩
/-- One object more. -/
theorem OwnObs.app {w w1 : World} {B c : Nat} {A : Option Addr} {v v' : Value} {os : List Ob} {o : Ob} {ys : List Value} (hos : ∀ j (hj : j < os.length), ObIs w B ys j os[j]) (hlen : ys.length = os.length * 3)
    (hlinks : Own w B (.slice A o.zs.length c) o.zs) (hrow : w.ownsRow B 26 3 v os.length ys)
    (hown : w1.ownsRow B 26 3 v' (os.length + 1) (ys ++ [.int .i64 o.kd, .slice A o.zs.length c, .string o.s]))
    (hg : (w.alloc (.cells #[.int .i64 o.kd, .slice A o.zs.length c, .string o.s] 26)).grownBy w1 v.ownBlock) : OwnObs w1 B v' (os ++ [o]) := by
  have al := (Below.refl w.heap.size w).alloc (Nat.le_refl _) (.cells #[.int .i64 o.kd, .slice A o.zs.length c, .string o.s] 26)
  -- the links of any of the objects are in another block than the row of the objects
  have keep : ∀ {u : Value} {zs : List Int}, Own w B u zs → Own w1 B u zs := fun {u zs} h => by
    have h' := h.below al (Nat.le_refl _)
    refine World.ownsRow.kept h' hg ?_
    rcases hu : u.ownBlock with _ | k
    · exact .inl rfl
    · refine .inr (fun e => ?_)
      rcases h.2 with ⟨rfl, _⟩ | ⟨g, _, cur, rfl, _, hh, _⟩
      · cases hu
      · have hk : g = k := by simpa [Value.ownBlock] using hu
        subst hk
        rcases hrow.2 with ⟨rfl, _⟩ | ⟨g2, _, cur2, rfl, _, hh2, _⟩
        · cases e
        · have hk : g = g2 := by simpa [Value.ownBlock] using e
          subst hk
          rw [hh] at hh2
          injection hh2 with h3
          injection h3 with _ h3
          exact absurd h3 (by decide)
  refine ⟨_, by simpa using hown, fun j hj => ?_⟩
  by_cases e : j < os.length
  · obtain ⟨A', c', q0, q1, q2, q3⟩ := hos j e
    rw [List.getElem_append_left e]
    exact ⟨A', c', by rw [List.getElem?_append_left (by omega)]; exact q0, by rw [List.getElem?_append_left (by omega)]; exact q1, by rw [List.getElem?_append_left (by omega)]; exact q2, keep q3⟩
  · have ej : j = os.length := by simp at hj; omega
    subst ej
    have eo : (os ++ [o])[os.length]'(by simp) = o := by simp
    rw [eo]
    refine ⟨A, c, ?_, ?_, ?_, keep hlinks⟩
    · rw [List.getElem?_append_right (by omega), hlen]; simp
    · rw [List.getElem?_append_right (by omega), hlen, show os.length * 3 + 1 - os.length * 3 = 1 from by omega]; rfl
    · rw [List.getElem?_append_right (by omega), hlen, show os.length * 3 + 2 - os.length * 3 = 2 from by omega]; rfl
theorem obj_cells (o : Ob) (A : Option Addr) (c : Nat) : ∀ u ∈ [Value.int .i64 o.kd, .slice A o.zs.length c, .string o.s], u.oneCell' = true := by
  intro u hu
  simp only [List.mem_cons, List.not_mem_nil, or_false] at hu
  rcases hu with rfl | rfl | rfl <;> rfl
theorem new_three (w : World) (v0 v1 v2 : Value) (t : TypeId) : ∀ j u, [v0, v1, v2][j]? = some u → (w.alloc (.cells #[v0, v1, v2] t)).cell? ((⟨w.heap.size, 0, none⟩ : Addr).add j) = some u :=
  World.news_of_block (cs := #[v0, v1, v2]) (heap_alloc_new w _)

/-- Behind it: an object with links of its own. -/
def NewObj (o : Ob) (w : World) (e : Ending) (w' : World) : Prop := ∃ (A : Option Addr) (c : Nat), e = .returned (ob o.kd A o.zs.length c o.s) ∧ Own w' w.heap.size (.slice A o.zs.length c) o.zs ∧ Below w.heap.size w w'
/-- Behind it: a list of objects of the call's own. -/
def NewList (os : List Ob) (w : World) (e : Ending) (w' : World) : Prop := ∃ v, e = .returned v ∧ OwnObs w' w.heap.size v os ∧ Below w.heap.size w w'

/-- What lies behind the append in l1One. -/
theorem one_facts {w w5 : World} {o : Ob} {A : Option Addr} {c : Nat} {v' : Value}
    (hown : w5.ownsRow (w.heap.size + 1 + 1) 3 1 v' (0 + o.zs.length) ([] ++ ints o.zs))
    (hg : (((w.alloc (.cells #[.int .i64 o.kd, .slice A o.zs.length c, .string o.s] 26)).alloc (.cells #[.int .i64 0, .slice none 0 0, .string ⟨#[]⟩] 26)).alloc (.cells #[] 3)).grownBy w5 (some (w.heap.size + 1 + 1))) :
    (∃ A2 c2, v' = .slice A2 o.zs.length c2) ∧ Own w5 (w.heap.size + 1 + 1) v' o.zs ∧ Blk w5 w.heap.size 26 (.int .i64 o.kd) (.slice A o.zs.length c) (.string o.s) ∧
    Blk w5 (w.heap.size + 1) 26 (.int .i64 0) (.slice none 0 0) (.string ⟨#[]⟩) ∧ Below w.heap.size w w5 := by
  have ho : Own w5 (w.heap.size + 1 + 1) v' o.zs := by
    rw [Nat.zero_add] at hown
    exact hown
  have u0 := Blk.new_ w 26 (.int .i64 o.kd) (.slice A o.zs.length c) (.string o.s)
  have z1 : (w.alloc (.cells #[.int .i64 o.kd, .slice A o.zs.length c, .string o.s] 26)).heap.size = w.heap.size + 1 := by simp
  have a0 := (Below.refl w.heap.size w).alloc (Nat.le_refl _) (.cells #[.int .i64 o.kd, .slice A o.zs.length c, .string o.s] 26)
  generalize w.alloc (.cells #[.int .i64 o.kd, .slice A o.zs.length c, .string o.s] 26) = x1 at *
  have t0 := Blk.new_ x1 26 (.int .i64 0) (.slice none 0 0) (.string ⟨#[]⟩)
  have z2 : (x1.alloc (.cells #[.int .i64 0, .slice none 0 0, .string ⟨#[]⟩] 26)).heap.size = w.heap.size + 1 + 1 := by simp; omega
  have a1 := (Below.refl x1.heap.size x1).alloc (Nat.le_refl _) (.cells #[.int .i64 0, .slice none 0 0, .string ⟨#[]⟩] 26)
  generalize x1.alloc (.cells #[.int .i64 0, .slice none 0 0, .string ⟨#[]⟩] 26) = x2 at *
  have a2 := (Below.refl x2.heap.size x2).alloc (Nat.le_refl _) (.cells #[] 3)
  have z3 : (x2.alloc (.cells #[] 3)).heap.size = w.heap.size + 1 + 1 + 1 := by simp; omega
  generalize x2.alloc (.cells #[] 3) = x3 at *
  rw [z1] at t0
  have hb : Below (w.heap.size + 1 + 1) x3 w5 := (Below.refl _ _).grown hg (by omega) (fun k hk => by injection hk with hk; omega)
  obtain ⟨A2, c2, hv, _⟩ := ho.form
  exact ⟨⟨A2, c2, hv⟩, ho, ((u0.below a1 (by omega)).below a2 (by omega)).below hb (by omega), (t0.below a2 (by omega)).below hb (by omega), ((a0.trans (a1.mono (by omega))).trans (a2.mono (by omega))).trans (hb.mono (by omega))⟩

set_option maxHeartbeats 1000000 in
theorem l1One_any (B : Nat) (A : Option Addr) (c : Nat) (o : Ob) (w : World) (hr : Row w B A (ints o.zs)) (hB : B ≤ w.heap.size) (hm : o.zs.length ≤ 1048576) :
    Calls Try.prog 28 #[ob o.kd A o.zs.length c o.s] w (NewObj o w) := by
  obtain ⟨i0, hi, hz0, hz1, hz2⟩ := info_of info_int
  unfold ob
  go_enter Try.func28, Try.ntmps28
  have n2 := nil_own (w := (w.alloc (.cells #[.int .i64 o.kd, .slice A o.zs.length c, .string o.s] 26)).alloc (.cells #[.int .i64 0, .slice none 0 0, .string ⟨#[]⟩] 26)) (B := w.heap.size + 1 + 1) (by simp) 3 1
  have r2 := ((hr.alloc hB (.cells #[.int .i64 o.kd, .slice A o.zs.length c, .string o.s] 26)).alloc (by simp; omega) (.cells #[.int .i64 0, .slice none 0 0, .string ⟨#[]⟩] 26)).alloc (by simp; omega) (.cells #[] 3)
  simp only [World.size_alloc] at n2
  go_wp2_with (at_builtin; go_must (refine wpList_append_row _ rfl _ _ 24 rfl (w.heap.size + 1 + 1) 3 i0 (.int .i64 0) 1 8 Try.underlying24 hi hz0 hz1 hz2 rfl (by decide) _ 0 [] rfl n2 B A o.zs.length c (ints o.zs) rfl r2 (by rw [ints_length]; omega) (ints_cells _) (by unfold maxLen; omega) (by omega) (by simp) ?_); intro v' w5 hown hg; obtain ⟨⟨A2, c2, rfl⟩, ho, u5, t5, hb⟩ := one_facts hown hg; clear hown hg; obtain ⟨p0, p1, p2, pf⟩ := id u5.reads; have pf1 := pf 1; obtain ⟨s0, s1, s2, sf⟩ := id t5.reads; have sf0 := sf 0; have sf1 := sf 1; have sf2 := sf 2)
  refine bodyPost_ret (v := ob o.kd A2 o.zs.length c2 o.s) (by simp [results, Try.results28, go_sem, ob, s0, s1, s2]) rfl ⟨A2, c2, rfl, ?_, ?_⟩
  · have t6 := t5.far (p := ⟨w.heap.size, 1, none⟩) (by show w.heap.size + 1 ≠ w.heap.size; omega) (.slice A2 o.zs.length c2)
    exact ((((ho.far u5 1 (.slice A2 o.zs.length c2)).far t6 0 (.int .i64 o.kd)).far (t6.set0 _) 1 (.slice A2 o.zs.length c2)).far ((t6.set0 _).set1 _) 2 (.string o.s)).base (by omega)
  · exact (((hb.setCell (p := ⟨w.heap.size, 1, none⟩) (Nat.le_refl _) _).setCell (p := ⟨w.heap.size + 1, 0, none⟩) (Nat.le_succ _) _).setCell (p := ⟨w.heap.size + 1, 1, none⟩) (Nat.le_succ _) _).setCell (p := ⟨w.heap.size + 1, 2, none⟩) (Nat.le_succ _) _

theorem take_push {os : List Ob} {k : Nat} (hk : k < os.length) : os.take (k + 1) = os.take k ++ [os[k]] := List.take_succ_eq_append_getElem hk

set_option maxRecDepth 100000 in
set_option maxHeartbeats 2000000 in
theorem l1Copy_any (A : Option Addr) (c : Nat) (os : List Ob) (w : World) (h : Objs w w.heap.size A os) (hn : os.length ≤ 1048576) (hs : ∀ o ∈ os, o.zs.length ≤ 1048576) :
    Calls Try.prog 61 #[.slice A os.length c] w (NewList os w) := by
  obtain ⟨i0, hi, hz0, hz1, hz2⟩ := info_of info_ob
  go_enter Try.func61, Try.ntmps61
  go_wp2_with fail
  go_loopw [3, 4] (fun v i wr => ∃ k : Nat, k ≤ os.length ∧ i = .int .i64 k ∧ OwnObs wr w.heap.size v (os.take k) ∧ Below w.heap.size w wr) (fun _ i _ => os.length - (intOf i).toNat)
  case atStart => exact ⟨0, Nat.zero_le _, rfl, OwnObs.nil_new (Nat.le_refl _), (Below.refl _ _).alloc (Nat.le_refl _) _⟩
  case round =>
    obtain ⟨k, hk, rfl, hv, hb⟩ := hrel
    by_cases hlt : k < os.length
    · obtain ⟨o, ad, A', c', ho, rfl, ha, g0, g1, g2, g3⟩ := (h.below hb (Nat.le_refl _)).obj hlt
      have hso : o.zs.length ≤ 1048576 := by rw [← ho]; exact hs _ (List.getElem_mem hlt)
      have hlk : (os.take k).length = k := by rw [List.length_take]; omega
      have hpush := hid (take_push hlt)
      rw [ho] at hpush
      clear ho
      go_wp2_with fail
      refine (l1One_any w.heap.size A' c' o wr g3 hb.size hso).mono ?_
      rintro e w2 ⟨A2, c2, rfl, hl2, hb2⟩
      unfold ob
      have hv2 := hv.below hb2
      have hb3 := hb.trans (hb2.mono hb.size)
      have hl3 := hl2.base hb.size
      clear hv hl2 hb2 g0 g1 g2 g3
      obtain ⟨ys, hrow, hos⟩ := hv2
      rw [hlk] at hrow
      go_wp2_with (at_builtin; go_must (refine wpList_append_own _ rfl _ _ 23 rfl w.heap.size 26 i0 (.agg #[.int .i64 0, .slice none 0 0, .string ⟨#[]⟩]) 3 48 Try.underlying23 hi hz0 hz1 hz2 rfl (by decide) _ k ys rfl (World.ownsRow.alloc hrow _) ⟨w2.heap.size, 0, none⟩ 1 1 [.int .i64 o.kd, .slice A2 o.zs.length c2, .string o.s] rfl rfl (new_three _ _ _ _ _) (obj_cells o A2 c2) (by unfold maxLen; omega) (by omega) (by have := hb3.size; simp; omega) ?_); intro v' w5 hown hg _)
      have hlen : ys.length = (os.take k).length * 3 := by rw [hlk]; exact hrow.1
      have hv5 : OwnObs w5 w.heap.size v' (os.take k ++ [o]) := OwnObs.app hos hlen hl3 (by rw [hlk]; exact hrow) (by rw [hlk]; exact hown) hg
      have hlt' := World.ownsRow.lt hrow
      have hb5 : Below w.heap.size w w5 := (hb3.alloc hb3.size (.cells #[.int .i64 o.kd, .slice A2 o.zs.length c2, .string o.s] 26)).grown hg (by have := hb3.size; simp; omega) (fun j hj => (hlt' j hj).1)
      clear hown hg hos hrow hlen hlt' hl3
      go_wp2
      go_roundw
      case rel => exact ⟨k + 1, by omega, by go_num, by rw [hpush.out]; exact hv5, hb5⟩
      case measure => simp [intOf]; omega
    · have hk' : k = os.length := by omega
      subst hk'
      rw [List.take_length] at hv
      go_wp2
      go_ret
      exact ⟨_, rfl, hv, hb⟩
end Go.Proofs.Ytjniemimdjpibaa
