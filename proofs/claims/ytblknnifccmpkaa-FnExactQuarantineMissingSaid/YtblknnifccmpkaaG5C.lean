/-
  Lists of objects that a call has made.
  Walks: StoreGet.
  Walks: StoreGet on both sides.
  Walk: the program's copy of a list of objects.
  Rows of objects as lists of cells.
  Lists of objects that a call has made, whose links lie in blocks of their own.
  Walks: marks written into memory of the call's own, and read again.
  Walks: marks in objects and in lists of objects.
  Walk: the text of a mark.
  Walks: marks written into lists of objects whose links lie apart, and read again.
  Walks: marks in lists of objects read again.
  The program's copy of a list of objects, whose links lie in blocks of their own.
  copy between rows of elements of three cells; append of zeros.
  Plain facts: an array of marks in memory; a list that is made shorter.
-/
import Derived.Test.YtblknnifccmpkaaG3C
import Derived.Test.YtblknnifccmpkaaObject
import Derived.Test.YtblknnifccmpkaaG4C
import Derived.BigQuiet
import Derived.Laws.CopyRow
import Derived.Lib.AppendZerosOnto
import Derived.Deep.RegionLaw
namespace Go.Proofs.Ytblknnifccmpkaa
open Go.RowKit Wo Pu

/-- Among the cells xs the j-th object is o; its links are of the call's own. -/
def ObIs (w : World) (B : Nat) (xs : List Value) (j : Nat) (o : Ob) : Prop :=
  ∃ (A : Option Addr) (c : Nat), xs[j * 3]? = some (.int .i64 o.kd) ∧ xs[j * 3 + 1]? = some (.slice A o.zs.length c) ∧ xs[j * 3 + 2]? = some (.string o.s) ∧ Own w B (.slice A o.zs.length c) o.zs
/-- The slice v, of the call's own, holds the objects os. -/
def OwnObs (w : World) (B : Nat) (v : Value) (os : List Ob) : Prop :=
  ∃ xs, w.ownsRow B 38 3 v os.length xs ∧ ∀ j (hj : j < os.length), ObIs w B xs j os[j]

theorem own_below {w w' : World} {B C n sz : Nat} {e : TypeId} {v : Value} {xs : List Value} (h : w.ownsRow B e sz v n xs) (hb : Below C w w') (hC : w.heap.size ≤ C) : w'.ownsRow B e sz v n xs := by
  obtain ⟨h1, h2⟩ := h
  refine ⟨h1, ?_⟩
  rcases h2 with h2 | ⟨g, cap, cur, hv, hB, hh, hr⟩
  · exact .inl h2
  · refine .inr ⟨g, cap, cur, hv, hB, ?_, hr⟩
    have hl : g < w.heap.size := by
      rcases Nat.lt_or_ge g w.heap.size with h3 | h3
      · exact h3
      · rw [Array.getElem?_eq_none h3] at hh; cases hh
    rw [hb.block g (by omega)]
    exact hh
theorem OwnObs.below {w w' : World} {B : Nat} {v : Value} {os : List Ob} (h : OwnObs w B v os) (hb : Below w.heap.size w w') : OwnObs w' B v os := by
  obtain ⟨xs, h1, h2⟩ := h
  refine ⟨xs, own_below h1 hb (Nat.le_refl _), fun j hj => ?_⟩
  obtain ⟨A, c, q0, q1, q2, q3⟩ := h2 j hj
  exact ⟨A, c, q0, q1, q2, q3.below hb (Nat.le_refl _)⟩
theorem OwnObs.but {w w' : World} {R B : Nat} {v : Value} {os : List Ob} (h : OwnObs w B v os) (hb : But R w w') (hR : R < B) : OwnObs w' B v os := by
  obtain ⟨xs, h1, h2⟩ := h
  refine ⟨xs, World.ownsRow.kept h1 hb ?_, fun j hj => ?_⟩
  · rcases hv : v.ownBlock with _ | k
    · exact .inl rfl
    · refine .inr (fun e => ?_)
      have := (World.ownsRow.lt h1 k hv).1
      injection e with e
      omega
  · obtain ⟨A, c, q0, q1, q2, q3⟩ := h2 j hj
    exact ⟨A, c, q0, q1, q2, q3.but hb hR⟩
theorem OwnObs.base {w : World} {B B' : Nat} {v : Value} {os : List Ob} (h : OwnObs w B v os) (hB : B' ≤ B) : OwnObs w B' v os := by
  obtain ⟨xs, ⟨h1, h1'⟩, h2⟩ := h
  refine ⟨xs, ⟨h1, ?_⟩, fun j hj => ?_⟩
  · rcases h1' with h | ⟨g, cap, cur, hv, hb, hr⟩
    · exact .inl h
    · exact .inr ⟨g, cap, cur, hv, by omega, hr⟩
  · obtain ⟨A, c, q0, q1, q2, q3⟩ := h2 j hj
    exact ⟨A, c, q0, q1, q2, q3.base hB⟩
theorem OwnObs.lt {w : World} {B : Nat} {v : Value} {os : List Ob} (h : OwnObs w B v os) : ∀ k, v.ownBlock = some k → B ≤ k := fun k hk => by
  obtain ⟨xs, h1, _⟩ := h
  exact (World.ownsRow.lt h1 k hk).1
theorem OwnObs.nil_new {w : World} {B : Nat} (hB : B ≤ w.heap.size) : OwnObs (w.alloc (.cells #[] 38)) B (.slice (some ⟨w.heap.size, 0, none⟩) 0 0) [] :=
  ⟨[], nil_own hB _ _, fun j hj => by simp at hj⟩
theorem OwnObs.form {w : World} {B : Nat} {v : Value} {os : List Ob} (h : OwnObs w B v os) : ∃ (A : Option Addr) (c : Nat), v = .slice A os.length c ∧ Objs w w.heap.size A os := by
  obtain ⟨xs, h1, h2⟩ := h
  have h1' := h1
  obtain ⟨hl, h1⟩ := h1
  rcases h1 with ⟨rfl, h0⟩ | ⟨g, cap, cur, rfl, hB, hh, hn, hm, hcs, htk⟩
  · exact ⟨none, 0, by rw [h0], .inl (List.eq_nil_of_length_eq_zero h0)⟩
  · refine ⟨some ⟨g, 0, none⟩, cap, rfl, .inr ⟨_, rfl, (World.ownsRow.lt h1' g rfl).2, fun i hi => ?_⟩⟩
    obtain ⟨A, c, q0, q1, q2, q3⟩ := h2 i hi
    have hc := World.ownsRow.cells h1' (g := g) rfl
    have e : ∀ d, (((⟨g, 0, none⟩ : Addr).add (i * 3)).add d) = (⟨g, 0, none⟩ : Addr).add (i * 3 + d) := fun d => by
      rw [add_lit, add_lit]
      unfold Addr.add
      split
      · rename_i h; subst h; rfl
      · rfl
    exact ⟨A, c, hc _ _ q0, by rw [e]; exact hc _ _ q1, by rw [e]; exact hc _ _ q2, q3.row⟩
/-- One object more. -/
theorem OwnObs.app {w w1 : World} {B c : Nat} {A : Option Addr} {v v' : Value} {os : List Ob} {o : Ob} {ys : List Value} (hos : ∀ j (hj : j < os.length), ObIs w B ys j os[j]) (hlen : ys.length = os.length * 3)
    (hlinks : Own w B (.slice A o.zs.length c) o.zs) (hrow : w.ownsRow B 38 3 v os.length ys)
    (hown : w1.ownsRow B 38 3 v' (os.length + 1) (ys ++ [.int .i64 o.kd, .slice A o.zs.length c, .string o.s]))
    (hg : (w.alloc (.cells #[.int .i64 o.kd, .slice A o.zs.length c, .string o.s] 38)).grownBy w1 v.ownBlock) : OwnObs w1 B v' (os ++ [o]) := by
  have al := (Below.refl w.heap.size w).alloc (Nat.le_refl _) (.cells #[.int .i64 o.kd, .slice A o.zs.length c, .string o.s] 38)
  -- the links of any of the objects are in another block than the row of the objects
  have keep : ∀ {u : Value} {zs : List Int}, Own w B u zs → Own w1 B u zs := fun {u zs} h => by
    have h' := h.below al (Nat.le_refl _)
    refine World.ownsRow.kept h' hg ?_
    rcases hu : u.ownBlock with _ | k
    · exact .inl rfl
    · refine .inr (fun e => ?_)
      rcases h.2 with ⟨rfl, _⟩ | ⟨g, _, cur, rfl, _, hh, _⟩
      · cases hu
      · have hk : g = k := by simpa [Value.ownBlock] using hu
        subst hk
        rcases hrow.2 with ⟨rfl, _⟩ | ⟨g2, _, cur2, rfl, _, hh2, _⟩
        · cases e
        · have hk : g = g2 := by simpa [Value.ownBlock] using e
          subst hk
          rw [hh] at hh2
          injection hh2 with h3
          injection h3 with _ h3
          exact absurd h3 (by decide)
  refine ⟨_, by simpa using hown, fun j hj => ?_⟩
  by_cases e : j < os.length
  · obtain ⟨A', c', q0, q1, q2, q3⟩ := hos j e
    rw [List.getElem_append_left e]
    exact ⟨A', c', by rw [List.getElem?_append_left (by omega)]; exact q0, by rw [List.getElem?_append_left (by omega)]; exact q1, by rw [List.getElem?_append_left (by omega)]; exact q2, keep q3⟩
  · have ej : j = os.length := by simp at hj; omega
    subst ej
    have eo : (os ++ [o])[os.length]'(by simp) = o := by simp
    rw [eo]
    refine ⟨A, c, ?_, ?_, ?_, keep hlinks⟩
    · rw [List.getElem?_append_right (by omega), hlen]; simp
    · rw [List.getElem?_append_right (by omega), hlen, show os.length * 3 + 1 - os.length * 3 = 1 from by omega]; rfl
    · rw [List.getElem?_append_right (by omega), hlen, show os.length * 3 + 2 - os.length * 3 = 2 from by omega]; rfl
theorem obj_cells (o : Ob) (A : Option Addr) (c : Nat) : ∀ u ∈ [Value.int .i64 o.kd, .slice A o.zs.length c, .string o.s], u.oneCell' = true := by
  intro u hu
  simp only [List.mem_cons, List.not_mem_nil, or_false] at hu
  rcases hu with rfl | rfl | rfl <;> rfl
theorem new_three (w : World) (v0 v1 v2 : Value) (t : TypeId) : ∀ j u, [v0, v1, v2][j]? = some u → (w.alloc (.cells #[v0, v1, v2] t)).cell? ((⟨w.heap.size, 0, none⟩ : Addr).add j) = some u :=
  World.news_of_block (cs := #[v0, v1, v2]) (heap_alloc_new w _)

/-- Behind it: an object with links of its own. -/
def NewObj (o : Ob) (w : World) (e : Ending) (w' : World) : Prop := ∃ (A : Option Addr) (c : Nat), e = .returned (ob o.kd A o.zs.length c o.s) ∧ Own w' w.heap.size (.slice A o.zs.length c) o.zs ∧ Below w.heap.size w w'
/-- Behind it: a list of objects of the call's own. -/
def NewList (os : List Ob) (w : World) (e : Ending) (w' : World) : Prop := ∃ v, e = .returned v ∧ OwnObs w' w.heap.size v os ∧ Below w.heap.size w w'

/-- What lies behind the append in l1One. -/
theorem one_facts {w w5 : World} {o : Ob} {A : Option Addr} {c : Nat} {v' : Value}
    (hown : w5.ownsRow (w.heap.size + 1 + 1) 3 1 v' (0 + o.zs.length) ([] ++ ints o.zs))
    (hg : (((w.alloc (.cells #[.int .i64 o.kd, .slice A o.zs.length c, .string o.s] 38)).alloc (.cells #[.int .i64 0, .slice none 0 0, .string ⟨#[]⟩] 38)).alloc (.cells #[] 3)).grownBy w5 (some (w.heap.size + 1 + 1))) :
    (∃ A2 c2, v' = .slice A2 o.zs.length c2) ∧ Own w5 (w.heap.size + 1 + 1) v' o.zs ∧ Blk w5 w.heap.size 38 (.int .i64 o.kd) (.slice A o.zs.length c) (.string o.s) ∧
    Blk w5 (w.heap.size + 1) 38 (.int .i64 0) (.slice none 0 0) (.string ⟨#[]⟩) ∧ Below w.heap.size w w5 := by
  have ho : Own w5 (w.heap.size + 1 + 1) v' o.zs := by
    rw [Nat.zero_add] at hown
    exact hown
  have u0 := Blk.new_ w 38 (.int .i64 o.kd) (.slice A o.zs.length c) (.string o.s)
  have z1 : (w.alloc (.cells #[.int .i64 o.kd, .slice A o.zs.length c, .string o.s] 38)).heap.size = w.heap.size + 1 := by simp
  have a0 := (Below.refl w.heap.size w).alloc (Nat.le_refl _) (.cells #[.int .i64 o.kd, .slice A o.zs.length c, .string o.s] 38)
  generalize w.alloc (.cells #[.int .i64 o.kd, .slice A o.zs.length c, .string o.s] 38) = x1 at *
  have t0 := Blk.new_ x1 38 (.int .i64 0) (.slice none 0 0) (.string ⟨#[]⟩)
  have z2 : (x1.alloc (.cells #[.int .i64 0, .slice none 0 0, .string ⟨#[]⟩] 38)).heap.size = w.heap.size + 1 + 1 := by simp; omega
  have a1 := (Below.refl x1.heap.size x1).alloc (Nat.le_refl _) (.cells #[.int .i64 0, .slice none 0 0, .string ⟨#[]⟩] 38)
  generalize x1.alloc (.cells #[.int .i64 0, .slice none 0 0, .string ⟨#[]⟩] 38) = x2 at *
  have a2 := (Below.refl x2.heap.size x2).alloc (Nat.le_refl _) (.cells #[] 3)
  have z3 : (x2.alloc (.cells #[] 3)).heap.size = w.heap.size + 1 + 1 + 1 := by simp; omega
  generalize x2.alloc (.cells #[] 3) = x3 at *
  rw [z1] at t0
  have hb : Below (w.heap.size + 1 + 1) x3 w5 := (Below.refl _ _).grown hg (by omega) (fun k hk => by injection hk with hk; omega)
  obtain ⟨A2, c2, hv, _⟩ := ho.form
  exact ⟨⟨A2, c2, hv⟩, ho, ((u0.below a1 (by omega)).below a2 (by omega)).below hb (by omega), (t0.below a2 (by omega)).below hb (by omega), ((a0.trans (a1.mono (by omega))).trans (a2.mono (by omega))).trans (hb.mono (by omega))⟩

set_option maxHeartbeats 1000000 in
theorem l1One_any (B : Nat) (A : Option Addr) (c : Nat) (o : Ob) (w : World) (hr : Row w B A (ints o.zs)) (hB : B ≤ w.heap.size) (hm : o.zs.length ≤ 1048576) :
    Calls Try.prog 122 #[ob o.kd A o.zs.length c o.s] w (NewObj o w) := by
  obtain ⟨i0, hi, hz0, hz1, hz2⟩ := info_of info_int
  unfold ob
  go_enter Try.func122, Try.ntmps122
  have n2 := nil_own (w := (w.alloc (.cells #[.int .i64 o.kd, .slice A o.zs.length c, .string o.s] 38)).alloc (.cells #[.int .i64 0, .slice none 0 0, .string ⟨#[]⟩] 38)) (B := w.heap.size + 1 + 1) (by simp) 3 1
  have r2 := ((hr.alloc hB (.cells #[.int .i64 o.kd, .slice A o.zs.length c, .string o.s] 38)).alloc (by simp; omega) (.cells #[.int .i64 0, .slice none 0 0, .string ⟨#[]⟩] 38)).alloc (by simp; omega) (.cells #[] 3)
  simp only [World.size_alloc] at n2
  go_wp2_with (at_builtin; go_must (refine wpList_append_row _ rfl _ _ 36 rfl (w.heap.size + 1 + 1) 3 i0 (.int .i64 0) 1 8 Try.underlying36 hi hz0 hz1 hz2 rfl (by decide) _ 0 [] rfl n2 B A o.zs.length c (ints o.zs) rfl r2 (by rw [ints_length]; omega) (ints_cells _) (by unfold maxLen; omega) (by omega) (by simp) ?_); intro v' w5 hown hg; obtain ⟨⟨A2, c2, rfl⟩, ho, u5, t5, hb⟩ := one_facts hown hg; clear hown hg; obtain ⟨p0, p1, p2, pf⟩ := id u5.reads; have pf1 := pf 1; obtain ⟨s0, s1, s2, sf⟩ := id t5.reads; have sf0 := sf 0; have sf1 := sf 1; have sf2 := sf 2)
  refine bodyPost_ret (v := ob o.kd A2 o.zs.length c2 o.s) (by simp [results, Try.results122, go_sem, ob, s0, s1, s2]) rfl ⟨A2, c2, rfl, ?_, ?_⟩
  · have t6 := t5.far (p := ⟨w.heap.size, 1, none⟩) (by show w.heap.size + 1 ≠ w.heap.size; omega) (.slice A2 o.zs.length c2)
    exact ((((ho.far u5 1 (.slice A2 o.zs.length c2)).far t6 0 (.int .i64 o.kd)).far (t6.set0 _) 1 (.slice A2 o.zs.length c2)).far ((t6.set0 _).set1 _) 2 (.string o.s)).base (by omega)
  · exact (((hb.setCell (p := ⟨w.heap.size, 1, none⟩) (Nat.le_refl _) _).setCell (p := ⟨w.heap.size + 1, 0, none⟩) (Nat.le_succ _) _).setCell (p := ⟨w.heap.size + 1, 1, none⟩) (Nat.le_succ _) _).setCell (p := ⟨w.heap.size + 1, 2, none⟩) (Nat.le_succ _) _

theorem take_push {os : List Ob} {k : Nat} (hk : k < os.length) : os.take (k + 1) = os.take k ++ [os[k]] := List.take_succ_eq_append_getElem hk

set_option maxRecDepth 100000 in
set_option maxHeartbeats 2000000 in
theorem l1Copy_any (A : Option Addr) (c : Nat) (os : List Ob) (w : World) (h : Objs w w.heap.size A os) (hn : os.length ≤ 1048576) (hs : ∀ o ∈ os, o.zs.length ≤ 1048576) :
    Calls Try.prog 103 #[.slice A os.length c] w (NewList os w) := by
  obtain ⟨i0, hi, hz0, hz1, hz2⟩ := info_of info_ob
  go_enter Try.func103, Try.ntmps103
  go_wp2_with fail
  go_loopw [3, 4] (fun v i wr => ∃ k : Nat, k ≤ os.length ∧ i = .int .i64 k ∧ OwnObs wr w.heap.size v (os.take k) ∧ Below w.heap.size w wr) (fun _ i _ => os.length - (intOf i).toNat)
  case atStart => exact ⟨0, Nat.zero_le _, rfl, OwnObs.nil_new (Nat.le_refl _), (Below.refl _ _).alloc (Nat.le_refl _) _⟩
  case round =>
    obtain ⟨k, hk, rfl, hv, hb⟩ := hrel
    by_cases hlt : k < os.length
    · obtain ⟨o, ad, A', c', ho, rfl, ha, g0, g1, g2, g3⟩ := (h.below hb (Nat.le_refl _)).obj hlt
      have hso : o.zs.length ≤ 1048576 := by rw [← ho]; exact hs _ (List.getElem_mem hlt)
      have hlk : (os.take k).length = k := by rw [List.length_take]; omega
      have hpush := hid (take_push hlt)
      rw [ho] at hpush
      clear ho
      go_wp2_with fail
      refine (l1One_any w.heap.size A' c' o wr g3 hb.size hso).mono ?_
      rintro e w2 ⟨A2, c2, rfl, hl2, hb2⟩
      unfold ob
      have hv2 := hv.below hb2
      have hb3 := hb.trans (hb2.mono hb.size)
      have hl3 := hl2.base hb.size
      clear hv hl2 hb2 g0 g1 g2 g3
      obtain ⟨ys, hrow, hos⟩ := hv2
      rw [hlk] at hrow
      go_wp2_with (at_builtin; go_must (refine wpList_append_own _ rfl _ _ 23 rfl w.heap.size 38 i0 (.agg #[.int .i64 0, .slice none 0 0, .string ⟨#[]⟩]) 3 48 Try.underlying23 hi hz0 hz1 hz2 rfl (by decide) _ k ys rfl (World.ownsRow.alloc hrow _) ⟨w2.heap.size, 0, none⟩ 1 1 [.int .i64 o.kd, .slice A2 o.zs.length c2, .string o.s] rfl rfl (new_three _ _ _ _ _) (obj_cells o A2 c2) (by unfold maxLen; omega) (by omega) (by have := hb3.size; simp; omega) ?_); intro v' w5 hown hg _)
      have hlen : ys.length = (os.take k).length * 3 := by rw [hlk]; exact hrow.1
      have hv5 : OwnObs w5 w.heap.size v' (os.take k ++ [o]) := OwnObs.app hos hlen hl3 (by rw [hlk]; exact hrow) (by rw [hlk]; exact hown) hg
      have hlt' := World.ownsRow.lt hrow
      have hb5 : Below w.heap.size w w5 := (hb3.alloc hb3.size (.cells #[.int .i64 o.kd, .slice A2 o.zs.length c2, .string o.s] 38)).grown hg (by have := hb3.size; simp; omega) (fun j hj => (hlt' j hj).1)
      clear hown hg hos hrow hlen hlt' hl3
      go_wp2
      go_roundw
      case rel => exact ⟨k + 1, by omega, by go_num, by rw [hpush.out]; exact hv5, hb5⟩
      case measure => simp [intOf]; omega
    · have hk' : k = os.length := by omega
      subst hk'
      rw [List.take_length] at hv
      go_wp2
      go_ret
      exact ⟨_, rfl, hv, hb⟩
end Go.Proofs.Ytblknnifccmpkaa
namespace Go.Proofs.Ytblknnifccmpkaa
open Go.RowKit Wo Pu

/-- Behind it: numbers of the call's own. -/
def NewNums (zs : List Int) (w : World) (e : Ending) (w' : World) : Prop := ∃ (A : Option Addr) (c : Nat), e = .returned (.slice A zs.length c) ∧ Own w' w.heap.size (.slice A zs.length c) zs ∧ Below w.heap.size w w'

set_option maxHeartbeats 1000000 in
theorem copyNumbers_any (B : Nat) (A : Option Addr) (c : Nat) (zs : List Int) (w : World) (hr : Row w B A (ints zs)) (hB : B ≤ w.heap.size) (hm : zs.length ≤ 1048576) :
    Calls Try.prog 104 #[.slice A zs.length c] w (NewNums zs w) := by
  obtain ⟨i0, hi, hz0, hz1, hz2⟩ := info_of info_int
  go_enter Try.func104, Try.ntmps104
  have n2 := nil_own (w := w) (B := w.heap.size) (Nat.le_refl _) 3 1
  have r2 := hr.alloc hB (.cells #[] 3)
  go_wp2_with (at_builtin; go_must (refine wpList_append_row _ rfl _ _ 36 rfl w.heap.size 3 i0 (.int .i64 0) 1 8 Try.underlying36 hi hz0 hz1 hz2 rfl (by decide) _ 0 [] rfl n2 B A zs.length c (ints zs) rfl r2 (by rw [ints_length]; omega) (ints_cells _) (by unfold maxLen; omega) (by omega) (by simp) ?_); intro v' w5 hown hg)
  have hb : Below w.heap.size w w5 := ((Below.refl _ _).alloc (Nat.le_refl _) (.cells #[] 3)).grown hg (by simp) (fun k hk => by have hk' : some w.heap.size = some k := hk; injection hk' with hk'; omega)
  have ho : Own w5 w.heap.size v' zs := by
    rw [Nat.zero_add] at hown
    exact hown
  obtain ⟨A2, c2, rfl, _⟩ := ho.form
  clear hown hg
  go_wp2
  go_ret
  exact ⟨A2, c2, rfl, ho, hb⟩

theorem copied_facts {w w5 : World} {o : Ob} {A : Option Addr} {c : Nat} {v : Value}
    (ho : Own w5 ((w.alloc (.cells #[.int .i64 o.kd, .slice A o.zs.length c, .string o.s] 38)).alloc (.cells #[.int .i64 0, .slice none 0 0, .string ⟨#[]⟩] 38)).drew.heap.size v o.zs)
    (hb : Below ((w.alloc (.cells #[.int .i64 o.kd, .slice A o.zs.length c, .string o.s] 38)).alloc (.cells #[.int .i64 0, .slice none 0 0, .string ⟨#[]⟩] 38)).drew.heap.size ((w.alloc (.cells #[.int .i64 o.kd, .slice A o.zs.length c, .string o.s] 38)).alloc (.cells #[.int .i64 0, .slice none 0 0, .string ⟨#[]⟩] 38)).drew w5) :
    Own w5 (w.heap.size + 1 + 1) v o.zs ∧ Blk w5 w.heap.size 38 (.int .i64 o.kd) (.slice A o.zs.length c) (.string o.s) ∧
    Blk w5 (w.heap.size + 1) 38 (.int .i64 0) (.slice none 0 0) (.string ⟨#[]⟩) ∧ Below w.heap.size w w5 := by
  have u0 := Blk.new_ w 38 (.int .i64 o.kd) (.slice A o.zs.length c) (.string o.s)
  have z1 : (w.alloc (.cells #[.int .i64 o.kd, .slice A o.zs.length c, .string o.s] 38)).heap.size = w.heap.size + 1 := by simp
  have a0 := (Below.refl w.heap.size w).alloc (Nat.le_refl _) (.cells #[.int .i64 o.kd, .slice A o.zs.length c, .string o.s] 38)
  generalize w.alloc (.cells #[.int .i64 o.kd, .slice A o.zs.length c, .string o.s] 38) = x1 at *
  have t0 := Blk.new_ x1 38 (.int .i64 0) (.slice none 0 0) (.string ⟨#[]⟩)
  have z2 : (x1.alloc (.cells #[.int .i64 0, .slice none 0 0, .string ⟨#[]⟩] 38)).heap.size = w.heap.size + 1 + 1 := by simp; omega
  have a1 := (Below.refl x1.heap.size x1).alloc (Nat.le_refl _) (.cells #[.int .i64 0, .slice none 0 0, .string ⟨#[]⟩] 38)
  generalize x1.alloc (.cells #[.int .i64 0, .slice none 0 0, .string ⟨#[]⟩] 38) = x2 at *
  have a2 := (Below.refl x2.heap.size x2).drew
  have z3 : x2.drew.heap.size = w.heap.size + 1 + 1 := z2
  generalize x2.drew = x3 at *
  rw [z1] at t0
  rw [z3] at ho hb
  exact ⟨ho, ((u0.below a1 (by omega)).below a2 (by omega)).below hb (by omega), (t0.below a2 (by omega)).below hb (by omega), ((a0.trans (a1.mono (by omega))).trans (a2.mono (by omega))).trans (hb.mono (by omega))⟩

set_option maxHeartbeats 1000000 in
theorem copied_any (B : Nat) (A : Option Addr) (c : Nat) (o : Ob) (w : World) (hr : Row w B A (ints o.zs)) (hB : B ≤ w.heap.size) (hm : o.zs.length ≤ 1048576) :
    Calls Try.prog 74 #[ob o.kd A o.zs.length c o.s] w (NewObj o w) := by
  unfold ob
  have r2 := ((hr.alloc hB (.cells #[.int .i64 o.kd, .slice A o.zs.length c, .string o.s] 38)).alloc (by simp; omega) (.cells #[.int .i64 0, .slice none 0 0, .string ⟨#[]⟩] 38)).drewN 1
  go_enter Try.func74, Try.ntmps74
  go_wp2_with fail
  go_region_held3 (fun w' => w'.cell? ⟨w.heap.size, 0, none⟩ = some (.int .i64 o.kd) ∧ w'.cell? ⟨w.heap.size, 1, none⟩ = some (.slice A o.zs.length c) ∧ w'.cell? ⟨w.heap.size, 2, none⟩ = some (.string o.s)) (simp [*, go_sem, World.cell?_alloc_past])
    (first | (go_at_call 104; go_must (refine (copyNumbers_any B A c o.zs _ r2 (by simp; omega) hm).mono ?_); rintro e w5 ⟨A2, c2, rfl, ho, hb⟩; obtain ⟨ho5, u5, t5, b5⟩ := copied_facts ho hb; clear ho hb; obtain ⟨p0, p1, p2, pf⟩ := id u5.reads; clear pf; obtain ⟨s0, s1, s2, sf⟩ := id t5.reads; have sf0 := sf 0; have sf1 := sf 1; have sf2 := sf 2))
  go_wp2_with fail
  refine bodyPost_ret (v := ob o.kd A2 o.zs.length c2 o.s) (by simp [results, Try.results74, go_sem, ob, s0, s1, s2]) rfl ⟨A2, c2, rfl, ?_, ?_⟩
  · exact ((ho5.far t5 0 _).far (t5.set0 _) 1 _).far ((t5.set0 _).set1 _) 2 _ |>.base (by omega)
  · exact ((b5.setCell (p := ⟨w.heap.size + 1, 0, none⟩) (Nat.le_succ _) _).setCell (p := ⟨w.heap.size + 1, 1, none⟩) (Nat.le_succ _) _).setCell (p := ⟨w.heap.size + 1, 2, none⟩) (Nat.le_succ _) _
end Go.Proofs.Ytblknnifccmpkaa
namespace Go.Proofs.Ytblknnifccmpkaa
open Go.RowKit Wo Pu

def ob0 : Ob := ⟨0, [], ⟨#[]⟩⟩
/-- What is found at the place r. -/
def fndO (os : List Ob) (id : Int) (r : Nat) : Option Ob := if storeB os then (os[r]?).filter (fun o => decide (iOb o = id)) else none
theorem fnd_a {os : List Ob} {id : Int} {r : Nat} (h : storeB os = false) : fndO os id r = none := by simp [fndO, h]
theorem fnd_b {os : List Ob} {id : Int} {r : Nat} (h : storeB os = true) (hr : r < os.length) (hi : iOb os[r] = id) : fndO os id r = some os[r] := by simp [fndO, h, hr, hi, Option.filter]
theorem fnd_c {os : List Ob} {id : Int} {r : Nat} (h : ¬ ∃ h : r < os.length, iOb os[r] = id) : fndO os id r = none := by
  unfold fndO
  split
  · by_cases hr : r < os.length
    · have : ¬ iOb os[r] = id := fun e => h ⟨hr, e⟩
      simp [hr, Option.filter, this]
    · simp [hr]
  · rfl
theorem at_none {os : List Ob} {id : Int} {r : Nat} (hs : storeB os = true) (hr : At_ os id r) (h : ¬ ∃ h : r < os.length, iOb os[r] = id) : ∀ j (hj : j < os.length), ¬ iOb os[j] = id := by
  intro j hj e
  by_cases hjr : j < r
  · have := hr.2.1 j hj hjr; omega
  · have hr2 : r < os.length := by omega
    have h1 := hr.2.2 hr2
    by_cases hjr2 : j = r
    · subst hjr2; exact h ⟨hr2, e⟩
    · have := (stB_sorted (storeB_parts hs).1 r hr2).2 j hj (by omega)
      have : ¬ iOb os[r] = id := fun e2 => h ⟨hr2, e2⟩
      omega
theorem links_few {o : Ob} (h : vOb o = true) : o.zs.length ≤ 1048576 := by
  by_cases h4 : o.zs.length ≤ 4
  · omega
  · have : vOb o = false := vld_b h4
    rw [this] at h; cases h

/-- Behind it: the object that was found, of the call's own, or none. -/
def GotOb (f : Option Ob) (w : World) (e : Ending) (w' : World) : Prop :=
  ∃ (A : Option Addr) (c : Nat), e = .returned (.tuple #[ob (f.getD ob0).kd A (f.getD ob0).zs.length c (f.getD ob0).s, .bool f.isSome]) ∧ Own w' w.heap.size (.slice A (f.getD ob0).zs.length c) (f.getD ob0).zs ∧ Below w.heap.size w w'
theorem GotOb.none_ {w w' : World} (hb : Below w.heap.size w w') : GotOb none w (.returned (.tuple #[ob 0 none 0 0 ⟨#[]⟩, .bool false])) w' :=
  ⟨none, 0, rfl, ⟨by simp [ints, ob0], .inl ⟨rfl, rfl⟩⟩, hb⟩

theorem zero_facts {w w5 : World} {C : Nat} (hb : Below C (w.alloc (.cells #[.int .i64 0, .slice none 0 0, .string ⟨#[]⟩] 38)) w5) (hC : C = (w.alloc (.cells #[.int .i64 0, .slice none 0 0, .string ⟨#[]⟩] 38)).heap.size) :
    Blk w5 w.heap.size 38 (.int .i64 0) (.slice none 0 0) (.string ⟨#[]⟩) ∧ Below w.heap.size w w5 ∧ w.heap.size + 1 ≤ w5.heap.size := by
  have u0 := Blk.new_ w 38 (.int .i64 0) (.slice none 0 0) (.string ⟨#[]⟩)
  have z1 : (w.alloc (.cells #[.int .i64 0, .slice none 0 0, .string ⟨#[]⟩] 38)).heap.size = w.heap.size + 1 := by simp
  have a0 := (Below.refl w.heap.size w).alloc (Nat.le_refl _) (.cells #[.int .i64 0, .slice none 0 0, .string ⟨#[]⟩] 38)
  generalize w.alloc (.cells #[.int .i64 0, .slice none 0 0, .string ⟨#[]⟩] 38) = x1 at *
  subst hC
  have := hb.size
  exact ⟨u0.below hb (by omega), a0.trans (hb.mono (by omega)), by omega⟩

set_option maxHeartbeats 2000000 in
theorem implStoreGet_Any (A : Option Addr) (c : Nat) (os : List Ob) (x : Int) (r : Nat) (w : World) (h : Objs w w.heap.size A os) (hf : Fit os) (hn : os.length ≤ maxLen) (hr : Hid (At_ os x r)) :
    Calls Try.prog 26 #[.slice A os.length c, .int .i64 x] w (GotOb (fndO os x r) w) := by
  have h1 : Objs (w.alloc (.cells #[.int .i64 0, .slice none 0 0, .string ⟨#[]⟩] 38)) (w.alloc (.cells #[.int .i64 0, .slice none 0 0, .string ⟨#[]⟩] 38)).heap.size A os :=
    (h.below ((Below.refl w.heap.size w).alloc (Nat.le_refl _) _) (Nat.le_refl _)).more (by simp)
  rcases hst : storeB os with _ | _
  · rw [fnd_a hst]
    go_enter Try.func26, Try.ntmps26
    go_wp2_with fail
    refine (implStoreValid_any A c os _ h1 hf hn).mono ?_
    rintro e w1 ⟨rfl, hb1⟩
    obtain ⟨t1, b1, z1⟩ := zero_facts hb1 rfl
    clear hb1
    rw [hst]
    clear hst
    obtain ⟨s0, s1, s2, sf⟩ := id t1.reads
    have sf0 := sf 0
    have sf1 := sf 1
    have sf2 := sf 2
    clear sf
    go_wp2_with fail
    refine bodyPost_ret (v := .tuple #[ob 0 none 0 0 ⟨#[]⟩, .bool false]) (by simp [results, Try.results26, go_sem, ob, s0, s1, s2]) rfl (GotOb.none_ ?_)
    exact ((b1.setCell (p := ⟨w.heap.size, 0, none⟩) (Nat.le_refl _) _).setCell (p := ⟨w.heap.size, 1, none⟩) (Nat.le_refl _) _).setCell (p := ⟨w.heap.size, 2, none⟩) (Nat.le_refl _) _
  · by_cases hex : ∃ h : r < os.length, iOb os[r] = x
    · obtain ⟨hex1, hex2⟩ := hex
      rw [fnd_b hst hex1 hex2]
      go_enter Try.func26, Try.ntmps26
      go_wp2_with fail
      refine (implStoreValid_any A c os _ h1 hf hn).mono ?_
      rintro e w1 ⟨rfl, hb1⟩
      obtain ⟨t1, b1, z1⟩ := zero_facts hb1 rfl
      clear hb1
      rw [hst]
      go_wp2_with fail
      refine (findObject_any A c os x r w1 ((h.below b1 (Nat.le_refl _)).more b1.size) hf hn hr).mono ?_
      rintro e w2 ⟨fb, rfl, hfb, hb2⟩
      replace t1 := t1.below hb2 t1.lt
      replace b1 := b1.trans (hb2.mono b1.size)
      clear hb2
      obtain rfl : fb = true := hfb.2 ⟨hex1, hex2⟩
      clear hfb
      have hz := b1.size
      have k0 : 0 ≤ (r : Int) := by omega
      have k1 : (r : Int) < (os.length : Int) := by omega
      have hvo := storeB_valid hst r hex1
      obtain ⟨o, ad, A', c', ho, rfl, ha, g0, g1, g2, g3⟩ := (h.below b1 (Nat.le_refl _)).obj hex1
      rw [ho] at hvo
      have HO := hid ho
      clear ho hst
      go_wp2_with fail
      refine (copied_any w.heap.size A' c' o _ g3 hz (links_few hvo)).mono ?_
      rintro e w5 ⟨A2, c2, rfl, hl5, hb5⟩
      unfold ob
      have b5 := b1.trans (hb5.mono hz)
      have t5 := t1.below hb5 t1.lt
      have hl6 := hl5.base (Nat.le_trans (Nat.le_succ _) t1.lt)
      clear hb5 t1 b1
      obtain ⟨s0, s1, s2, sf⟩ := id t5.reads
      have sf0 := sf 0
      have sf1 := sf 1
      have sf2 := sf 2
      clear sf
      go_wp2_with fail
      refine bodyPost_ret (v := .tuple #[ob o.kd A2 o.zs.length c2 o.s, .bool true]) (by simp [results, Try.results26, go_sem, ob, s0, s1, s2]) rfl ?_
      rw [HO.out]
      refine ⟨A2, c2, rfl, ?_, ?_⟩
      · exact ((hl6.far t5 0 (.int .i64 o.kd)).far (t5.set0 _) 1 (.slice A2 o.zs.length c2)).far ((t5.set0 _).set1 _) 2 (.string o.s) |>.base (by omega)
      · exact ((b5.setCell (p := ⟨w.heap.size, 0, none⟩) (Nat.le_refl _) _).setCell (p := ⟨w.heap.size, 1, none⟩) (Nat.le_refl _) _).setCell (p := ⟨w.heap.size, 2, none⟩) (Nat.le_refl _) _
    · rw [fnd_c hex]
      go_enter Try.func26, Try.ntmps26
      go_wp2_with fail
      refine (implStoreValid_any A c os _ h1 hf hn).mono ?_
      rintro e w1 ⟨rfl, hb1⟩
      obtain ⟨t1, b1, z1⟩ := zero_facts hb1 rfl
      clear hb1
      rw [hst]
      go_wp2_with fail
      refine (findObject_any A c os x r w1 ((h.below b1 (Nat.le_refl _)).more b1.size) hf hn hr).mono ?_
      rintro e w2 ⟨fb, rfl, hfb, hb2⟩
      replace t1 := t1.below hb2 t1.lt
      replace b1 := b1.trans (hb2.mono b1.size)
      clear hb2
      obtain rfl : fb = false := by
        cases fb
        · rfl
        · exact absurd (hfb.1 rfl) hex
      clear hfb hex
      obtain ⟨s0, s1, s2, sf⟩ := id t1.reads
      have sf0 := sf 0
      have sf1 := sf 1
      have sf2 := sf 2
      clear sf
      go_wp2_with fail
      refine bodyPost_ret (v := .tuple #[ob 0 none 0 0 ⟨#[]⟩, .bool false]) (by simp [results, Try.results26, go_sem, ob, s0, s1, s2]) rfl (GotOb.none_ ?_)
      exact ((b1.setCell (p := ⟨w.heap.size, 0, none⟩) (Nat.le_refl _) _).setCell (p := ⟨w.heap.size, 1, none⟩) (Nat.le_refl _) _).setCell (p := ⟨w.heap.size, 2, none⟩) (Nat.le_refl _) _

end Go.Proofs.Ytblknnifccmpkaa
namespace Go.Proofs.Ytblknnifccmpkaa
open Go.RowKit Wo Pu

/-- The new list so far. -/
def FilledO (w : World) (B g : Nat) (os : List Ob) (k : Nat) : Prop := ∃ xs, Mine w B 38 3 g os.length xs ∧ ∀ j (hj : j < os.length), j < k → ObIs w B xs j os[j]
theorem FilledO.below {w w' : World} {B g k : Nat} {os : List Ob} (h : FilledO w B g os k) (hb : Below w.heap.size w w') : FilledO w' B g os k := by
  obtain ⟨xs, hm, hx⟩ := h
  refine ⟨xs, hm.below hb hm.lt.2, fun j hj hjk => ?_⟩
  obtain ⟨A, c, h0, h1, h2, h3⟩ := hx j hj hjk
  exact ⟨A, c, h0, h1, h2, h3.below hb (Nat.le_refl _)⟩
theorem FilledO.cells3 {w : World} {B g k k' : Nat} {os : List Ob} (h : FilledO w B g os k') (hk : k < os.length) :
    (∃ v, w.cell? ⟨g, k * 3, none⟩ = some v) ∧ (∃ v, w.cell? ⟨g, k * 3 + 1, none⟩ = some v) ∧ (∃ v, w.cell? ⟨g, k * 3 + 2, none⟩ = some v) ∧ ∀ o, w.frozen? ⟨g, o, none⟩ = false := by
  obtain ⟨xs, hm, _⟩ := h
  have hlen := hm.len
  have rd : ∀ j, j < os.length * 3 → ∃ v, w.cell? ⟨g, j, none⟩ = some v := fun j hj =>
    ⟨_, (World.ownsRow.cellAt hm j hj).trans (List.getElem?_eq_getElem (by omega))⟩
  exact ⟨rd _ (by omega), rd _ (by omega), rd _ (by omega), fun o => World.ownsRow.frozenAt hm o⟩
theorem Own.off {w : World} {B g n : Nat} {v : Value} {zs : List Int} {ys : List Value} (h : Own w B v zs) (hm : Mine w B 38 3 g n ys) (j : Nat) (u : Value) : Own (w.setCell ⟨g, j, none⟩ u) B v zs := by
  refine World.ownsRow.kept h (World.ownsRow.stored hm j u).2 ?_
  rcases hu : v.ownBlock with _ | k
  · exact .inl rfl
  · refine .inr (fun e => ?_)
    injection e with e
    subst e
    rcases h.2 with ⟨rfl, _⟩ | ⟨g1, _, cur, rfl, _, hh, _⟩
    · cases hu
    · have hk : g1 = k := by simpa [Value.ownBlock] using hu
      subst hk
      rcases hm.2 with ⟨h1, _⟩ | ⟨g2, _, cur2, hv2, _, hh2, _⟩
      · cases h1
      · have hk : g2 = g1 := by injection hv2 with e1; injection e1 with e1; injection e1 with e1; exact e1.symm
        subst hk
        rw [hh] at hh2
        injection hh2 with h3
        injection h3 with _ h3
        exact absurd h3 (by decide)
theorem FilledO.step {w : World} {B g k c : Nat} {A : Option Addr} {os : List Ob} (h : FilledO w B g os k) (hk : k < os.length) (hl : Own w B (.slice A os[k].zs.length c) os[k].zs) :
    FilledO (((w.setCell ⟨g, k * 3, none⟩ (.int .i64 os[k].kd)).setCell ⟨g, k * 3 + 1, none⟩ (.slice A os[k].zs.length c)).setCell ⟨g, k * 3 + 2, none⟩ (.string os[k].s)) B g os (k + 1) := by
  obtain ⟨xs, hm, hx⟩ := h
  have hlen := hm.len
  have hlt : k * 3 + 2 < xs.length := by omega
  have hm1 := hm.set_ (k * 3) (.int .i64 os[k].kd)
  have hm2 := hm1.set_ (k * 3 + 1) (.slice A os[k].zs.length c)
  refine ⟨((xs.set (k * 3) (.int .i64 os[k].kd)).set (k * 3 + 1) (.slice A os[k].zs.length c)).set (k * 3 + 2) (.string os[k].s), hm2.set_ _ _, fun j hj hjk => ?_⟩
  by_cases e : j = k
  · subst e
    refine ⟨A, c, ?_, ?_, ?_, ((hl.off hm _ _).off hm1 _ _).off hm2 _ _⟩ <;> simp [List.getElem?_set] <;> omega
  · obtain ⟨A2, c2, h0, h1, h2, h3⟩ := hx j hj (by omega)
    have t : ∀ d, d < 3 → (((xs.set (k * 3) (.int .i64 os[k].kd)).set (k * 3 + 1) (.slice A os[k].zs.length c)).set (k * 3 + 2) (.string os[k].s))[j * 3 + d]? = xs[j * 3 + d]? := fun d hd => by
      rw [List.getElem?_set_ne (by omega), List.getElem?_set_ne (by omega), List.getElem?_set_ne (by omega)]
    exact ⟨A2, c2, by rw [show j * 3 = j * 3 + 0 from rfl, t 0 (by omega)]; exact h0, by rw [t 1 (by omega)]; exact h1, by rw [t 2 (by omega)]; exact h2, ((h3.off hm _ _).off hm1 _ _).off hm2 _ _⟩

/-- Behind it: a full list of objects of the call's own. -/
def NewFull (os : List Ob) (w : World) (e : Ending) (w' : World) : Prop := ∃ g, e = .returned (.slice (some ⟨g, 0, none⟩) os.length os.length) ∧ OwnObs w' w.heap.size (.slice (some ⟨g, 0, none⟩) os.length os.length) os ∧ Below w.heap.size w w'
set_option maxHeartbeats 2000000 in
theorem copyObjects_any (A : Option Addr) (c : Nat) (os : List Ob) (w : World) (h : Objs w w.heap.size A os) (hn : os.length ≤ 1048576) (hs : ∀ o ∈ os, o.zs.length ≤ 1048576) :
    Calls Try.prog 99 #[.slice A os.length c] w (NewFull os w) := by
  obtain ⟨i0, hi, hz0, hz1, hz2⟩ := info_of info_ob
  go_enter Try.func99, Try.ntmps99
  go_wp2_with (at_make; go_must (refine wpList_make_full _ rfl (.tmp 7) (.tmp 7) 23 rfl w.heap.size 38 i0 (.agg #[.int .i64 0, .slice none 0 0, .string ⟨#[]⟩]) 3 Try.underlying23 hi hz0 hz1 .i64 .i64 os.length os.length os.length rfl rfl rfl rfl (by rw [hz2]; omega) (by unfold maxLen; omega) (Nat.le_refl _) ?_); intro w1 hown hg)
  have hb1 : Below w.heap.size w w1 := (Below.refl _ _).grown hg (Nat.le_refl _) (by simp)
  have f1 : FilledO w1 w.heap.size w.heap.size os 0 := ⟨_, hown, fun j _ hj => absurd hj (by omega)⟩
  clear hown hg
  go_loopw [11] (fun i wr => ∃ k : Nat, k ≤ os.length ∧ i = .int .i64 k ∧ FilledO wr w.heap.size w.heap.size os k ∧ Below w.heap.size w wr) (fun i _ => os.length - (intOf i).toNat)
  case atStart => exact ⟨0, Nat.zero_le _, rfl, f1, hb1⟩
  case round =>
    clear f1 hb1
    obtain ⟨k, hk, rfl, hf, hb⟩ := hrel
    by_cases hlt : k < os.length
    · obtain ⟨ad, A', c', rfl, _, g0, g1, g2, g3⟩ := (h.below hb (Nat.le_refl _)).at_ hlt
      have hz := hb.size
      go_wp2_with fail
      have al := (Below.refl wr.heap.size wr).alloc (Nat.le_refl _) (.cells #[.int .i64 os[k].kd, .slice A' os[k].zs.length c', .string os[k].s] 38)
      refine (copied_any w.heap.size A' c' os[k] _ (g3.alloc hz _) (by simp; omega) (hs _ (List.getElem_mem hlt))).mono ?_
      rintro e w2 ⟨A2, c2, rfl, hl, hb2⟩
      unfold ob
      have z2 : wr.heap.size ≤ (wr.alloc (.cells #[.int .i64 os[k].kd, .slice A' os[k].zs.length c', .string os[k].s] 38)).heap.size := al.size
      have hb3 := al.trans (hb2.mono z2)
      have hf2 := hf.below hb3
      have hb4 := hb.trans (hb3.mono hz)
      have hl2 := hl.base (Nat.le_trans hz z2)
      clear hf hb2 hl g0 g1 g2 g3 al hb3 z2
      obtain ⟨q0, q1, q2, qf⟩ := hf2.cells3 hlt
      have qf0 := qf (k * 3)
      have qf1 := qf (k * 3 + 1)
      have qf2 := qf (k * 3 + 2)
      clear qf
      obtain ⟨y0, q0⟩ := q0
      obtain ⟨y1, q1⟩ := q1
      obtain ⟨y2, q2⟩ := q2
      go_wp2_with fail
      go_roundw
      case rel => exact ⟨k + 1, by omega, by go_num, hf2.step hlt hl2, ((hb4.setCell (Nat.le_refl _) _).setCell (Nat.le_refl _) _).setCell (Nat.le_refl _) _⟩
      case measure => simp [intOf]; omega
    · have hk' : k = os.length := by omega
      subst hk'
      go_wp2
      go_ret
      obtain ⟨xs, hm, hx⟩ := hf
      exact ⟨_, rfl, ⟨xs, hm, fun j hj => hx j hj hj⟩, hb⟩
end Go.Proofs.Ytblknnifccmpkaa
namespace Go.Proofs.Ytblknnifccmpkaa
open Go.RowKit Wo Pu

/-- The cells of a list of objects. -/
def Cells (w : World) (B : Nat) (xs : List Value) (os : List Ob) : Prop :=
  xs.length = os.length * 3 ∧ ∀ j (hj : j < os.length), ∃ (A : Option Addr) (c : Nat), xs[j * 3]? = some (.int .i64 os[j].kd) ∧ xs[j * 3 + 1]? = some (.slice A os[j].zs.length c) ∧ xs[j * 3 + 2]? = some (.string os[j].s) ∧ Row w B A (ints os[j].zs)
theorem add_add (a : Addr) (n d : Nat) : (a.add n).add d = a.add (n + d) := by
  unfold Addr.add
  by_cases hn : n = 0
  · subst hn; simp
  · by_cases hd : d = 0
    · subst hd; simp
    · rw [if_neg hn, if_neg hd, if_neg (by omega)]
      simp; omega
theorem Objs.cells {w : World} {B : Nat} {A : Option Addr} {os : List Ob} (h : Objs w B A os) : ∃ xs, Row w B A xs ∧ Cells w B xs os ∧ ∀ u ∈ xs, u.oneCell' = true := by
  rcases h with rfl | ⟨ad, rfl, ha, hh⟩
  · exact ⟨[], .inl rfl, ⟨rfl, fun j hj => by simp at hj⟩, fun u hu => by simp at hu⟩
  · have three : ∀ i, i < os.length * 3 → ∃ u, w.cell? (ad.add i) = some u ∧ u.oneCell' = true := fun i hi => by
      obtain ⟨A', c, h0, h1, h2, _⟩ := hh (i / 3) (by omega)
      rw [add_add] at h1 h2
      have key : i = i / 3 * 3 ∨ i = i / 3 * 3 + 1 ∨ i = i / 3 * 3 + 2 := by omega
      rcases key with e | e | e
      · rw [← e] at h0; exact ⟨_, h0, rfl⟩
      · rw [← e] at h1; exact ⟨_, h1, rfl⟩
      · rw [← e] at h2; exact ⟨_, h2, rfl⟩
    have get : ∀ (i : Nat), i < os.length * 3 → ((List.range (os.length * 3)).map fun i => (w.cell? (ad.add i)).getD undef)[i]? = w.cell? (ad.add i) := fun i hi => by
      obtain ⟨u, hu, _⟩ := three i hi
      simp [hi, hu]
    refine ⟨(List.range (os.length * 3)).map fun i => (w.cell? (ad.add i)).getD undef, .inr ⟨ad, rfl, ha, fun j u hu => ?_⟩, ⟨by simp, fun j hj => ?_⟩, fun u hu => ?_⟩
    · by_cases hj : j < os.length * 3
      · rw [get j hj] at hu; exact hu
      · rw [List.getElem?_eq_none (by simp; omega)] at hu; cases hu
    · obtain ⟨A', c, h0, h1, h2, h3⟩ := hh j hj
      rw [add_add] at h1 h2
      exact ⟨A', c, (get _ (by omega)).trans h0, (get _ (by omega)).trans h1, (get _ (by omega)).trans h2, h3⟩
    · obtain ⟨i, hi, rfl⟩ := List.mem_map.1 hu
      obtain ⟨u, hu, h1⟩ := three i (by simpa using hi)
      rw [hu]; exact h1
theorem Wo.Row.take_ {w : World} {B : Nat} {A : Option Addr} {vs : List Value} (h : Row w B A vs) (n : Nat) : Row w B A (vs.take n) := by
  rcases h with rfl | ⟨ad, e, ha, hc⟩
  · exact .inl (by simp)
  · refine .inr ⟨ad, e, ha, fun j u hu => hc j u ?_⟩
    by_cases hj : j < n
    · rw [List.getElem?_take_of_lt hj] at hu; exact hu
    · rw [List.getElem?_eq_none (by simp; omega)] at hu; cases hu
theorem Wo.Row.drop_ {w : World} {B : Nat} {ad : Addr} {vs : List Value} (h : Row w B (some ad) vs) (n : Nat) : Row w B (some (ad.add n)) (vs.drop n) := by
  rcases h with rfl | ⟨ad', e, ha, hc⟩
  · exact .inl (by simp)
  · injection e with e
    subst e
    refine .inr ⟨_, rfl, by rw [add_block]; exact ha, fun j u hu => ?_⟩
    rw [List.getElem?_drop] at hu
    rw [add_add]
    exact hc _ u hu
theorem Cells.below {w w' : World} {B C : Nat} {xs : List Value} {os : List Ob} (h : Cells w B xs os) (hb : Below C w w') (hC : B ≤ C) : Cells w' B xs os :=
  ⟨h.1, fun j hj => by obtain ⟨A, c, h0, h1, h2, h3⟩ := h.2 j hj; exact ⟨A, c, h0, h1, h2, h3.below hb hC⟩⟩
theorem Cells.more {w : World} {B C : Nat} {xs : List Value} {os : List Ob} (h : Cells w B xs os) (hC : B ≤ C) : Cells w C xs os :=
  ⟨h.1, fun j hj => by obtain ⟨A, c, h0, h1, h2, h3⟩ := h.2 j hj; exact ⟨A, c, h0, h1, h2, h3.more hC⟩⟩
theorem Cells.one {w : World} {B : Nat} {o : Ob} {A : Option Addr} {c : Nat} (h : Row w B A (ints o.zs)) : Cells w B [.int .i64 o.kd, .slice A o.zs.length c, .string o.s] [o] := by
  refine ⟨rfl, fun j hj => ?_⟩
  obtain rfl : j = 0 := by simpa using hj
  exact ⟨A, c, rfl, rfl, rfl, h⟩
theorem Cells.take_ {w : World} {B : Nat} {xs : List Value} {os : List Ob} (h : Cells w B xs os) (n : Nat) : Cells w B (xs.take (n * 3)) (os.take n) := by
  refine ⟨by rw [List.length_take, List.length_take, h.1]; omega, fun j hj => ?_⟩
  have hj' : j < n ∧ j < os.length := by simpa [List.length_take, Nat.lt_min] using hj
  obtain ⟨A, c, h0, h1, h2, h3⟩ := h.2 j hj'.2
  refine ⟨A, c, ?_, ?_, ?_, ?_⟩
  · rw [List.getElem?_take_of_lt (by omega), List.getElem_take]; exact h0
  · rw [List.getElem?_take_of_lt (by omega), List.getElem_take]; exact h1
  · rw [List.getElem?_take_of_lt (by omega), List.getElem_take]; exact h2
  · rw [List.getElem_take]; exact h3
theorem Cells.drop_ {w : World} {B : Nat} {xs : List Value} {os : List Ob} (h : Cells w B xs os) (n : Nat) : Cells w B (xs.drop (n * 3)) (os.drop n) := by
  refine ⟨by rw [List.length_drop, List.length_drop, h.1]; omega, fun j hj => ?_⟩
  have hj' : n + j < os.length := by rw [List.length_drop] at hj; omega
  obtain ⟨A, c, h0, h1, h2, h3⟩ := h.2 (n + j) hj'
  refine ⟨A, c, ?_, ?_, ?_, ?_⟩
  · rw [List.getElem?_drop, List.getElem_drop, show n * 3 + j * 3 = (n + j) * 3 from by omega]; exact h0
  · rw [List.getElem?_drop, List.getElem_drop, show n * 3 + (j * 3 + 1) = (n + j) * 3 + 1 from by omega]; exact h1
  · rw [List.getElem?_drop, List.getElem_drop, show n * 3 + (j * 3 + 2) = (n + j) * 3 + 2 from by omega]; exact h2
  · rw [List.getElem_drop]; exact h3
theorem Cells.app {w : World} {B : Nat} {xs ys : List Value} {os ps : List Ob} (h : Cells w B xs os) (k : Cells w B ys ps) : Cells w B (xs ++ ys) (os ++ ps) := by
  refine ⟨by rw [List.length_append, List.length_append, h.1, k.1]; omega, fun j hj => ?_⟩
  by_cases e : j < os.length
  · obtain ⟨A, c, h0, h1, h2, h3⟩ := h.2 j e
    have := h.1
    rw [List.getElem_append_left e]
    exact ⟨A, c, by rw [List.getElem?_append_left (by omega)]; exact h0, by rw [List.getElem?_append_left (by omega)]; exact h1, by rw [List.getElem?_append_left (by omega)]; exact h2, h3⟩
  · have hl := h.1
    obtain ⟨A, c, h0, h1, h2, h3⟩ := k.2 (j - os.length) (by rw [List.length_append] at hj; omega)
    rw [List.getElem_append_right (by omega)]
    refine ⟨A, c, ?_, ?_, ?_, h3⟩
    · rw [List.getElem?_append_right (by omega), hl, show j * 3 - os.length * 3 = (j - os.length) * 3 from by omega]; exact h0
    · rw [List.getElem?_append_right (by omega), hl, show j * 3 + 1 - os.length * 3 = (j - os.length) * 3 + 1 from by omega]; exact h1
    · rw [List.getElem?_append_right (by omega), hl, show j * 3 + 2 - os.length * 3 = (j - os.length) * 3 + 2 from by omega]; exact h2
/-- A row of the call's own with such cells is such a list. -/
theorem Cells.objs {w : World} {B C n : Nat} {v : Value} {xs : List Value} {os : List Ob} (h : Cells w C xs os) (hC : C ≤ w.heap.size) (hr : w.ownsRow B 38 3 v n xs) (hn : n = os.length) : ∃ (A : Option Addr) (c : Nat), v = .slice A os.length c ∧ Objs w w.heap.size A os := by
  subst hn
  rcases hr.2 with ⟨rfl, h0⟩ | ⟨g, cap, cur, rfl, _⟩
  · exact ⟨none, 0, by rw [h0], .inl (List.eq_nil_of_length_eq_zero h0)⟩
  · refine ⟨some ⟨g, 0, none⟩, cap, rfl, .inr ⟨_, rfl, (World.ownsRow.lt hr g rfl).2, fun i hi => ?_⟩⟩
    obtain ⟨A, c, q0, q1, q2, q3⟩ := h.2 i hi
    have hc := World.ownsRow.cells hr (g := g) rfl
    exact ⟨A, c, hc _ _ q0, by rw [add_add]; exact hc _ _ q1, by rw [add_add]; exact hc _ _ q2, q3.more hC⟩
theorem Blk.row3 {w : World} {g : Nat} {t : TypeId} {v0 v1 v2 : Value} (h : Blk w g t v0 v1 v2) : Row w w.heap.size (some ⟨g, 0, none⟩) [v0, v1, v2] := by
  obtain ⟨h0, h1, h2, _⟩ := h.reads
  refine .inr ⟨_, rfl, h.lt, fun j u hu => ?_⟩
  rw [add_lit]
  match j with
  | 0 => simp at hu; subst hu; exact h0
  | 1 => simp at hu; subst hu; exact h1
  | 2 => simp at hu; subst hu; exact h2
  | j + 3 => simp at hu
end Go.Proofs.Ytblknnifccmpkaa
namespace Go.Proofs.Ytblknnifccmpkaa
open Go.RowKit Wo Pu

/-- Two slices do not lie in one block. -/
def Ap2 (v u : Value) : Prop := ∀ g, v.ownBlock = some g → u.ownBlock ≠ some g
theorem Ap2.symm {v u : Value} (h : Ap2 v u) : Ap2 u v := fun g h1 h2 => h g h2 h1
/-- The links of the first n objects lie apart. -/
def Apt (xs : List Value) (n : Nat) : Prop := ∀ i j v u, i < n → j < n → i ≠ j → xs[i * 3 + 1]? = some v → xs[j * 3 + 1]? = some u → Ap2 v u
/-- The links of the first n objects lie below block N. -/
def Bel (xs : List Value) (n N : Nat) : Prop := ∀ i v g, i < n → xs[i * 3 + 1]? = some v → v.ownBlock = some g → g < N
/-- The slice v, of the call's own, holds the objects os; their links lie apart. -/
def OwnObsF (w : World) (B : Nat) (v : Value) (os : List Ob) : Prop :=
  ∃ xs, w.ownsRow B 38 3 v os.length xs ∧ (∀ j (hj : j < os.length), ObIs w B xs j os[j]) ∧ Apt xs os.length
/-- The same; the links lie below block N. -/
def OwnObsN (w : World) (B N : Nat) (v : Value) (os : List Ob) : Prop :=
  ∃ xs, w.ownsRow B 38 3 v os.length xs ∧ (∀ j (hj : j < os.length), ObIs w B xs j os[j]) ∧ Apt xs os.length ∧ Bel xs os.length N
theorem OwnObsN.toF {w : World} {B N : Nat} {v : Value} {os : List Ob} (h : OwnObsN w B N v os) : OwnObsF w B v os := by
  obtain ⟨xs, h1, h2, h3, _⟩ := h
  exact ⟨xs, h1, h2, h3⟩
theorem OwnObsF.own {w : World} {B : Nat} {v : Value} {os : List Ob} (h : OwnObsF w B v os) : OwnObs w B v os := by
  obtain ⟨xs, h1, h2, _⟩ := h
  exact ⟨xs, h1, h2⟩
theorem OwnObsF.below {w w' : World} {B : Nat} {v : Value} {os : List Ob} (h : OwnObsF w B v os) (hb : Below w.heap.size w w') : OwnObsF w' B v os := by
  obtain ⟨xs, h1, h2, h3⟩ := h
  refine ⟨xs, own_below h1 hb (Nat.le_refl _), fun j hj => ?_, h3⟩
  obtain ⟨A, c, q0, q1, q2, q3⟩ := h2 j hj
  exact ⟨A, c, q0, q1, q2, q3.below hb (Nat.le_refl _)⟩
theorem OwnObsN.below {w w' : World} {B N : Nat} {v : Value} {os : List Ob} (h : OwnObsN w B N v os) (hb : Below w.heap.size w w') : OwnObsN w' B N v os := by
  obtain ⟨xs, h1, h2, h3, h4⟩ := h
  refine ⟨xs, own_below h1 hb (Nat.le_refl _), fun j hj => ?_, h3, h4⟩
  obtain ⟨A, c, q0, q1, q2, q3⟩ := h2 j hj
  exact ⟨A, c, q0, q1, q2, q3.below hb (Nat.le_refl _)⟩
theorem row_base {w : World} {B B' n sz : Nat} {e : TypeId} {v : Value} {xs : List Value} (h : w.ownsRow B e sz v n xs) (hB : B' ≤ B) : w.ownsRow B' e sz v n xs := by
  obtain ⟨h1, h2⟩ := h
  refine ⟨h1, ?_⟩
  rcases h2 with h2 | ⟨g', cap, cur, hv, hb, hr⟩
  · exact .inl h2
  · exact .inr ⟨g', cap, cur, hv, by omega, hr⟩
theorem OwnObsF.base {w : World} {B B' : Nat} {v : Value} {os : List Ob} (h : OwnObsF w B v os) (hB : B' ≤ B) : OwnObsF w B' v os := by
  obtain ⟨xs, h1, h2, h3⟩ := h
  refine ⟨xs, row_base h1 hB, fun j hj => ?_, h3⟩
  obtain ⟨A, c, q0, q1, q2, q3⟩ := h2 j hj
  exact ⟨A, c, q0, q1, q2, q3.base hB⟩
theorem OwnObsF.nil_new {w : World} {B : Nat} (hB : B ≤ w.heap.size) : OwnObsF (w.alloc (.cells #[] 38)) B (.slice (some ⟨w.heap.size, 0, none⟩) 0 0) [] :=
  ⟨[], nil_own hB _ _, (fun j hj => by simp at hj), fun i _ _ _ hi => absurd hi (by simp)⟩
theorem Own.bel {w : World} {B : Nat} {v : Value} {zs : List Int} (h : Own w B v zs) : ∀ g, v.ownBlock = some g → B ≤ g ∧ g < w.heap.size := World.ownsRow.lt h
/-- One object laid in between. -/
theorem laid_link {ys : List Value} {n r j : Nat} {a V b : Value} (hl : ys.length = n * 3) (hr : r ≤ n) : (ys.take (r * 3) ++ [a, V, b] ++ ys.drop (r * 3))[j * 3 + 1]? = if j < r then ys[j * 3 + 1]? else if j = r then some V else ys[(j - 1) * 3 + 1]? := by
  have hyl : (ys.take (r * 3)).length = r * 3 := by rw [List.length_take]; omega
  by_cases e : j < r
  · rw [if_pos e, List.append_assoc, List.getElem?_append_left (by omega), List.getElem?_take, if_pos (by omega)]
  · rw [if_neg e]
    by_cases e2 : j = r
    · subst e2
      rw [if_pos rfl, List.append_assoc, List.getElem?_append_right (by omega), hyl, show j * 3 + 1 - j * 3 = 1 from by omega]
      rfl
    · rw [if_neg e2, List.getElem?_append_right (by simp only [List.length_append, hyl, List.length_cons, List.length_nil]; omega), List.getElem?_drop]
      congr 1
      simp only [List.length_append, hyl, List.length_cons, List.length_nil]
      omega
theorem Apt.laid {ys : List Value} {n N r : Nat} {a V b : Value} (h : Apt ys n) (hb : Bel ys n N) (hl : ys.length = n * 3) (hr : r ≤ n) (hV : ∀ g, V.ownBlock = some g → N ≤ g) : Apt (ys.take (r * 3) ++ [a, V, b] ++ ys.drop (r * 3)) (n + 1) := by
  intro i j v u hi hj hij hv hu
  rw [laid_link hl hr] at hv hu
  have new : ∀ k x, k < n → ys[k * 3 + 1]? = some x → Ap2 x V := fun k x hk hx g h1 h2 => by
    have := hb k x g hk hx h1
    have := hV g h2
    omega
  by_cases i1 : i < r
  · rw [if_pos i1] at hv
    by_cases j1 : j < r
    · rw [if_pos j1] at hu
      exact h i j v u (by omega) (by omega) hij hv hu
    · rw [if_neg j1] at hu
      by_cases j2 : j = r
      · rw [if_pos j2] at hu
        injection hu with hu
        subst hu
        exact new i v (by omega) hv
      · rw [if_neg j2] at hu
        exact h i (j - 1) v u (by omega) (by omega) (by omega) hv hu
  · rw [if_neg i1] at hv
    by_cases i2 : i = r
    · rw [if_pos i2] at hv
      injection hv with hv
      subst hv
      by_cases j1 : j < r
      · rw [if_pos j1] at hu
        exact (new j u (by omega) hu).symm
      · rw [if_neg j1, if_neg (by omega)] at hu
        exact (new (j - 1) u (by omega) hu).symm
    · rw [if_neg i2] at hv
      by_cases j1 : j < r
      · rw [if_pos j1] at hu
        exact h (i - 1) j v u (by omega) (by omega) (by omega) hv hu
      · rw [if_neg j1] at hu
        by_cases j2 : j = r
        · rw [if_pos j2] at hu
          injection hu with hu
          subst hu
          exact new (i - 1) v (by omega) hv
        · rw [if_neg j2] at hu
          exact h (i - 1) (j - 1) v u (by omega) (by omega) (by omega) hv hu
end Go.Proofs.Ytblknnifccmpkaa
namespace Go.Proofs.Ytblknnifccmpkaa
open Go.RowKit Wo Pu

/-- The numbers k, k+1, .., n of them. -/
def marks (k : Int) (n : Nat) : List Int := (List.range n).map (fun i => k + (i : Nat))
theorem marks_length (k : Int) (n : Nat) : (marks k n).length = n := by simp [marks]
theorem marks_get (k : Int) (n i : Nat) (h : i < (marks k n).length) : (marks k n)[i] = k + (i : Nat) := by simp [marks]

/-- Only cells of block g have been written. -/
def Wrote (g : Nat) (w w' : World) : Prop := w.grownBy w' (some g) ∧ w'.heap.size = w.heap.size ∧ ∀ (B : Nat) (e : TypeId) (sz n c : Nat) (xs : List Value), w.ownsRow B e sz (.slice (some ⟨g, 0, none⟩) n c) n xs → ∃ xs', w'.ownsRow B e sz (.slice (some ⟨g, 0, none⟩) n c) n xs'
theorem Wrote.refl (g : Nat) (w : World) : Wrote g w w := ⟨World.grownBy.refl w _, rfl, fun _ _ _ _ _ xs h => ⟨xs, h⟩⟩
theorem Wrote.set_ {g : Nat} {w w' : World} (h : Wrote g w w') (j : Nat) (u : Value) : Wrote g w (w'.setCell ⟨g, j, none⟩ u) := by
  obtain ⟨h1, h2, h3⟩ := h
  refine ⟨⟨h1.os, h1.tape, h1.output, by simpa using h1.size, fun i hi hne => ?_⟩, by simpa using h2, fun B e sz n c xs ho => ?_⟩
  · rw [Below.heap_setCell _ _ _ _ (fun e => hne (by rw [e]))]
    exact h1.block i hi hne
  · obtain ⟨xs', ho'⟩ := h3 B e sz n c xs ho
    exact ⟨_, (World.ownsRow.stored ho' j u).1⟩
theorem Wrote.own {g : Nat} {w w' : World} (h : Wrote g w w') {B : Nat} {e : TypeId} {sz n c : Nat} {g' : Nat} {xs : List Value} (ho : w.ownsRow B e sz (.slice (some ⟨g', 0, none⟩) n c) n xs) : ∃ xs', w'.ownsRow B e sz (.slice (some ⟨g', 0, none⟩) n c) n xs' := by
  by_cases hg : g' = g
  · subst hg
    exact h.2.2 _ _ _ _ _ _ ho
  · exact ⟨xs, World.ownsRow.kept ho h.1 (.inr (fun e => hg (by injection e)))⟩
theorem take_marks {xs : List Value} {k : Int} {n i : Nat} (h : xs.take i = (ints (marks k n)).take i) (hi : i < n) (hx : xs.length = n) : (xs.set i (.int .i64 (k + i))).take (i + 1) = (ints (marks k n)).take (i + 1) := by
  have hl : (ints (marks k n)).length = n := by rw [ints_length, marks_length]
  have := take_set (xs := xs) (ys := ints (marks k n)) h (by omega) (by omega)
  rw [ints_get _ _ (by rw [marks_length]; exact hi), marks_get] at this
  exact this

set_option maxHeartbeats 1000000 in
theorem markIntS_own (B g n c : Nat) (k : Int) (xs : List Value) (w : World) (ho : w.ownsRow B 3 1 (.slice (some ⟨g, 0, none⟩) n c) n xs) (hn : n ≤ 1048576) (h0 : 0 ≤ k) (h1 : k ≤ 4503599627370496) :
    Calls Try.prog 54 #[.slice (some ⟨g, 0, none⟩) n c, .int .i64 k] w (fun e w' => e = .returned (.int .i64 (k + n)) ∧ Wrote g w w' ∧ w'.ownsRow B 3 1 (.slice (some ⟨g, 0, none⟩) n c) n (ints (marks k n))) := by
  go_enter Try.func54, Try.ntmps54
  go_wp2_with fail
  have hx0 : Hid (∃ ys : List Value, w.ownsRow B 3 1 (.slice (some ⟨g, 0, none⟩) n c) n ys ∧ ys.take 0 = (ints (marks k n)).take 0) := ⟨xs, ho, by simp⟩
  clear ho
  go_loopw [1, 5] (fun q i wr => ∃ m : Nat, m ≤ n ∧ i = .int .i64 m ∧ q = .int .i64 (k + m) ∧ Wrote g w wr ∧ Hid (∃ ys : List Value, wr.ownsRow B 3 1 (.slice (some ⟨g, 0, none⟩) n c) n ys ∧ ys.take m = (ints (marks k n)).take m)) (fun _ i _ => n - (intOf i).toNat)
  case atStart => exact ⟨0, Nat.zero_le _, rfl, by simp, Wrote.refl _ _, hx0⟩
  case round =>
    obtain ⟨m, hm, rfl, rfl, hw, HX⟩ := hrel
    clear hx0
    obtain ⟨ys, hy, ht⟩ := HX.out
    clear HX
    have hyl : ys.length = n := by have := hy.1; omega
    by_cases hlt : m < n
    · have hv0 : ∃ v0, wr.cell? ⟨g, m, none⟩ = some v0 := ⟨_, (World.ownsRow.cellAt hy m (by omega)).trans (List.getElem?_eq_getElem (by omega))⟩
      obtain ⟨v0, hv0⟩ := hv0
      have hf0 := World.ownsRow.frozenAt hy m
      have hy2 := (World.ownsRow.stored hy m (.int .i64 (k + m))).1
      have ht2 := hid (take_marks ht hlt hyl)
      have hw2 := hw.set_ m (.int .i64 (k + m))
      clear ht hy hw
      go_wp2
      go_roundw
      case rel => exact ⟨m + 1, by omega, by go_num, by congr 1; omega, hw2, _, hy2, ht2.out⟩
      case measure => simp [intOf]; omega
    · have hm' : m = n := by omega
      subst hm'
      have e : ys = ints (marks k m) := by
        rw [List.take_of_length_le (by omega), List.take_of_length_le (by rw [ints_length, marks_length]; omega)] at ht
        exact ht
      subst e
      clear ht
      go_wp2
      go_ret
      exact ⟨rfl, hw, hy⟩

set_option maxHeartbeats 1000000 in
theorem heldIntS_yes (B : Nat) (A : Option Addr) (c n : Nat) (k : Int) (w : World) (hr : Row w B A (ints (marks k n))) (hn : n ≤ 1048576) (h0 : 0 ≤ k) (h1 : k ≤ 4503599627370496) :
    Calls Try.prog 55 #[.slice A n c, .int .i64 k] w (Same (.int .i64 (k + n)) w) := by
  go_enter Try.func55, Try.ntmps55
  go_wp2_with fail
  go_loop [1, 5] (fun q i => ∃ m : Nat, m ≤ n ∧ i = .int .i64 m ∧ q = .int .i64 (k + m)) (fun _ i => n - (intOf i).toNat)
  case atStart => exact ⟨0, Nat.zero_le _, rfl, by simp⟩
  case round =>
    obtain ⟨m, hm, rfl, rfl⟩ := hrel
    by_cases hlt : m < n
    · obtain ⟨ad, rfl, hb, hc⟩ := hr.int_ (k := m) (by rw [marks_length]; exact hlt)
      rw [marks_get] at hc
      go_wp2
      go_round
      case rel => exact ⟨m + 1, by omega, by go_num, by congr 1; omega⟩
      case measure => simp [intOf]; omega
    · have hm' : m = n := by omega
      subst hm'
      go_wp2
      go_ret
      exact ⟨rfl, rfl⟩

set_option maxHeartbeats 1000000 in
theorem markText_any (k : Int) (w : World) (h0 : 1 ≤ k) (h1 : k ≤ 4503599627370496) :
    Calls Try.prog 92 #[.int .i64 k] w (fun e w' => ∃ s : ByteArray, e = .returned (.string s) ∧ Below w.heap.size w w') := by
  go_enter Try.func92, Try.ntmps92
  go_wp2_with fail
  go_loopw [0, 3] (fun n t wr => ∃ (m : Nat) (s : ByteArray), n = .int .i64 m ∧ t = .string s ∧ (s.size : Int) + m ≤ k ∧ Below w.heap.size w wr) (fun n _ _ => (intOf n).toNat)
  case atStart => exact ⟨k.toNat, ⟨#[]⟩, by rw [Int.toNat_of_nonneg (by omega)], rfl, by rw [Int.toNat_of_nonneg (by omega)]; show ((0 : Nat) : Int) + k ≤ k; omega, Below.refl _ _⟩
  case round =>
    obtain ⟨m, s, rfl, rfl, hs, hb⟩ := hrel
    by_cases hlt : 0 < m
    · obtain ⟨b, hcv⟩ := conv_one wr (48 + (m : Int) % 10) (by omega) (by omega)
      go_wp2_with fail
      go_roundw
      case rel =>
        refine ⟨m / 10, _, by congr 1, rfl, ?_, hb.alloc hb.size _⟩
        rw [ByteArray.size_append]
        show (((1 : Nat) + s.size : Nat) : Int) + _ ≤ k
        omega
      case measure => simp [intOf]; omega
    · have hm : m = 0 := by omega
      subst hm
      go_wp2
      go_ret
      exact ⟨_, rfl, hb⟩
end Go.Proofs.Ytblknnifccmpkaa
namespace Go.Proofs.Ytblknnifccmpkaa
open Go.RowKit Wo Pu

/-- Behind it: marked. -/
def Marked (B : Nat) (A : Option Addr) (c n : Nat) (k : Int) (w : World) (e : Ending) (w' : World) : Prop :=
  e = .returned (.int .i64 (k + n)) ∧ Own w' B (.slice A n c) (marks k n) ∧ w.grownBy w' (Value.slice A n c).ownBlock

set_option maxHeartbeats 1000000 in
theorem markInts_any (B : Nat) (A : Option Addr) (c : Nat) (zs : List Int) (k : Int) (w : World) (ho : Own w B (.slice A zs.length c) zs) (hn : zs.length ≤ 1048576) (h0 : 0 ≤ k) (h1 : k ≤ 4503599627370496) :
    Calls Try.prog 54 #[.slice A zs.length c, .int .i64 k] w (Marked B A c zs.length k w) := by
  have ho' := ho
  rcases ho.2 with ⟨hv, hz⟩ | ⟨g, cap, cur, hv, _⟩
  · injection hv with hA hl hc
    subst hA hc
    have hzs : zs = [] := List.length_eq_zero_iff.1 hl
    subst hzs
    go_enter Try.func54, Try.ntmps54
    go_wp2_with fail
    go_loopw [1, 5] (fun q i wr => i = .int .i64 0 ∧ q = .int .i64 k ∧ wr = w) (fun _ _ _ => 0)
    case atStart => exact ⟨rfl, rfl, rfl⟩
    case round =>
      obtain ⟨rfl, rfl, rfl⟩ := hrel
      go_wp2
      go_ret
      exact ⟨by simp, ho', World.grownBy.refl _ _⟩
  · injection hv with hA _ hc
    subst hA hc
    refine (markIntS_own B g zs.length _ k _ w ho hn h0 h1).mono ?_
    rintro e w' ⟨rfl, h2, h3⟩
    refine ⟨rfl, ?_, h2.1⟩
    show w'.ownsRow B 3 1 _ (marks k zs.length).length _
    rw [marks_length]
    exact h3

/-- A list of objects of the call's own, all of whose memory lies from B up to C. -/
def Lists (w : World) (B C g : Nat) (os : List Ob) : Prop :=
  ∃ xs, Mine w B 38 3 g os.length xs ∧ g < C ∧ ∀ j (hj : j < os.length), ∃ gj ys, xs[j * 3 + 1]? = some (.slice (some ⟨gj, 0, none⟩) os[j].zs.length os[j].zs.length) ∧ Mine w B 3 1 gj os[j].zs.length ys ∧ gj < C
theorem Filled.lists {w : World} {B g : Nat} {os : List Ob} (h : Filled w B g os os.length) : Lists w B w.heap.size g os := by
  obtain ⟨xs, h1, h2⟩ := h
  refine ⟨xs, h1, h1.lt.2, fun j hj => ?_⟩
  obtain ⟨g', _, q1, _, q3⟩ := h2 j hj hj
  exact ⟨g', _, q1, q3, q3.lt.2⟩
theorem Lists.below {w w' : World} {B C D g : Nat} {os : List Ob} (h : Lists w B C g os) (hb : Below D w w') (hD : C ≤ D) : Lists w' B C g os := by
  obtain ⟨xs, h1, h2, h3⟩ := h
  refine ⟨xs, h1.below hb (by omega), h2, fun j hj => ?_⟩
  obtain ⟨gj, ys, q1, q2, q3⟩ := h3 j hj
  exact ⟨gj, ys, q1, q2.below hb (by omega), q3⟩
theorem Lists.set_ {w : World} {B C g : Nat} {os : List Ob} (h : Lists w B C g os) (k d : Nat) (hd : d = 0 ∨ d = 2) (u : Value) : Lists (w.setCell ⟨g, k * 3 + d, none⟩ u) B C g os := by
  obtain ⟨xs, h1, h2, h3⟩ := h
  refine ⟨_, h1.set_ (k * 3 + d) u, h2, fun j hj => ?_⟩
  obtain ⟨gj, ys, q1, q2, q3⟩ := h3 j hj
  refine ⟨gj, ys, ?_, q2.far (q2.type_ne h1 (by decide)) _, q3⟩
  rw [List.getElem?_set_ne (by omega)]
  exact q1
theorem Lists.wrote {w w' : World} {B C g gj n : Nat} {os : List Ob} {ys : List Value} (h : Lists w B C g os) (hm : Mine w B 3 1 gj n ys) (hw : Wrote gj w w') : Lists w' B C g os := by
  obtain ⟨xs, h1, h2, h3⟩ := h
  have hne := hm.type_ne h1 (by decide)
  refine ⟨xs, World.ownsRow.kept h1 hw.1 (.inr (fun e => hne (by injection e with e; exact e.symm))), h2, fun j hj => ?_⟩
  obtain ⟨gj', ys', q1, q2, q3⟩ := h3 j hj
  obtain ⟨ys2, q4⟩ := hw.own q2
  exact ⟨gj', ys2, q1, q4, q3⟩
theorem Lists.cells3 {w : World} {B C g k : Nat} {os : List Ob} (h : Lists w B C g os) (hk : k < os.length) :
    ∃ v0 v2 gj ys, w.cell? ⟨g, k * 3, none⟩ = some v0 ∧ w.cell? ⟨g, k * 3 + 1, none⟩ = some (.slice (some ⟨gj, 0, none⟩) os[k].zs.length os[k].zs.length) ∧ w.cell? ⟨g, k * 3 + 2, none⟩ = some v2 ∧
      Mine w B 3 1 gj os[k].zs.length ys ∧ gj < C ∧ B ≤ g ∧ g < C ∧ ∀ o, w.frozen? ⟨g, o, none⟩ = false := by
  obtain ⟨xs, h1, h2, h3⟩ := h
  obtain ⟨gj, ys, q1, q2, q3⟩ := h3 k hk
  have hlen := h1.len
  have rd : ∀ j, j < os.length * 3 → w.cell? ⟨g, j, none⟩ = xs[j]? := fun j hj => World.ownsRow.cellAt h1 j hj
  exact ⟨xs[k * 3]'(by omega), xs[k * 3 + 2]'(by omega), gj, ys, (rd _ (by omega)).trans (List.getElem?_eq_getElem (by omega)), (rd _ (by omega)).trans q1, (rd _ (by omega)).trans (List.getElem?_eq_getElem (by omega)), q2, q3, h1.lt.1, h2, fun o => World.ownsRow.frozenAt h1 o⟩

/-- What lies below B or from C on is as it was. -/
def Apart (B C : Nat) (w w' : World) : Prop := Below B w w' ∧ ∀ i, C ≤ i → i < w.heap.size → w'.heap[i]? = w.heap[i]?
theorem Apart.refl (B C : Nat) (w : World) : Apart B C w w := ⟨Below.refl _ _, fun _ _ _ => rfl⟩
theorem Apart.below {B C : Nat} {w w1 w2 : World} (h : Apart B C w w1) (hb : Below w1.heap.size w1 w2) (hB : B ≤ w1.heap.size) : Apart B C w w2 := by
  refine ⟨h.1.trans (hb.mono hB), fun i hi hl => ?_⟩
  have := h.1.size
  rw [hb.block i (by omega)]
  exact h.2 i hi hl
theorem Apart.set_ {B C g : Nat} {w w1 : World} (h : Apart B C w w1) (hB : B ≤ g) (hC : g < C) (j : Nat) (u : Value) : Apart B C w (w1.setCell ⟨g, j, none⟩ u) := by
  refine ⟨h.1.setCell (p := ⟨g, j, none⟩) hB u, fun i hi hl => ?_⟩
  rw [Below.heap_setCell _ _ _ _ (by show i ≠ g; omega)]
  exact h.2 i hi hl
theorem Apart.wrote {B C g : Nat} {w w1 w2 : World} (h : Apart B C w w1) (hw : Wrote g w1 w2) (hB : B ≤ g) (hC : g < C) (hz : B ≤ w1.heap.size) : Apart B C w w2 := by
  refine ⟨h.1.grown hw.1 (by omega) (fun k hk => by injection hk with hk; omega), fun i hi hl => ?_⟩
  have := h.1.size
  rw [hw.1.block i (by omega) (fun e => by injection e with e; omega)]
  exact h.2 i hi hl

set_option maxHeartbeats 2000000 in
theorem markObjectS_any (B C g : Nat) (os : List Ob) (w : World) (h : Lists w B C g os) (hC : C ≤ w.heap.size) (hB : B ≤ C) (hn : os.length ≤ 1048576) (hs : ∀ o ∈ os, o.zs.length ≤ 1048576) :
    Calls Try.prog 50 #[.slice (some ⟨g, 0, none⟩) os.length os.length, .int .i64 1] w (fun e w' => ∃ k : Int, e = .returned (.int .i64 k) ∧ (0 ≤ k ∧ k ≤ 4503599627370496) ∧ Apart B C w w') := by
  go_enter Try.func50, Try.ntmps50
  go_wp2_with fail
  go_loopw [1, 5] (fun q i wr => ∃ (m : Nat) (k : Int), m ≤ os.length ∧ i = .int .i64 m ∧ q = .int .i64 k ∧ 1 ≤ k ∧ k ≤ 1 + (m : Int) * 1048578 ∧ Lists wr B C g os ∧ Apart B C w wr) (fun _ i _ => os.length - (intOf i).toNat)
  case atStart => exact ⟨0, 1, Nat.zero_le _, rfl, rfl, by omega, by omega, h, Apart.refl _ _ _⟩
  case round =>
    obtain ⟨m, k, hm, rfl, rfl, k0, k1, hl, ha⟩ := hrel
    clear h
    by_cases hlt : m < os.length
    · have hsm := hs _ (List.getElem_mem hlt)
      have hz := ha.1.size
      obtain ⟨v0, v2, gj, ys, c0, c1, c2, hm1, hgj, hgB, hgC, hf⟩ := hl.cells3 hlt
      have f0 := hf (m * 3)
      have f2 := hf (m * 3 + 2)
      have l2 : Lists (wr.setCell ⟨g, m * 3, none⟩ (.int .i64 k)) B C g os := hl.set_ m 0 (.inl rfl) (.int .i64 k)
      have a2 := ha.set_ hgB hgC (m * 3) (.int .i64 k)
      have m2 := hm1.far (p := ⟨g, m * 3, none⟩) (by obtain ⟨xs, hx, _⟩ := hl; exact hm1.type_ne hx (by decide)) (.int .i64 k)
      have z2 : C ≤ (wr.setCell ⟨g, m * 3, none⟩ (.int .i64 k)).heap.size := by simp; omega
      clear hl ha hm1 hf
      generalize hnn : os[m].zs.length = n at *
      clear hnn
      have K1 : k ≤ 4503599627370000 := by omega
      go_wp2_with fail
      refine (markIntS_own B gj n n (k + 1) ys _ m2 hsm (by omega) (by omega)).mono ?_
      rintro e w2 ⟨rfl, hw, _⟩
      have l3 := l2.wrote m2 hw
      have a3 := a2.wrote hw m2.lt.1 hgj (by omega)
      have z3 : C ≤ w2.heap.size := by rw [hw.2.1]; exact z2
      clear l2 a2 m2 hw z2 c0 c1 c2 f0 f2
      go_wp2_with fail
      refine (markText_any (k + 1 + n) _ (by omega) (by omega)).mono ?_
      rintro e w3 ⟨s, rfl, hb3⟩
      have l4 := l3.below hb3 z3
      have a4 := a3.below hb3 (by omega)
      have z4 := hb3.size
      clear l3 a3 hb3
      obtain ⟨v0', v2', gj', ys', c0, c1, c2, _, _, _, _, hf⟩ := l4.cells3 hlt
      have f2 := hf (m * 3 + 2)
      have l5 := l4.set_ m 2 (.inr rfl) (.string s)
      have a5 := a4.set_ hgB hgC (m * 3 + 2) (.string s)
      clear l4 a4 hf
      go_wp2_with fail
      go_roundw
      case rel => exact ⟨m + 1, k + 1 + n + 1, by omega, by go_num, rfl, by omega, by omega, l5, a5⟩
      case measure => simp [intOf]; omega
    · have hm' : m = os.length := by omega
      subst hm'
      go_wp2
      go_ret
      exact ⟨k, rfl, ⟨by omega, by omega⟩, ha⟩
end Go.Proofs.Ytblknnifccmpkaa
namespace Go.Proofs.Ytblknnifccmpkaa
open Go.RowKit Wo Pu

def dig (m : Nat) : UInt8 := UInt8.ofNat (48 + m % 10)
/-- The digits of m ahead of s. -/
def mtx : Nat → Nat → ByteArray → ByteArray
  | 0, _, s => s
  | f + 1, m, s => if m = 0 then s else mtx f (m / 10) (⟨#[dig m]⟩ ++ s)
theorem mtx_zero (f : Nat) (s : ByteArray) : mtx f 0 s = s := by
  cases f with
  | zero => rfl
  | succ f => rw [mtx, if_pos rfl]
theorem mtx_succ {f m : Nat} (s : ByteArray) (h : ¬ m = 0) : mtx (f + 1) m s = mtx f (m / 10) (⟨#[dig m]⟩ ++ s) := by rw [mtx, if_neg h]
def mtext (k : Nat) : ByteArray := (⟨#[109]⟩ : ByteArray) ++ mtx k k ⟨#[]⟩
theorem conv_dig (w : World) (m : Nat) : (convert 22 9 (.slice (some ⟨w.heap.size, 0, none⟩) 1 1)).run Try.prog (w.alloc (.cells #[.int .u8 (48 + (m : Int) % 10)] 5)) = .ok (.string ⟨#[dig m]⟩) (w.alloc (.cells #[.int .u8 (48 + (m : Int) % 10)] 5)) := by
  have e : 48 + (m : Int) % 10 = ((dig m).toNat : Int) := by
    unfold dig
    rw [UInt8.toNat_ofNat']
    omega
  rw [e]
  refine run_convert_bytes_back (P := Try.prog) (w.alloc (.cells #[.int .u8 ((dig m).toNat : Int)] 5)) 22 9 5 ⟨w.heap.size, 0, none⟩ 1 [dig m] Try.underlying22 Try.underlying5 Try.underlying9 ?_
  intro j hj
  simp only [List.length_cons, List.length_nil] at hj
  obtain rfl : j = 0 := by omega
  rw [add_zero]
  simp [go_sem]

set_option maxHeartbeats 1000000 in
theorem markText_is (k : Nat) (w : World) (h0 : 1 ≤ k) (h1 : k ≤ 100000) :
    Calls Try.prog 92 #[.int .i64 k] w (Ret (.string (mtext k)) w) := by
  go_enter Try.func92, Try.ntmps92
  go_wp2_with fail
  go_loopw [0, 3] (fun n t wr => ∃ (m f : Nat) (s : ByteArray), n = .int .i64 m ∧ t = .string s ∧ s.size + m ≤ k ∧ m ≤ f ∧ Hid (mtx k k ⟨#[]⟩ = mtx f m s) ∧ Below w.heap.size w wr) (fun n _ _ => (intOf n).toNat)
  case atStart => exact ⟨k, k, ⟨#[]⟩, rfl, rfl, by show 0 + k ≤ k; omega, Nat.le_refl _, rfl, Below.refl _ _⟩
  case round =>
    obtain ⟨m, f, s, rfl, rfl, hs, hf, HM, hb⟩ := hrel
    by_cases hlt : 0 < m
    · obtain ⟨f, rfl⟩ : ∃ f', f = f' + 1 := ⟨f - 1, by omega⟩
      have hcv := conv_dig wr m
      have H2 := hid ((HM.out).trans (mtx_succ s (by omega)))
      clear HM
      go_wp2_with fail
      go_roundw
      case rel =>
        refine ⟨m / 10, f, _, by congr 1, rfl, ?_, by omega, H2, hb.alloc hb.size _⟩
        rw [ByteArray.size_append]
        show 1 + s.size + _ ≤ k
        omega
      case measure => simp [intOf]; omega
    · have hm : m = 0 := by omega
      subst hm
      have H2 : Hid ((⟨#[109]⟩ : ByteArray) ++ s = mtext k) := by show _ = _; unfold mtext; rw [HM.out, mtx_zero]
      clear HM
      go_wp2
      go_ret
      rw [← H2.out]
      exact .mk_ hb
theorem markText_at (x : Int) (k : Nat) (w : World) (hx : x = k) (h0 : 1 ≤ k) (h1 : k ≤ 100000) :
    Calls Try.prog 92 #[.int .i64 x] w (Ret (.string (mtext k)) w) := by
  subst hx; exact markText_is k w h0 h1
end Go.Proofs.Ytblknnifccmpkaa
namespace Go.Proofs.Ytblknnifccmpkaa
open Go.RowKit Wo Pu

/-- The mark at which object m begins. -/
def kAt (os : List Ob) (m : Nat) : Nat := 1 + ((os.take m).map fun o => o.zs.length + 2).sum
theorem kAt_zero (os : List Ob) : kAt os 0 = 1 := rfl
theorem kAt_succ {os : List Ob} {m : Nat} (hm : m < os.length) : kAt os (m + 1) = kAt os m + (os[m].zs.length + 2) := by
  unfold kAt
  rw [List.take_succ_eq_append_getElem hm, List.map_append, List.sum_append]
  simp
  omega
theorem kAt_le {os : List Ob} (hs : ∀ o ∈ os, o.zs.length ≤ 8) : ∀ m, m ≤ os.length → kAt os m ≤ 1 + 10 * m := by
  intro m
  induction m with
  | zero => intro _; rw [kAt_zero]; omega
  | succ m ih =>
    intro h
    have := ih (by omega)
    have h2 := hs _ (List.getElem_mem (show m < os.length by omega))
    rw [kAt_succ (by omega)]
    omega
theorem kAt_pos (os : List Ob) (m : Nat) : 1 ≤ kAt os m := by unfold kAt; omega
/-- Object o with the marks from k on. -/
def mkAt (k : Nat) (o : Ob) : Ob := ⟨(k : Int), marks ((k : Int) + 1) o.zs.length, mtext (k + 1 + o.zs.length)⟩
def mkdO (os : List Ob) (j : Nat) (h : j < os.length) : Ob := mkAt (kAt os j) os[j]
def mkdOs (os : List Ob) : List Ob := (List.finRange os.length).map fun j => mkdO os j.1 j.2
theorem mkdOs_length (os : List Ob) : (mkdOs os).length = os.length := by simp [mkdOs]
theorem mkdOs_get {os : List Ob} {j : Nat} (h : j < os.length) : (mkdOs os)[j]'(by rw [mkdOs_length]; exact h) = mkdO os j h := by simp [mkdOs]

theorem Own.offR {w : World} {B g n c : Nat} {v : Value} {zs : List Int} {ys : List Value} (h : Own w B v zs) (hm : w.ownsRow B 38 3 (.slice (some ⟨g, 0, none⟩) n c) n ys) (j : Nat) (u : Value) : Own (w.setCell ⟨g, j, none⟩ u) B v zs := by
  refine World.ownsRow.kept h (World.ownsRow.stored hm j u).2 ?_
  rcases hu : v.ownBlock with _ | k
  · exact .inl rfl
  · refine .inr (fun e => ?_)
    injection e with e
    subst e
    rcases h.2 with ⟨rfl, _⟩ | ⟨g1, _, cur, rfl, _, hh, _⟩
    · cases hu
    · have hk : g1 = k := by simpa [Value.ownBlock] using hu
      subst hk
      rcases hm.2 with ⟨h1, _⟩ | ⟨g2, _, cur2, hv2, _, hh2, _⟩
      · cases h1
      · have hk : g2 = g1 := by injection hv2 with e1; injection e1 with e1; injection e1 with e1; exact e1.symm
        subst hk
        rw [hh] at hh2
        injection hh2 with h3
        injection h3 with _ h3
        exact absurd h3 (by decide)
theorem Own.neR {w : World} {B g n c : Nat} {v : Value} {zs : List Int} {ys : List Value} (h : Own w B v zs) (hm : w.ownsRow B 38 3 (.slice (some ⟨g, 0, none⟩) n c) n ys) : v.ownBlock ≠ some g := by
  intro hu
  rcases h.2 with ⟨rfl, _⟩ | ⟨g1, _, cur, rfl, _, hh, _⟩
  · cases hu
  · have hk : g1 = g := by simpa [Value.ownBlock] using hu
    subst hk
    rcases hm.2 with ⟨h1, _⟩ | ⟨g2, _, cur2, hv2, _, hh2, _⟩
    · cases h1
    · have hk : g2 = g1 := by injection hv2 with e1; injection e1 with e1; injection e1 with e1; exact e1.symm
      subst hk
      rw [hh] at hh2
      injection hh2 with h3
      injection h3 with _ h3
      exact absurd h3 (by decide)

/-- The list, the first m objects of it marked. -/
def MixO (w : World) (B g c : Nat) (os : List Ob) (m : Nat) : Prop :=
  ∃ xs, w.ownsRow B 38 3 (.slice (some ⟨g, 0, none⟩) os.length c) os.length xs ∧ (∀ j (hj : j < os.length), ObIs w B xs j (if j < m then mkdO os j hj else os[j])) ∧ Apt xs os.length
theorem MixO.below {w w' : World} {B g c m : Nat} {os : List Ob} (h : MixO w B g c os m) (hb : Below w.heap.size w w') : MixO w' B g c os m := by
  obtain ⟨xs, h1, h2, h3⟩ := h
  refine ⟨xs, own_below h1 hb (Nat.le_refl _), fun j hj => ?_, h3⟩
  obtain ⟨A, c, q0, q1, q2, q3⟩ := h2 j hj
  exact ⟨A, c, q0, q1, q2, q3.below hb (Nat.le_refl _)⟩
/-- In the midst of object m: its number and its links are marked, its text is not. -/
def MidO (w : World) (B g c : Nat) (os : List Ob) (m : Nat) : Prop :=
  ∃ xs, w.ownsRow B 38 3 (.slice (some ⟨g, 0, none⟩) os.length c) os.length xs ∧ (∀ j (hj : j < os.length), j ≠ m → ObIs w B xs j (if j < m then mkdO os j hj else os[j])) ∧
    (∀ hm : m < os.length, ∃ A c', xs[m * 3]? = some (.int .i64 (kAt os m : Nat)) ∧ xs[m * 3 + 1]? = some (.slice A os[m].zs.length c') ∧ Own w B (.slice A os[m].zs.length c') (marks ((kAt os m : Nat) + 1) os[m].zs.length)) ∧ Apt xs os.length
theorem MidO.below {w w' : World} {B g c m : Nat} {os : List Ob} (h : MidO w B g c os m) (hb : Below w.heap.size w w') : MidO w' B g c os m := by
  obtain ⟨xs, h1, h2, h3, h4⟩ := h
  refine ⟨xs, own_below h1 hb (Nat.le_refl _), fun j hj hne => ?_, fun hm => ?_, h4⟩
  · obtain ⟨A, c, q0, q1, q2, q3⟩ := h2 j hj hne
    exact ⟨A, c, q0, q1, q2, q3.below hb (Nat.le_refl _)⟩
  · obtain ⟨A, c, q0, q1, q2⟩ := h3 hm
    exact ⟨A, c, q0, q1, q2.below hb (Nat.le_refl _)⟩
theorem MidO.cell {w : World} {B g c m : Nat} {os : List Ob} (h : MidO w B g c os m) (hm : m < os.length) : (∃ v, w.cell? ⟨g, m * 3 + 2, none⟩ = some v) ∧ w.frozen? ⟨g, m * 3 + 2, none⟩ = false := by
  obtain ⟨xs, h1, _⟩ := h
  have hl := h1.1
  exact ⟨⟨_, (World.ownsRow.cellAt h1 (m * 3 + 2) (by omega)).trans (List.getElem?_eq_getElem (by omega))⟩, World.ownsRow.frozenAt h1 _⟩
theorem MidO.text {w : World} {B g c m : Nat} {os : List Ob} (h : MidO w B g c os m) (hm : m < os.length) (t : ByteArray) (ht : t = mtext (kAt os m + 1 + os[m].zs.length)) : MixO (w.setCell ⟨g, m * 3 + 2, none⟩ (.string t)) B g c os (m + 1) := by
  obtain ⟨xs, h1, h2, h3, h4⟩ := h
  have hl := h1.1
  have t1 : ∀ j d, j < os.length → d < 2 → (xs.set (m * 3 + 2) (.string t))[j * 3 + d]? = xs[j * 3 + d]? := fun j d hj hd => by rw [List.getElem?_set_ne (by omega)]
  refine ⟨xs.set (m * 3 + 2) (.string t), (World.ownsRow.stored h1 (m * 3 + 2) (.string t)).1, fun j hj => ?_, fun i j v u hi hj hij hv hu => ?_⟩
  · by_cases e : j = m
    · subst e
      obtain ⟨A, c', q0, q1, q3⟩ := h3 hj
      rw [if_pos (Nat.lt_succ_self _)]
      refine ⟨A, c', ?_, ?_, ?_, ?_⟩
      · rw [show j * 3 = j * 3 + 0 from rfl, t1 j 0 hj (by omega)]; exact q0
      · rw [t1 j 1 hj (by omega)]
        have e2 : (mkdO os j hj).zs.length = os[j].zs.length := marks_length _ _
        rw [e2]; exact q1
      · rw [List.getElem?_set_self (by omega), ht]; rfl
      · have e2 : (mkdO os j hj).zs.length = os[j].zs.length := marks_length _ _
        rw [e2]
        exact q3.offR h1 _ _
    · obtain ⟨A, c', q0, q1, q2, q3⟩ := h2 j hj e
      have e3 : (if j < m + 1 then mkdO os j hj else os[j]) = (if j < m then mkdO os j hj else os[j]) := by
        by_cases hjm : j < m
        · rw [if_pos hjm, if_pos (by omega)]
        · rw [if_neg hjm, if_neg (by omega)]
      rw [e3]
      refine ⟨A, c', ?_, ?_, ?_, q3.offR h1 _ _⟩
      · rw [show j * 3 = j * 3 + 0 from rfl, t1 j 0 hj (by omega)]; exact q0
      · rw [t1 j 1 hj (by omega)]; exact q1
      · rw [List.getElem?_set_ne (by omega)]; exact q2
  · rw [t1 i 1 hi (by omega)] at hv
    rw [t1 j 1 hj (by omega)] at hu
    exact h4 i j v u hi hj hij hv hu
/-- What the round at object m finds. -/
theorem MixO.begin_ {w : World} {B g c m : Nat} {os : List Ob} (h : MixO w B g c os m) (hm : m < os.length) : ∃ (A : Option Addr) (c' : Nat), (∃ v, w.cell? ⟨g, m * 3, none⟩ = some v) ∧ w.frozen? ⟨g, m * 3, none⟩ = false ∧ w.cell? ⟨g, m * 3 + 1, none⟩ = some (.slice A os[m].zs.length c') ∧
    Own (w.setCell ⟨g, m * 3, none⟩ (.int .i64 (kAt os m : Nat))) B (.slice A os[m].zs.length c') os[m].zs ∧
    ∀ w2, (w.setCell ⟨g, m * 3, none⟩ (.int .i64 (kAt os m : Nat))).grownBy w2 (Value.slice A os[m].zs.length c').ownBlock → Own w2 B (.slice A os[m].zs.length c') (marks ((kAt os m : Nat) + 1) os[m].zs.length) → MidO w2 B g c os m := by
  obtain ⟨xs, h1, h2, h3⟩ := h
  have hl := h1.1
  obtain ⟨A, c', q0, q1, q2, q3⟩ := h2 m hm
  rw [if_neg (Nat.lt_irrefl m)] at q0 q1 q2 q3
  have o1 := q3.offR h1 (m * 3) (.int .i64 (kAt os m : Nat))
  have s1 := (World.ownsRow.stored h1 (m * 3) (.int .i64 (kAt os m : Nat))).1
  refine ⟨A, c', ⟨_, (World.ownsRow.cellAt h1 (m * 3) (by omega)).trans (List.getElem?_eq_getElem (by omega))⟩, World.ownsRow.frozenAt h1 _, (World.ownsRow.cellAt h1 (m * 3 + 1) (by omega)).trans q1, o1, fun w2 hg hmk => ?_⟩
  have t1 : ∀ j d, j < os.length → 0 < d → d < 3 → (xs.set (m * 3) (.int .i64 (kAt os m : Nat)))[j * 3 + d]? = xs[j * 3 + d]? := fun j d hj hd hd2 => by rw [List.getElem?_set_ne (by omega)]
  refine ⟨xs.set (m * 3) (.int .i64 (kAt os m : Nat)), World.ownsRow.kept s1 hg (.inr (fun e => o1.neR s1 e.symm)), fun j hj hne => ?_, fun _ => ⟨A, c', ?_, ?_, hmk⟩, fun i j v u hi hj hij hv hu => ?_⟩
  · obtain ⟨A2, c2, r0, r1, r2, r3⟩ := h2 j hj
    have r4 := r3.offR h1 (m * 3) (.int .i64 (kAt os m : Nat))
    refine ⟨A2, c2, ?_, ?_, ?_, ?_⟩
    · rw [List.getElem?_set_ne (by omega)]; exact r0
    · rw [t1 j 1 hj (by omega) (by omega)]; exact r1
    · rw [t1 j 2 hj (by omega) (by omega)]; exact r2
    · have hap := h3 j m _ _ hj hm hne r1 q1
      refine World.ownsRow.kept r4 hg ?_
      rcases hu : (Value.slice A2 (if j < m then mkdO os j hj else os[j]).zs.length c2).ownBlock with _ | k
      · exact .inl rfl
      · exact .inr (fun e => hap k hu e.symm)
  · rw [List.getElem?_set_self (by omega)]
  · rw [t1 m 1 hm (by omega) (by omega)]; exact q1
  · rw [t1 i 1 hi (by omega) (by omega)] at hv
    rw [t1 j 1 hj (by omega) (by omega)] at hu
    exact h3 i j v u hi hj hij hv hu

set_option maxHeartbeats 2000000 in
theorem markObjectS_is (B g c : Nat) (os : List Ob) (w : World) (h : OwnObsF w B (.slice (some ⟨g, 0, none⟩) os.length c) os) (hB : B ≤ w.heap.size) (hn : os.length ≤ 16) (hs : ∀ o ∈ os, o.zs.length ≤ 8) :
    Calls Try.prog 50 #[.slice (some ⟨g, 0, none⟩) os.length c, .int .i64 1] w (fun e w' => e = .returned (.int .i64 (kAt os os.length : Nat)) ∧ MixO w' B g c os os.length ∧ Below B w w') := by
  have hm0 : MixO w B g c os 0 := by
    obtain ⟨xs, h1, h2, h3⟩ := h
    exact ⟨xs, h1, fun j hj => by rw [if_neg (Nat.not_lt_zero j)]; exact h2 j hj, h3⟩
  clear h
  have HS := hid hs
  go_enter Try.func50, Try.ntmps50
  go_wp2_with fail
  go_loopw [1, 5] (fun q i wr => ∃ m K : Nat, m ≤ os.length ∧ i = .int .i64 m ∧ q = .int .i64 (K : Nat) ∧ K ≤ 1000 ∧ Hid (K = kAt os m) ∧ MixO wr B g c os m ∧ Below B w wr) (fun _ i _ => os.length - (intOf i).toNat)
  case atStart => exact ⟨0, 1, Nat.zero_le _, rfl, rfl, by omega, rfl, hm0, Below.refl _ _⟩
  case round =>
    clear hm0 hs
    obtain ⟨m, K, hm, rfl, rfl, hK, HK, hl, hb⟩ := hrel
    by_cases hlt : m < os.length
    · have hk1 := kAt_succ hlt
      have hk2 := kAt_le HS.out (m + 1) (by omega)
      have hsm := HS.out _ (List.getElem_mem hlt)
      obtain ⟨A, c', ⟨v0, q0⟩, f0, q1, o1, hmid⟩ := hl.begin_ hlt
      rw [← HK.out] at hk1 o1 hmid
      have HK1 := hid hk1
      have HT : Hid (∀ t, t = mtext (K + 1 + os[m].zs.length) → t = mtext (kAt os m + 1 + os[m].zs.length)) := fun t ht => by rw [← HK.out]; exact ht
      obtain ⟨n, hnn⟩ : ∃ n, os[m].zs.length = n := ⟨_, rfl⟩
      have hzz : ∃ zs : List Int, os[m].zs = zs ∧ zs.length = n := ⟨_, rfl, hnn⟩
      obtain ⟨zs, hz1, hz2⟩ := hzz
      rw [hnn] at q1 o1 hmid hsm hk1
      rw [hz1] at o1
      have HMID := hid hmid
      have HNN := hid hnn
      have hz := hb.size
      have b1 := hb.setCell (p := ⟨g, m * 3, none⟩) (by obtain ⟨xs, hx, _⟩ := hl; exact (World.ownsRow.lt hx g rfl).1) (.int .i64 (K : Nat))
      have z1 : B ≤ (wr.setCell ⟨g, m * 3, none⟩ (.int .i64 (K : Nat))).heap.size := by simp [World.setCell]; omega
      clear hl hmid hz1 hnn hb
      have hcm := markInts_any B A c' zs ((K : Int) + 1) (wr.setCell ⟨g, m * 3, none⟩ (.int .i64 (K : Nat))) (by rw [hz2]; exact o1) (by omega) (by omega) (by omega)
      rw [hz2] at hcm
      have olt := World.ownsRow.lt o1
      clear o1
      go_wp2_with fail
      refine hcm.mono ?_
      rintro e w2 ⟨rfl, h2, h3⟩
      have hmd := HMID.out w2 h3 h2
      have b2 : Below B w w2 := b1.grown h3 z1 (fun k hk => (olt k hk).1)
      clear hcm h2 h3 b1 olt q0 q1 f0
      have z2 := Nat.le_trans hB b2.size
      go_wp2_with fail
      refine (markText_at _ (K + 1 + n) w2 (by omega) (by omega) (by omega)).mono ?_
      rintro e w3 ⟨rfl, b3⟩
      have hmd3 := hmd.below b3
      have b4 := b2.trans (b3.mono z2)
      obtain ⟨⟨v2, q2⟩, f2⟩ := hmd3.cell hlt
      have hmx := hmd3.text hlt (mtext (K + 1 + n)) (HT.out _ (by rw [HNN.out]))
      have b5 := b4.setCell (p := ⟨g, m * 3 + 2, none⟩) (by obtain ⟨xs, hx, _⟩ := hmd3; exact (World.ownsRow.lt hx g rfl).1) (.string (mtext (K + 1 + n)))
      have HK2 : Hid (K + 1 + n + 1 = kAt os (m + 1)) := by show _ = _; rw [HK1.out, HNN.out]; omega
      have hK2 : K + 1 + n + 1 ≤ 1000 := by rw [HK2.out]; omega
      clear hmd hmd3 b2 b3 b4 hk1 hk2
      go_wp2_with fail
      go_roundw
      case rel => exact ⟨m + 1, K + 1 + n + 1, by omega, by go_num, by go_num, hK2, HK2.out, hmx, b5⟩
      case measure => simp [intOf]; omega
    · have hm' : m = os.length := by omega
      subst hm'
      go_wp2
      go_ret
      have hKe := HK.out
      subst hKe
      exact ⟨rfl, hl, hb⟩
end Go.Proofs.Ytblknnifccmpkaa
namespace Go.Proofs.Ytblknnifccmpkaa
open Go.RowKit Wo Pu

theorem MixO.ownObs {w : World} {B g c : Nat} {os : List Ob} (h : MixO w B g c os os.length) : OwnObs w B (.slice (some ⟨g, 0, none⟩) (mkdOs os).length c) (mkdOs os) := by
  obtain ⟨xs, h1, h2, _⟩ := h
  refine ⟨xs, by rw [mkdOs_length]; exact h1, fun j hj => ?_⟩
  have hj' : j < os.length := by rw [mkdOs_length] at hj; exact hj
  rw [mkdOs_get hj']
  have := h2 j hj'
  rwa [if_pos hj'] at this
theorem MixO.objs {w : World} {B g c : Nat} {os : List Ob} (h : MixO w B g c os os.length) : Objs w w.heap.size (some ⟨g, 0, none⟩) (mkdOs os) := by
  obtain ⟨A, c', e, ho⟩ := h.ownObs.form
  injection e with e1 _ _
  subst e1
  exact ho
/-- Behind it: the list marked. -/
def MarkedO (B : Nat) (A : Option Addr) (os : List Ob) (w : World) (e : Ending) (w' : World) : Prop := e = .returned (.int .i64 (kAt os os.length : Nat)) ∧ Objs w' w'.heap.size A (mkdOs os) ∧ Below B w w'
theorem markObjectS_none (c : Nat) (A : Option Addr) (w : World) : Calls Try.prog 50 #[.slice A 0 c, .int .i64 1] w (Same (.int .i64 1) w) := by
  go_enter Try.func50, Try.ntmps50
  go_wp2_with fail
  go_loopw [1, 5] (fun q i wr => i = .int .i64 0 ∧ q = .int .i64 1 ∧ w = wr) (fun _ i _ => 0)
  case atStart => exact ⟨rfl, rfl, rfl⟩
  case round =>
    obtain ⟨rfl, rfl, rfl⟩ := hrel
    go_wp2
    go_ret
    exact ⟨rfl, rfl⟩
theorem markObjectS_own (B : Nat) (A : Option Addr) (c : Nat) (os : List Ob) (w : World) (h : OwnObsF w B (.slice A os.length c) os) (hB : B ≤ w.heap.size) (hn : os.length ≤ 16) (hs : ∀ o ∈ os, o.zs.length ≤ 8) :
    Calls Try.prog 50 #[.slice A os.length c, .int .i64 1] w (MarkedO B A os w) := by
  rcases Nat.eq_zero_or_pos os.length with h0 | h0
  · have e : os = [] := List.eq_nil_of_length_eq_zero h0
    subst e
    refine (markObjectS_none c A w).mono ?_
    rintro e w' ⟨rfl, rfl⟩
    exact ⟨rfl, .inl rfl, Below.refl _ _⟩
  · have h' := h
    obtain ⟨xs, h1, _⟩ := h'
    obtain ⟨g, cap, e, -, -⟩ := World.ownsRow.form h1 h0
    injection e with e1 _ e3
    subst e1
    refine (markObjectS_is B g c os w h hB hn hs).mono ?_
    rintro e w' ⟨rfl, h2, h3⟩
    exact ⟨rfl, h2.objs, h3⟩

set_option maxHeartbeats 4000000 in
theorem heldObjectS_is (A : Option Addr) (c : Nat) (os : List Ob) (w : World) (h : Objs w w.heap.size A (mkdOs os)) (hn : os.length ≤ 16) (hs : ∀ o ∈ os, o.zs.length ≤ 8) :
    Calls Try.prog 93 #[.slice A os.length c, .int .i64 1] w (Ret (.int .i64 (kAt os os.length : Nat)) w) := by
  have HS := hid hs
  clear hs
  go_enter Try.func93, Try.ntmps93
  go_wp2_with fail
  go_loopw [1, 5] (fun q i wr => ∃ m K : Nat, m ≤ os.length ∧ i = .int .i64 m ∧ q = .int .i64 (K : Nat) ∧ K ≤ 1000 ∧ Hid (K = kAt os m) ∧ Below w.heap.size w wr) (fun _ i _ => os.length - (intOf i).toNat)
  case atStart => exact ⟨0, 1, Nat.zero_le _, rfl, rfl, by omega, rfl, Below.refl _ _⟩
  case round =>
    obtain ⟨m, K, hm, rfl, rfl, hK, HK, hb⟩ := hrel
    by_cases hlt : m < os.length
    · have hk1 := kAt_succ hlt
      have hk2 := kAt_le HS.out (m + 1) (by omega)
      have hsm := HS.out _ (List.getElem_mem hlt)
      obtain ⟨o, ad, A1, c1, ho, rfl, ha, g0, g1, g2, g3⟩ := (h.below hb (Nat.le_refl _)).obj (k := m) (by rw [mkdOs_length]; exact hlt)
      rw [mkdOs_get hlt] at ho
      subst ho
      obtain ⟨n, hnn⟩ : ∃ n, os[m].zs.length = n := ⟨_, rfl⟩
      have eO : mkdO os m hlt = ⟨(K : Int), marks ((K : Int) + 1) n, mtext (K + 1 + n)⟩ := by unfold mkdO mkAt; rw [hnn, ← HK.out]
      rw [eO] at g0 g1 g2 g3
      simp only [marks_length] at g0 g1 g2 g3
      rw [← HK.out, hnn] at hk1
      rw [hnn] at hsm
      have HK2 : Hid (K + 1 + n + 1 = kAt os (m + 1)) := by show _ = _; rw [hk1]; omega
      have hK2 : K + 1 + n + 1 ≤ 1000 := by rw [HK2.out]; omega
      have hz := hb.size
      have G2 := Later.cell (p := ⟨(ad.add (m * 3)).block, (ad.add (m * 3)).off + 2, none⟩) g2 (Nat.lt_of_lt_of_le ha hz)
      have hxx : Hid ((K : Int) + 1 + (n : Int) = ((K + 1 + n : Nat) : Int)) := by show _ = _; omega
      have hx1 : Hid (1 ≤ K + 1 + n ∧ K + 1 + n ≤ 100000) := by show _ ∧ _; omega
      have k0 : 0 ≤ (m : Int) := by omega
      have k1 : (m : Int) < (os.length : Int) := by omega
      clear hk1 hk2 eO hnn g2
      go_wp2_with fail
      refine (heldIntS_yes w.heap.size A1 c1 n ((K : Int) + 1) wr g3 (by omega) (by omega) (by omega)).mono ?_
      rintro e w2 ⟨rfl, rfl⟩
      go_wp2_with fail
      refine wp_region_later wr.heap.size (by kernel_rfl) (by kernel_rfl) ?_
      repeat (go_big_quiet_step ((go_at_call 92; exact Later.call (Nat.le_refl _) _ (markText_at _ (K + 1 + n) _ hxx.out hx1.out.1 hx1.out.2))))
      refine wpQuiet_nil ?_
      intro _ hw'
      obtain ⟨xx, hxx⟩ := hw'
      have hbx := xx.b
      subst hxx
      go_wp2
      go_roundw
      case rel => exact ⟨m + 1, K + 1 + n + 1, by omega, by go_num, by go_num, hK2, HK2.out, hb.trans (hbx.mono hz)⟩
      case measure => simp [intOf]; omega
    · have hm' : m = os.length := by omega
      subst hm'
      go_wp2
      go_ret
      have hKe := HK.out
      subst hKe
      exact .mk_ hb
end Go.Proofs.Ytblknnifccmpkaa
namespace Go.Proofs.Ytblknnifccmpkaa
open Go.RowKit Wo Pu

/-- The new list so far. -/
def FilledA (w : World) (B g : Nat) (os : List Ob) (k N : Nat) : Prop := ∃ xs, Mine w B 38 3 g os.length xs ∧ (∀ j (hj : j < os.length), j < k → ObIs w B xs j os[j]) ∧ Apt xs k ∧ Bel xs k N
theorem FilledA.below {w w' : World} {B g k N : Nat} {os : List Ob} (h : FilledA w B g os k N) (hb : Below w.heap.size w w') : FilledA w' B g os k N := by
  obtain ⟨xs, hm, hx, h3⟩ := h
  refine ⟨xs, hm.below hb hm.lt.2, fun j hj hjk => ?_, h3⟩
  obtain ⟨A, c, h0, h1, h2, h3⟩ := hx j hj hjk
  exact ⟨A, c, h0, h1, h2, h3.below hb (Nat.le_refl _)⟩
theorem FilledA.o {w : World} {B g k N : Nat} {os : List Ob} (h : FilledA w B g os k N) : FilledO w B g os k := by
  obtain ⟨xs, hm, hx, _⟩ := h
  exact ⟨xs, hm, hx⟩
theorem FilledA.step {w : World} {B g k c N M : Nat} {A : Option Addr} {os : List Ob} (h : FilledA w B g os k N) (hk : k < os.length) (hl : Own w M (.slice A os[k].zs.length c) os[k].zs) (hN : N ≤ M) (hB : B ≤ M) (hNw : N ≤ w.heap.size) :
    FilledA (((w.setCell ⟨g, k * 3, none⟩ (.int .i64 os[k].kd)).setCell ⟨g, k * 3 + 1, none⟩ (.slice A os[k].zs.length c)).setCell ⟨g, k * 3 + 2, none⟩ (.string os[k].s)) B g os (k + 1) w.heap.size := by
  obtain ⟨xs, hm, hx, ha, hb⟩ := h
  have hlen := hm.len
  have hlt : k * 3 + 2 < xs.length := by omega
  have hm1 := hm.set_ (k * 3) (.int .i64 os[k].kd)
  have hm2 := hm1.set_ (k * 3 + 1) (.slice A os[k].zs.length c)
  have lk : ∀ j, j < os.length → (((xs.set (k * 3) (.int .i64 os[k].kd)).set (k * 3 + 1) (.slice A os[k].zs.length c)).set (k * 3 + 2) (.string os[k].s))[j * 3 + 1]? = if j = k then some (.slice A os[k].zs.length c) else xs[j * 3 + 1]? := fun j hj => by
    by_cases e : j = k
    · subst e
      rw [if_pos rfl, List.getElem?_set_ne (by omega), List.getElem?_set_self (by simp; omega)]
    · rw [if_neg e, List.getElem?_set_ne (by omega), List.getElem?_set_ne (by omega), List.getElem?_set_ne (by omega)]
  refine ⟨((xs.set (k * 3) (.int .i64 os[k].kd)).set (k * 3 + 1) (.slice A os[k].zs.length c)).set (k * 3 + 2) (.string os[k].s), hm2.set_ _ _, fun j hj hjk => ?_, ?_, ?_⟩
  · have hl' := hl.base hB
    by_cases e : j = k
    · subst e
      refine ⟨A, c, ?_, ?_, ?_, ((hl'.off hm _ _).off hm1 _ _).off hm2 _ _⟩ <;> simp [List.getElem?_set] <;> omega
    · obtain ⟨A2, c2, h0, h1, h2, h3⟩ := hx j hj (by omega)
      have t : ∀ d, d < 3 → (((xs.set (k * 3) (.int .i64 os[k].kd)).set (k * 3 + 1) (.slice A os[k].zs.length c)).set (k * 3 + 2) (.string os[k].s))[j * 3 + d]? = xs[j * 3 + d]? := fun d hd => by
        rw [List.getElem?_set_ne (by omega), List.getElem?_set_ne (by omega), List.getElem?_set_ne (by omega)]
      exact ⟨A2, c2, by rw [show j * 3 = j * 3 + 0 from rfl, t 0 (by omega)]; exact h0, by rw [t 1 (by omega)]; exact h1, by rw [t 2 (by omega)]; exact h2, ((h3.off hm _ _).off hm1 _ _).off hm2 _ _⟩
  · intro i j v u hi hj hij hv hu
    rw [lk i (by omega)] at hv
    rw [lk j (by omega)] at hu
    have new : ∀ i' x, i' < k → xs[i' * 3 + 1]? = some x → Ap2 x (.slice A os[k].zs.length c) := fun i' x hk' hx' gg h1 h2 => by
      have := hb i' x gg hk' hx' h1
      have := (hl.bel gg h2).1
      omega
    by_cases ei : i = k
    · rw [if_pos ei] at hv
      injection hv with hv
      subst hv
      rw [if_neg (by omega)] at hu
      exact (new j u (by omega) hu).symm
    · rw [if_neg ei] at hv
      by_cases ej : j = k
      · rw [if_pos ej] at hu
        injection hu with hu
        subst hu
        exact new i v (by omega) hv
      · rw [if_neg ej] at hu
        exact ha i j v u (by omega) (by omega) hij hv hu
  · intro i v gg hi hv hg
    rw [lk i (by omega)] at hv
    by_cases ei : i = k
    · rw [if_pos ei] at hv
      injection hv with hv
      subst hv
      exact (hl.bel gg hg).2
    · rw [if_neg ei] at hv
      have := hb i v gg (by omega) hv hg
      omega

/-- Behind it: a full list of objects of the call's own. -/
def NewFullA (os : List Ob) (w : World) (e : Ending) (w' : World) : Prop := ∃ g, e = .returned (.slice (some ⟨g, 0, none⟩) os.length os.length) ∧ OwnObsN w' w.heap.size w'.heap.size (.slice (some ⟨g, 0, none⟩) os.length os.length) os ∧ Below w.heap.size w w'
set_option maxHeartbeats 2000000 in
theorem copyObjectsA_any (A : Option Addr) (c : Nat) (os : List Ob) (w : World) (h : Objs w w.heap.size A os) (hn : os.length ≤ 1048576) (hs : ∀ o ∈ os, o.zs.length ≤ 1048576) :
    Calls Try.prog 99 #[.slice A os.length c] w (NewFullA os w) := by
  obtain ⟨i0, hi, hz0, hz1, hz2⟩ := info_of info_ob
  go_enter Try.func99, Try.ntmps99
  go_wp2_with (at_make; go_must (refine wpList_make_full _ rfl (.tmp 7) (.tmp 7) 23 rfl w.heap.size 38 i0 (.agg #[.int .i64 0, .slice none 0 0, .string ⟨#[]⟩]) 3 Try.underlying23 hi hz0 hz1 .i64 .i64 os.length os.length os.length rfl rfl rfl rfl (by rw [hz2]; omega) (by unfold maxLen; omega) (Nat.le_refl _) ?_); intro w1 hown hg)
  have hb1 : Below w.heap.size w w1 := (Below.refl _ _).grown hg (Nat.le_refl _) (by simp)
  have f1 : FilledA w1 w.heap.size w.heap.size os 0 w1.heap.size := ⟨_, hown, (fun j _ hj => absurd hj (by omega)), (fun i _ _ _ hi => absurd hi (by omega)), fun i _ _ hi => absurd hi (by omega)⟩
  clear hown hg
  go_loopw [11] (fun i wr => ∃ k : Nat, k ≤ os.length ∧ i = .int .i64 k ∧ FilledA wr w.heap.size w.heap.size os k wr.heap.size ∧ Below w.heap.size w wr) (fun i _ => os.length - (intOf i).toNat)
  case atStart => exact ⟨0, Nat.zero_le _, rfl, f1, hb1⟩
  case round =>
    clear f1 hb1
    obtain ⟨k, hk, rfl, hf, hb⟩ := hrel
    by_cases hlt : k < os.length
    · obtain ⟨ad, A', c', rfl, _, g0, g1, g2, g3⟩ := (h.below hb (Nat.le_refl _)).at_ hlt
      have hz := hb.size
      go_wp2_with fail
      have al := (Below.refl wr.heap.size wr).alloc (Nat.le_refl _) (.cells #[.int .i64 os[k].kd, .slice A' os[k].zs.length c', .string os[k].s] 38)
      refine (copied_any w.heap.size A' c' os[k] _ (g3.alloc hz _) (by simp; omega) (hs _ (List.getElem_mem hlt))).mono ?_
      rintro e w2 ⟨A2, c2, rfl, hl, hb2⟩
      unfold ob
      have z2 : wr.heap.size ≤ (wr.alloc (.cells #[.int .i64 os[k].kd, .slice A' os[k].zs.length c', .string os[k].s] 38)).heap.size := al.size
      have hb3 := al.trans (hb2.mono z2)
      have hf2 := hf.below hb3
      have hb4 := hb.trans (hb3.mono hz)
      have hl2 := hl.base z2
      have z3 := hb3.size
      clear hf hb2 hl g0 g1 g2 g3 al hb3 z2
      obtain ⟨q0, q1, q2, qf⟩ := hf2.o.cells3 hlt
      have qf0 := qf (k * 3)
      have qf1 := qf (k * 3 + 1)
      have qf2 := qf (k * 3 + 2)
      clear qf
      obtain ⟨y0, q0⟩ := q0
      obtain ⟨y1, q1⟩ := q1
      obtain ⟨y2, q2⟩ := q2
      go_wp2_with fail
      go_roundw
      case rel => exact ⟨k + 1, by omega, by go_num, by simpa [World.setCell] using hf2.step hlt hl2 (Nat.le_refl _) hz z3, ((hb4.setCell (Nat.le_refl _) _).setCell (Nat.le_refl _) _).setCell (Nat.le_refl _) _⟩
      case measure => simp [intOf]; omega
    · have hk' : k = os.length := by omega
      subst hk'
      go_wp2
      go_ret
      obtain ⟨xs, hm, hx, h3, h4⟩ := hf
      exact ⟨_, rfl, ⟨xs, hm, fun j hj => hx j hj hj, h3, h4⟩, hb⟩
end Go.Proofs.Ytblknnifccmpkaa
namespace Go.Proofs.Ytblknnifccmpkaa
open Go.RowKit Wo Pu

theorem run_copy_row3 {P : Program} (w : World) (dT sT ty elem : TypeId) (g o dLen dCap : Nat) (a : Addr) (sLen sCap : Nat) (cur : Array Value) (t : TypeId) (cs : List Value)
    (hu : P.underlying dT = some (.slice elem)) (hs : (P.info? elem).map (·.size) = some 3)
    (hg : w.heap[g]? = some (.cells cur t (0, 0))) (hn : cs.length = Nat.min sLen dLen * 3)
    (hsrc : ∀ j v, cs[j]? = some v → w.cell? (a.add j) = some v) (hfit : o + cs.length ≤ cur.size) (h1 : ∀ v ∈ cs, v.oneCell' = true) :
    (Builtin.copy_ #[dT, sT] ty #[.slice (some ⟨g, o, none⟩) dLen dCap, .slice (some a) sLen sCap]).run P w =
      .ok (goInt (Nat.min sLen dLen)) (w.setRow g (cur.toList.take o ++ cs ++ cur.toList.drop (o + cs.length)).toArray) := by
  have hl := run_loadCells_list (P := P) w a cs hsrc
  have hst := run_storeCells_at P g o t cs 0 cur w hg (by simpa using hfit) h1
  cases hq : P.info? elem with
  | none => simp [hq] at hs
  | some i =>
    have hi : i.size = 3 := by simpa [hq] using hs
    rw [hn] at hl
    simp [Builtin.copy_, run_underlying hu, Builtin.lenOf, Builtin.firstCells, sizeOf, typeInfo, hq, hi, hl, hst]

theorem wpList_copy_is {P : Program} (w : World) {ops : Array Oper} {rest : List Oper} {o : Oper} {a : Act} {Q : Exit → Act → World → Prop} (hgd : o.guard = none) (d s : Operand) (t t' : TypeId)
    (ho : o.op = .call { callee := .builtin .copy, args := #[d, s], argTypes := #[t, t'] }) (v u : Value) (hd : a.eval d = v) (hs : a.eval s = u) {v' : Value} {w' : World}
    (hr : (Builtin.copy_ #[t, t'] o.type #[v, u]).run P w = .ok v' w') (h : wpList P ops Q rest (a.put o.dst v') w') : wpList P ops Q (o :: rest) a w := by
  refine wpList_plain hgd fun K hK => ?_
  unfold Oper.wp execOp
  simp only [ho, resolve, invoke, builtin, Sem.run_bind, Sem.run_pure, Result.andThen_ok, List.map_toArray, List.map_cons, List.map_nil, hd, hs, hr]
  exact hK _ _ h
theorem step_copy_is {P : Program} {ops : Array Oper} {o : Oper} {a : Act} {w : World} {K : Act → World → Prop} {Q : Exit → Act → World → Prop} {E : Prop}
    (hg : o.guard = none) (d x : Operand) (dT sT : TypeId) (hop : o.op = Op.call { callee := Callee.builtin Builtin.copy, args := #[d, x], argTypes := #[dT, sT] })
    (v u : Value) (hd : a.eval d = v) (hx : a.eval x = u) {v' : Value} {w' : World} (hr : (Builtin.copy_ #[dT, sT] o.type #[v, u]).run P w = .ok v' w') (hK : K (a.put o.dst v') w') :
    if Region.wanted o (yielded ops a.tmps) = true then Oper.wp P o a w K Q else E := by
  have hw : Region.wanted o (yielded ops a.tmps) = true := by simp [Region.wanted, hg]
  rw [if_pos hw]
  unfold Oper.wp
  simp [execOp, hop, resolve, invoke, builtin, hd, hx, hr, Result.andThen]
  exact hK
end Go.Proofs.Ytblknnifccmpkaa
namespace Go.Proofs.Ytblknnifccmpkaa
open Go.RowKit Wo Pu

/-- Block g is an array of marks: those of V are set. -/
def Arr (w : World) (g : Nat) (V : List Int) : Prop :=
  ∃ cur : Array Value, w.heap[g]? = some (.cells cur 116 (0, 0)) ∧ cur.size = 991 ∧ ∀ i : Nat, i < 991 → cur[i]? = some (.bool (decide ((i : Int) ∈ V)))
set_option maxRecDepth 100000 in
theorem zero_marks : Try.zeroCells116 = Array.replicate 991 (.bool false) := by kernel_rfl
section
variable {w w' : World} {g : Nat} {V : List Int}
theorem Arr.new_ (w : World) : Arr (w.alloc (.cells Try.zeroCells116 116)) w.heap.size [] := by
  refine ⟨_, heap_alloc_new w _, by rw [zero_marks, Array.size_replicate], fun i hi => ?_⟩
  rw [zero_marks, Array.getElem?_replicate, if_pos hi]
  simp
theorem Arr.lt (h : Arr w g V) : g < w.heap.size := by
  obtain ⟨cur, h, _⟩ := h
  rcases Nat.lt_or_ge g w.heap.size with h1 | h1
  · exact h1
  · rw [Array.getElem?_eq_none h1] at h; cases h
theorem Arr.read (h : Arr w g V) {i : Nat} (hi : i < 991) : w.cell? ⟨g, i, none⟩ = some (.bool (decide ((i : Int) ∈ V))) := by
  obtain ⟨cur, h, h1, h2⟩ := h
  have := h2 i hi
  simp [World.cell?, h, this]
theorem Arr.frozen (h : Arr w g V) (o : Nat) : w.frozen? ⟨g, o, none⟩ = false := by
  obtain ⟨cur, h, _⟩ := h
  simp [World.frozen?, h]
theorem Arr.below {C : Nat} (h : Arr w g V) (hb : Below C w w') (hC : g < C) : Arr w' g V := by
  obtain ⟨cur, h, h1⟩ := h
  exact ⟨cur, (hb.block g hC).trans h, h1⟩
theorem Arr.grown {row : Option Nat} (h : Arr w g V) (hb : w.grownBy w' row) (hg : some g ≠ row) : Arr w' g V := by
  have hl := h.lt
  obtain ⟨cur, h, h1⟩ := h
  exact ⟨cur, (hb.block g hl hg).trans h, h1⟩
theorem Arr.far (h : Arr w g V) {p : Addr} (hp : g ≠ p.block) (u : Value) : Arr (w.setCell p u) g V := by
  obtain ⟨cur, h, h1⟩ := h
  exact ⟨cur, (Below.heap_setCell w p u g hp).trans h, h1⟩
theorem Arr.set (h : Arr w g V) {i : Nat} (hi : i < 991) : Arr (w.setCell ⟨g, i, none⟩ (.bool true)) g (V ++ [(i : Int)]) := by
  obtain ⟨cur, h, h1, h2⟩ := h
  refine ⟨cur.setIfInBounds i (.bool true), by simp [World.setCell, Array.getElem?_modify, h], by rw [Array.size_setIfInBounds]; exact h1, fun j hj => ?_⟩
  by_cases e : i = j
  · subst e
    rw [Array.getElem?_setIfInBounds_self_of_lt (by omega)]
    simp
  · rw [Array.getElem?_setIfInBounds_ne e, h2 j hj]
    have : ¬ (j : Int) = (i : Int) := by omega
    simp [this]
end
/-- Without its last number. -/
theorem Own.shrink {w : World} {B c : Nat} {A : Option Addr} {zs : List Int} {x : Int} (h : Own w B (.slice A (zs.length + 1) c) (zs ++ [x])) : Own w B (.slice A zs.length c) zs := by
  obtain ⟨h1, h2⟩ := h
  rcases h2 with ⟨hv, h0⟩ | ⟨g, cap, cur, hv, hB, hh, hn, hm, hcs, htk⟩
  · simp at h0
  · injection hv with e1 e2 e3
    subst e1 e3
    refine ⟨by simp [ints], .inr ⟨g, c, cur, rfl, hB, hh, by simp at hn; omega, hm, hcs, ?_⟩⟩
    have e : ints (zs ++ [x]) = ints zs ++ [.int .i64 x] := by simp [ints]
    rw [e] at htk
    have hl : (zs ++ [x]).length = zs.length + 1 := by simp
    rw [hl] at htk
    have := congrArg (List.take (zs.length * 1)) htk
    rw [List.take_take, List.take_append_of_le_length (by rw [ints_length]; omega), List.take_of_length_le (l := ints zs) (by rw [ints_length]; omega), Nat.min_eq_left (by omega)] at this
    exact this
end Go.Proofs.Ytblknnifccmpkaa
