/-
  Walk: a pack as the draws make it.
-/
import Derived.Test.YtpcfabgjdefkiaaPkC
import Derived.Test.YtpcfabgjdefkiaaEntC
import Derived.Test.YtpcfabgjdefkiaaDrawOps
namespace Go.Proofs.Ytpcfabgjdefkiaa
open Go.RowKit Wo Pu

/-- The cells xs are the entries es, with links and operations of the call's own. -/
def OwnE (w : World) (B : Nat) (xs : List Value) (es : List Ent) : Prop :=
  ∀ j (hj : j < es.length), ∃ lv ov, xs[j * 4]? = some (.int .i64 es[j].kd) ∧ xs[j * 4 + 1]? = some lv ∧ xs[j * 4 + 2]? = some (.int .i64 es[j].b) ∧ xs[j * 4 + 3]? = some ov ∧ Own w B lv es[j].zs ∧ OwnOps w B ov es[j].ops
theorem OwnE.kept {w w' : World} {B g : Nat} {xs : List Value} {es : List Ent} (h : OwnE w B xs es) (hb : But g w w') (hs : ∀ (t : TypeId) (sz n : Nat) (v : Value) (ys : List Value), t ≠ 37 → w.ownsRow B t sz v n ys → v.ownBlock = none ∨ v.ownBlock ≠ some g) : OwnE w' B xs es := fun j hj => by
  obtain ⟨lv, ov, a, b, c, d, e, f⟩ := h j hj
  exact ⟨lv, ov, a, b, c, d, World.ownsRow.kept e hb (hs _ _ _ _ _ (by decide) e), World.ownsRow.kept f hb (hs _ _ _ _ _ (by decide) f)⟩
theorem far_own {w : World} {B R : Nat} (hR : R < B) : ∀ (t : TypeId) (sz n : Nat) (v : Value) (ys : List Value), t ≠ 37 → w.ownsRow B t sz v n ys → v.ownBlock = none ∨ v.ownBlock ≠ some R := fun t sz n v ys _ h => by
  rcases hv : v.ownBlock with _ | k
  · exact .inl rfl
  · refine .inr (fun e => ?_)
    have := (World.ownsRow.lt h k hv).1
    injection e with e
    omega
theorem row_own {w : World} {B g n c : Nat} {xs : List Value} (h : w.ownsRow B 37 4 (.slice (some ⟨g, 0, none⟩) n c) n xs) : ∀ (t : TypeId) (sz m : Nat) (v : Value) (ys : List Value), t ≠ 37 → w.ownsRow B t sz v m ys → v.ownBlock = none ∨ v.ownBlock ≠ some g := fun t sz m v ys ht h' => by
  rcases hv : v.ownBlock with _ | k
  · exact .inl rfl
  · refine .inr (fun e => ?_)
    exact two_ne h' h ht k hv (by rw [e]; rfl)
theorem OwnE.setv {w : World} {B k i : Nat} {xs : List Value} {es : List Ent} {e : Ent} {u : Value} (h : OwnE w B xs es) (hi : i < 4)
    (hk : k < es.length) (he : ∀ lv ov, xs[k * 4]? = some (.int .i64 es[k].kd) → xs[k * 4 + 1]? = some lv → xs[k * 4 + 2]? = some (.int .i64 es[k].b) → xs[k * 4 + 3]? = some ov → Own w B lv es[k].zs → OwnOps w B ov es[k].ops →
      ∃ lv' ov', (xs.set (k * 4 + i) u)[k * 4]? = some (.int .i64 e.kd) ∧ (xs.set (k * 4 + i) u)[k * 4 + 1]? = some lv' ∧ (xs.set (k * 4 + i) u)[k * 4 + 2]? = some (.int .i64 e.b) ∧ (xs.set (k * 4 + i) u)[k * 4 + 3]? = some ov' ∧ Own w B lv' e.zs ∧ OwnOps w B ov' e.ops) :
    OwnE w B (xs.set (k * 4 + i) u) (es.set k e) := fun j hj => by
  rw [List.length_set] at hj
  obtain ⟨lv, ov, a, b, c, d, e1, f⟩ := h j hj
  by_cases ej : k = j
  · subst ej
    simp only [List.getElem_set_self]
    exact he lv ov a b c d e1 f
  · simp only [List.getElem_set_ne ej]
    exact ⟨lv, ov, by rw [List.getElem?_set_ne (by omega)]; exact a, by rw [List.getElem?_set_ne (by omega)]; exact b, by rw [List.getElem?_set_ne (by omega)]; exact c, by rw [List.getElem?_set_ne (by omega)]; exact d, e1, f⟩
theorem OwnE.cells {w : World} {B : Nat} {xs : List Value} {es : List Ent} (h : OwnE w B xs es) (hx : xs.length = es.length * 4) : CellsE w w.heap.size xs es := ⟨hx, fun j hj => by
  obtain ⟨lv, ov, a, b, c, d, e, f⟩ := h j hj
  obtain ⟨A1, c1, e1, r1⟩ := e.form
  obtain ⟨A2, c2, e2, r2, _⟩ := f.form
  rw [e1] at b
  rw [e2] at d
  exact ⟨A1, c1, A2, c2, a, b, c, d, r1, r2⟩⟩
theorem pk_end {w w5 : World} {B R g n c k i : Nat} {xs : List Value} {es : List Ent} {e : Ent} {u : Value} (hrow : w5.ownsRow B 37 4 (.slice (some ⟨g, 0, none⟩) n c) n xs) (h : OwnE w5 B xs es) (hn : es.length = n) (hk : k < es.length) (hi : i < 4) (T : But R w w5) (hB : w.heap.size ≤ g)
    (he : ∀ W : World, (∀ lv zs, Own w5 B lv zs → Own W B lv zs) → (∀ ov ops, OwnOps w5 B ov ops → OwnOps W B ov ops) → ∀ lv ov, xs[k * 4]? = some (.int .i64 es[k].kd) → xs[k * 4 + 1]? = some lv → xs[k * 4 + 2]? = some (.int .i64 es[k].b) → xs[k * 4 + 3]? = some ov → Own W B lv es[k].zs → OwnOps W B ov es[k].ops →
      ∃ lv' ov', (xs.set (k * 4 + i) u)[k * 4]? = some (.int .i64 e.kd) ∧ (xs.set (k * 4 + i) u)[k * 4 + 1]? = some lv' ∧ (xs.set (k * 4 + i) u)[k * 4 + 2]? = some (.int .i64 e.b) ∧ (xs.set (k * 4 + i) u)[k * 4 + 3]? = some ov' ∧ Own W B lv' e.zs ∧ OwnOps W B ov' e.ops) :
    Ents (w5.setCell ⟨g, k * 4 + i, none⟩ u) (w5.setCell ⟨g, k * 4 + i, none⟩ u).heap.size (some ⟨g, 0, none⟩) (es.set k e) ∧ But R w (w5.setCell ⟨g, k * 4 + i, none⟩ u) := by
  subst hn
  have hb := but_set w5 g (k * 4 + i) u
  have hs := (World.ownsRow.stored hrow (k * 4 + i) u).1
  have h2 := (h.kept hb (row_own hrow)).setv (u := u) (e := e) hi hk (he _ (fun lv zs hl => World.ownsRow.kept hl hb (row_own hrow _ _ _ _ _ (by decide) hl)) (fun ov ops ho => World.ownsRow.kept ho hb (row_own hrow _ _ _ _ _ (by decide) ho)))
  refine ⟨(h2.cells (by rw [List.length_set, List.length_set]; exact hrow.1)).ents (Nat.le_refl _) hs, T.set_new hB _ _⟩
def PkD (R : Nat) (w : World) (e : Ending) (w' : World) : Prop := ∃ A c es, e = .returned (.slice A (List.length es) c) ∧ Ents w' w'.heap.size A es ∧ es.length ≤ c ∧ es.length ≤ 16 ∧ FitE es ∧ But R w w'
theorem packM_16 (os : List Ob) : (packM os).length ≤ 16 := by
  cases h : makeB os
  · rw [packM_no h]; simp
  · rw [packM_len h]; exact (makeB_iff.1 h).1
theorem FitE.set_ {es : List Ent} (h : FitE es) (k : Nat) {e : Ent} (he : e.zs.length ≤ 1048576 ∧ e.ops.length ≤ 1048576 ∧ Fit2 e.ops ∧ tsz e.ops e.ops.length ≤ 1048576 ∧ -9223372036854775808 ≤ e.b ∧ e.b ≤ 9223372036854775807) : FitE (es.set k e) := fun p hp => by
  rcases List.mem_or_eq_of_mem_set hp with hp | rfl
  · exact h p hp
  · exact he

set_option maxRecDepth 100000 in
set_option maxHeartbeats 4000000 in
theorem l91Pack_any (R : Nat) (w : World) (hR : Rd w R 0) :
    Calls Try.prog 62 #[.pointer (some ⟨R, 0, none⟩)] w (PkD R w) := by
  have hRl := hR.lt
  go_enter Try.func62, Try.ntmps62
  go_wp2_with fail
  refine (l91List_any R 0 w hR (by omega)).mono ?_
  rintro e w1 ⟨v1, os, rfl, o1, hn17, hmild, R1, T1⟩
  obtain ⟨A1, c1, rfl, h1, _⟩ := o1.form3
  have hR1 := R1.lt
  have hww1 : w.heap.size ≤ w1.heap.size := T1.size
  go_wp2_with fail
  refine (specPackMake_any A1 c1 os w1 h1 (by omega) hmild.fit).mono ?_
  rintro e w2 ⟨v2, rfl, o2, b2⟩
  have R2 := R1.below b2 hR1
  have hs12 : w1.heap.size ≤ w2.heap.size := b2.size
  have T2 := T1.trans (.of_below b2)
  obtain ⟨A2, c2, rfl, e2, hc2⟩ := o2.form
  have h16 := packM_16 os
  have fit := packM_fit os
  obtain ⟨es, hes⟩ : ∃ es, packM os = es := ⟨_, rfl⟩
  rw [hes] at o2 e2 hc2 h16 fit ⊢
  clear hes o1 h1 hmild R1 T1 b2 hR
  by_cases h0 : es.length = 0
  · obtain rfl := List.length_eq_zero_iff.1 h0
    clear h0
    go_wp2_with fail
    go_ret
    exact ⟨A2, c2, [], rfl, e2, hc2, by simp, fit, T2⟩
  · have e0 : (((es.length : Nat) : Int) == 0) = false := by rw [beq_eq_false_iff_ne]; omega
    have hnp : 0 < es.length := by omega
    clear h0
    obtain ⟨xs, ps, hrow, hin1, hin2, -, -⟩ := o2
    have hoe : OwnE w2 w1.heap.size xs es := fun j hj => by
      obtain ⟨a, b, c, d, e, f⟩ := hin2 j hj (by omega)
      exact ⟨_, _, a, b, c, d, e, f⟩
    obtain ⟨g, cc, rfl, hgB⟩ : ∃ g, ∃ cc : Nat, A2 = some ⟨g, 0, none⟩ ∧ w1.heap.size ≤ g := by
      rcases hrow.2 with ⟨hv, h00⟩ | ⟨g, cap, cur, hv, hgB, _⟩
      · omega
      · injection hv with hv _ _
        exact ⟨g, cap, hv, hgB⟩
    have hgw : w1.heap.size ≤ g := hgB
    clear hin1 hin2 e2
    go_wp2_with fail
    refine (pick_any R (0 + 40000) es.length w2 R2 (by omega) (by omega) (by omega)).mono ?_
    rintro e w3 ⟨x, rfl, x0, x1, R3, T3⟩
    obtain ⟨k, rfl⟩ : ∃ k : Nat, x = (k : Int) := ⟨x.toNat, by omega⟩
    have hk : k < es.length := by omega
    have hrow3 := World.ownsRow.kept hrow T3 (.inr (by show some g ≠ some R; intro e; injection e with e; omega))
    have hoe3 := hoe.kept T3 (far_own hR1)
    have T23 := T2.trans T3
    have hs13 : w1.heap.size ≤ w3.heap.size := Nat.le_trans hs12 T3.size
    clear hrow hoe T2 T3
    go_wp2_with fail
    refine (pick_any R (0 + 40000 + 1) 12 w3 R3 (by omega) (by omega) (by omega)).mono ?_
    rintro e w4 ⟨y, rfl, y0, y1, R4, T4⟩
    have hrow4 := World.ownsRow.kept hrow3 T4 (.inr (by show some g ≠ some R; intro e; injection e with e; omega))
    have hoe4 := hoe3.kept T4 (far_own hR1)
    have T24 := T23.trans T4
    have hz14 : w1.heap.size ≤ w4.heap.size := Nat.le_trans hs13 T4.size
    clear hrow3 hoe3 T23 T4
    have hxl := hrow4.1
    have k0 : 0 ≤ (k : Int) := by omega
    have k1 : (k : Int) < (es.length : Int) := by omega
    have hwg : w.heap.size ≤ g := Nat.le_trans hww1 hgw
    by_cases hy0 : y = 0
    · subst hy0
      go_wp2_with fail
      refine (pick_any R (0 + 40000 + 1 + 1) ((es.length : Int) + 2) w4 R4 (by omega) (by omega) (by omega)).mono ?_
      rintro e w5 ⟨z, rfl, z0, z1, R5, T5⟩
      have hrow5 := World.ownsRow.kept hrow4 T5 (.inr (by show some g ≠ some R; intro e; injection e with e; omega))
      have hoe5 := hoe4.kept T5 (far_own hR1)
      have T25 := T24.trans T5
      obtain ⟨_, _, a0, a1, a2, a3, _, _⟩ := hoe5 k hk
      have hcl := (World.ownsRow.cellAt hrow5 (k * 4 + 2) (by omega)).trans a2
      have hfz := World.ownsRow.frozenAt hrow5 (k * 4 + 2)
      obtain ⟨E1, E2⟩ := pk_end (i := 2) (u := .int .i64 (z - 1)) (e := ⟨es[k].kd, es[k].zs, z - 1, es[k].ops⟩) hrow5 hoe5 rfl hk (by omega) T25 hwg (fun W _ _ lv ov a b c d e f => ⟨lv, ov, by rw [List.getElem?_set_ne (by omega)]; exact a, by rw [List.getElem?_set_ne (by omega)]; exact b, by rw [List.getElem?_set_self (by omega)], by rw [List.getElem?_set_ne (by omega)]; exact d, e, f⟩)
      have F := fit.set_ k (e := ⟨es[k].kd, es[k].zs, z - 1, es[k].ops⟩) (by obtain ⟨f1, f2, f3, f4, f5, f6⟩ := fit _ (List.getElem_mem hk); exact ⟨f1, f2, f3, f4, by show _ ≤ z - 1; omega, by show z - 1 ≤ _; omega⟩)
      clear hrow4 hoe4 T24 T5 hrow5 hoe5 T25 a0 a1 a2 a3
      go_wp2_with fail
      go_ret
      exact ⟨_, c2, _, by rw [List.length_set]; rfl, E1, by rw [List.length_set]; exact hc2, by rw [List.length_set]; exact h16, F, E2⟩
    · have e3 : (y == 0) = false := by rw [beq_eq_false_iff_ne]; exact hy0
      clear hy0
      by_cases hy1 : y = 1
      · subst hy1
        go_wp2_with fail
        refine (l91Text_any R (0 + 40000 + 1 + 1) w4 R4 (by omega)).mono ?_
        rintro e w5 ⟨t, rfl, ht9, R5, T5⟩
        have hz5 : w1.heap.size ≤ w4.heap.size := hz14
        go_wp2_with fail
        refine (l91Ops_any R (0 + 40000 + 1 + 1 + 20) t w5 R5 (by omega) ht9).mono ?_
        rintro e w6 ⟨v7, ops, rfl, o7, hol, htiny, R6, T6⟩
        have hrow6 := World.ownsRow.kept (World.ownsRow.kept hrow4 T5 (.inr (by show some g ≠ some R; intro e; injection e with e; omega))) T6 (.inr (by show some g ≠ some R; intro e; injection e with e; omega))
        have hoe6 := (hoe4.kept T5 (far_own hR1)).kept T6 (far_own hR1)
        have T26 := (T24.trans T5).trans T6
        have o7b := o7.base (B' := w1.heap.size) (Nat.le_trans hz5 T5.size)
        obtain ⟨A7, c7, rfl, _, _⟩ := o7.form
        obtain ⟨_, _, a0, a1, a2, a3, _, _⟩ := hoe6 k hk
        have hcl := (World.ownsRow.cellAt hrow6 (k * 4 + 3) (by omega)).trans a3
        have hfz := World.ownsRow.frozenAt hrow6 (k * 4 + 3)
        obtain ⟨E1, E2⟩ := pk_end (i := 3) (u := .slice A7 ops.length c7) (e := ⟨es[k].kd, es[k].zs, es[k].b, ops⟩) hrow6 hoe6 rfl hk (by omega) T26 hwg (fun W _ ho lv ov a b c d e f => ⟨lv, _, by rw [List.getElem?_set_ne (by omega)]; exact a, by rw [List.getElem?_set_ne (by omega)]; exact b, by rw [List.getElem?_set_ne (by omega)]; exact c, by rw [List.getElem?_set_self (by omega)], e, ho _ _ o7b⟩)
        have F := fit.set_ k (e := ⟨es[k].kd, es[k].zs, es[k].b, ops⟩) (by obtain ⟨f1, f2, f3, f4, f5, f6⟩ := fit _ (List.getElem_mem hk); exact ⟨f1, by show ops.length ≤ _; omega, htiny.fit, by have := htiny.sum; show tsz ops ops.length ≤ _; omega, f5, f6⟩)
        clear hrow4 hoe4 T24 T5 T6 hrow6 hoe6 T26 a0 a1 a2 a3 o7b
        go_wp2_with fail
        go_ret
        exact ⟨_, c2, _, by rw [List.length_set]; rfl, E1, by rw [List.length_set]; exact hc2, by rw [List.length_set]; exact h16, F, E2⟩
      · have e4 : (y == 1) = false := by rw [beq_eq_false_iff_ne]; exact hy1
        clear hy1
        by_cases hy2 : y = 2
        · subst hy2
          go_wp2_with fail
          refine (pick_any R (0 + 40000 + 1 + 1) 5 w4 R4 (by omega) (by omega) (by omega)).mono ?_
          rintro e w5 ⟨z, rfl, z0, z1, R5, T5⟩
          have hrow5 := World.ownsRow.kept hrow4 T5 (.inr (by show some g ≠ some R; intro e; injection e with e; omega))
          have hoe5 := hoe4.kept T5 (far_own hR1)
          have T25 := T24.trans T5
          obtain ⟨_, _, a0, a1, a2, a3, _, _⟩ := hoe5 k hk
          have hcl := (World.ownsRow.cellAt hrow5 (k * 4) (by omega)).trans a0
          have hfz := World.ownsRow.frozenAt hrow5 (k * 4)
          obtain ⟨E1, E2⟩ := pk_end (i := 0) (u := .int .i64 z) (e := ⟨z, es[k].zs, es[k].b, es[k].ops⟩) hrow5 hoe5 rfl hk (by omega) T25 hwg (fun W _ _ lv ov a b c d e f => ⟨lv, ov, by rw [Nat.add_zero, List.getElem?_set_self (by omega)], by rw [List.getElem?_set_ne (by omega)]; exact b, by rw [List.getElem?_set_ne (by omega)]; exact c, by rw [List.getElem?_set_ne (by omega)]; exact d, e, f⟩)
          have F := fit.set_ k (e := ⟨z, es[k].zs, es[k].b, es[k].ops⟩) (by obtain ⟨f1, f2, f3, f4, f5, f6⟩ := fit _ (List.getElem_mem hk); exact ⟨f1, f2, f3, f4, f5, f6⟩)
          clear hrow4 hoe4 T24 T5 hrow5 hoe5 T25 a0 a1 a2 a3
          go_wp2_with fail
          go_ret
          exact ⟨_, c2, _, by rw [List.length_set]; rfl, E1, by rw [List.length_set]; exact hc2, by rw [List.length_set]; exact h16, F, E2⟩
        · have e5 : (y == 2) = false := by rw [beq_eq_false_iff_ne]; exact hy2
          have E := (hoe4.cells hxl).ents (Nat.le_refl _) hrow4
          clear hy2
          go_wp2_with fail
          go_ret
          exact ⟨_, c2, es, rfl, E, hc2, h16, fit, T24⟩
/-- A pack has been drawn. -/
def PkO (w : World) (e : Ending) (w' : World) : Prop := ∃ A c es, e = .returned (.slice A (List.length es) c) ∧ Ents w' w'.heap.size A es ∧ es.length ≤ c ∧ es.length ≤ 16 ∧ FitE es ∧ Below w.heap.size w w'
theorem DrawPackSum_any (A : Option Addr) (c : Nat) (bs : List Int) (w : World) (h : Code_ w A c bs) :
    Calls Try.prog 29 #[.slice A bs.length c] w (PkO w) := by
  go_enter Try.func29, Try.ntmps29
  go_wp2_with fail
  refine (l6Open_any A c bs _ h).mono ?_
  rintro e w1 ⟨rfl, R1, b1⟩
  go_wp2_with fail
  refine (l91Pack_any w.heap.size w1 R1).mono ?_
  rintro e w2 ⟨A2, c2, es, rfl, h2, hc, hl, hf, T2⟩
  have b2 := b1.trans (T2.below b1.size (Nat.le_refl _))
  go_wp2
  go_ret
  exact ⟨A2, c2, es, rfl, h2, hc, hl, hf, b2⟩
theorem DrawPackObjects_any (A : Option Addr) (c : Nat) (bs : List Int) (w : World) (h : Code_ w A c bs) :
    Calls Try.prog 33 #[.slice A bs.length c] w (PkO w) := by
  go_enter Try.func33, Try.ntmps33
  go_wp2_with fail
  refine (l6Open_any A c bs _ h).mono ?_
  rintro e w1 ⟨rfl, R1, b1⟩
  go_wp2_with fail
  refine (l91Pack_any w.heap.size w1 R1).mono ?_
  rintro e w2 ⟨A2, c2, es, rfl, h2, hc, hl, hf, T2⟩
  have b2 := b1.trans (T2.below b1.size (Nat.le_refl _))
  go_wp2
  go_ret
  exact ⟨A2, c2, es, rfl, h2, hc, hl, hf, b2⟩
end Go.Proofs.Ytpcfabgjdefkiaa
