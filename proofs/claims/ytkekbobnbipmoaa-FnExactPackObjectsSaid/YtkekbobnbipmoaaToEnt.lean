/-
  Walks: entries copied and compared by the laws' own helpers; the model's PackDepth.
-/
import Derived.Test.YtkekbobnbipmoaaHelpE
import Derived.Test.YtkekbobnbipmoaaOwnEnt
import Derived.Test.YtkekbobnbipmoaaDepS
import Derived.Deep.RegionHeld3
import Derived.Deep.Cut
namespace Go.Proofs.Ytkekbobnbipmoaa
open Go.RowKit Wo Pu

/-- Block g is just these four cells. -/
def Blk4 (w : World) (g : Nat) (t : TypeId) (v0 v1 v2 v3 : Value) : Prop := w.heap[g]? = some (.cells #[v0, v1, v2, v3] t (0, 0))
section
variable {w w' : World} {g : Nat} {t : TypeId} {v0 v1 v2 v3 : Value}
theorem Blk4.lt (h : Blk4 w g t v0 v1 v2 v3) : g < w.heap.size := by
  rcases Nat.lt_or_ge g w.heap.size with h1 | h1
  · exact h1
  · unfold Blk4 at h; rw [Array.getElem?_eq_none h1] at h; cases h
theorem Blk4.reads (h : Blk4 w g t v0 v1 v2 v3) : w.cell? ⟨g, 0, none⟩ = some v0 ∧ w.cell? ⟨g, 1, none⟩ = some v1 ∧ w.cell? ⟨g, 2, none⟩ = some v2 ∧ w.cell? ⟨g, 3, none⟩ = some v3 ∧ ∀ o, w.frozen? ⟨g, o, none⟩ = false := by
  unfold Blk4 at h
  exact ⟨by simp [World.cell?, h], by simp [World.cell?, h], by simp [World.cell?, h], by simp [World.cell?, h], fun o => by simp [World.frozen?, h]⟩
theorem Blk4.new_ (w : World) (t : TypeId) (v0 v1 v2 v3 : Value) : Blk4 (w.alloc (.cells #[v0, v1, v2, v3] t)) w.heap.size t v0 v1 v2 v3 := heap_alloc_new w _
theorem Blk4.later (h : Blk4 w g t v0 v1 v2 v3) (hb : Below w.heap.size w w') : Blk4 w' g t v0 v1 v2 v3 := (hb.block g h.lt).trans h
theorem Blk4.alloc (h : Blk4 w g t v0 v1 v2 v3) (o : Obj) : Blk4 (w.alloc o) g t v0 v1 v2 v3 := h.later ((Below.refl _ _).alloc (Nat.le_refl _) o)
theorem Blk4.far (h : Blk4 w g t v0 v1 v2 v3) {p : Addr} (hp : g ≠ p.block) (u : Value) : Blk4 (w.setCell p u) g t v0 v1 v2 v3 := (Below.heap_setCell w p u g hp).trans h
theorem Blk4.set0 (h : Blk4 w g t v0 v1 v2 v3) (u : Value) : Blk4 (w.setCell ⟨g, 0, none⟩ u) g t u v1 v2 v3 := by unfold Blk4 at h ⊢; simp [World.setCell, Array.getElem?_modify, h]
theorem Blk4.set1 (h : Blk4 w g t v0 v1 v2 v3) (u : Value) : Blk4 (w.setCell ⟨g, 1, none⟩ u) g t v0 u v2 v3 := by unfold Blk4 at h ⊢; simp [World.setCell, Array.getElem?_modify, h]
theorem Blk4.set2 (h : Blk4 w g t v0 v1 v2 v3) (u : Value) : Blk4 (w.setCell ⟨g, 2, none⟩ u) g t v0 v1 u v3 := by unfold Blk4 at h ⊢; simp [World.setCell, Array.getElem?_modify, h]
theorem Blk4.set3 (h : Blk4 w g t v0 v1 v2 v3) (u : Value) : Blk4 (w.setCell ⟨g, 3, none⟩ u) g t v0 v1 v2 u := by unfold Blk4 at h ⊢; simp [World.setCell, Array.getElem?_modify, h]
end
/-- Behind it: an entry whose parts are of the call's own. -/
def NewEnt (en : Ent) (w : World) (e : Ending) (w' : World) : Prop :=
  ∃ g1 g2, e = .returned (.agg #[.int .i64 en.kd, .slice (some ⟨g1, 0, none⟩) en.zs.length en.zs.length, .int .i64 en.b, .slice (some ⟨g2, 0, none⟩) en.ops.length en.ops.length]) ∧ Mine w' w.heap.size 3 1 g1 en.zs.length (ints en.zs) ∧
    Mine w' w.heap.size 99 3 g2 en.ops.length (opsV en.ops) ∧ Below w.heap.size w w'
theorem Mine.lt_ {w : World} {B g n : Nat} {e : TypeId} {sz : Nat} {xs : List Value} (h : Mine w B e sz g n xs) : B ≤ g ∧ g < w.heap.size := World.ownsRow.lt h g rfl
set_option maxHeartbeats 4000000 in
theorem toPackEntry_any (A : Option Addr) (c : Nat) (A' : Option Addr) (c' : Nat) (en : Ent) (w : World) (hr : Row w w.heap.size A (ints en.zs)) (hr' : Row w w.heap.size A' (opsV en.ops)) (h1 : en.zs.length ≤ 1048576) (h2 : en.ops.length ≤ 1048576) :
    Calls Try.prog 54 #[.agg #[.int .i64 en.kd, .slice A en.zs.length c, .int .i64 en.b, .slice A' en.ops.length c']] w (NewEnt en w) := by
  have b1 := (Below.refl w.heap.size w).alloc (Nat.le_refl _) (.cells #[.int .i64 en.kd, .slice A en.zs.length c, .int .i64 en.b, .slice A' en.ops.length c'] 79)
  have b2 := b1.alloc (by simp) (.cells #[.int .i64 0, .slice none 0 0, .int .i64 0, .slice none 0 0] 33)
  have b3 := b2.alloc (by simp; omega) (.cells #[.int .i64 en.kd, .slice none 0 0, .int .i64 0, .slice none 0 0] 33)
  have P3 := ((Blk4.new_ w 79 (.int .i64 en.kd) (.slice A en.zs.length c) (.int .i64 en.b) (.slice A' en.ops.length c')).alloc (.cells #[.int .i64 0, .slice none 0 0, .int .i64 0, .slice none 0 0] 33)).alloc (.cells #[.int .i64 en.kd, .slice none 0 0, .int .i64 0, .slice none 0 0] 33)
  have R3 := (Blk4.new_ (w.alloc (.cells #[.int .i64 en.kd, .slice A en.zs.length c, .int .i64 en.b, .slice A' en.ops.length c'] 79)) 33 (.int .i64 0) (.slice none 0 0) (.int .i64 0) (.slice none 0 0)).alloc (.cells #[.int .i64 en.kd, .slice none 0 0, .int .i64 0, .slice none 0 0] 33)
  have O3 := Blk4.new_ ((w.alloc (.cells #[.int .i64 en.kd, .slice A en.zs.length c, .int .i64 en.b, .slice A' en.ops.length c'] 79)).alloc (.cells #[.int .i64 0, .slice none 0 0, .int .i64 0, .slice none 0 0] 33)) 33 (.int .i64 en.kd) (.slice none 0 0) (.int .i64 0) (.slice none 0 0)
  have z3 : (((w.alloc (.cells #[.int .i64 en.kd, .slice A en.zs.length c, .int .i64 en.b, .slice A' en.ops.length c'] 79)).alloc (.cells #[.int .i64 0, .slice none 0 0, .int .i64 0, .slice none 0 0] 33)).alloc (.cells #[.int .i64 en.kd, .slice none 0 0, .int .i64 0, .slice none 0 0] 33)).heap.size = w.heap.size + 3 := by simp
  simp only [World.size_alloc] at R3 O3
  clear b1 b2
  go_enter Try.func54, Try.ntmps54
  go_wp2_with fail
  refine (toIntS_any w.heap.size A c en.zs _ (hr.below b3 (Nat.le_refl _)) b3.size h1).mono ?_
  rintro e w4 ⟨g1, rfl, m4, hb4⟩
  have b4 := b3.trans (hb4.mono b3.size)
  have P4 := P3.later hb4
  have R4 := R3.later hb4
  have O4 := O3.later hb4
  have z4 := hb4.size
  rw [z3] at z4 m4
  have l4 := m4.lt_
  clear P3 R3 O3 b3 hb4 z3
  obtain ⟨p0, p1, p2, p3, -⟩ := id P4.reads
  obtain ⟨o0, o1, o2, o3, of⟩ := id O4.reads
  have of1 := of 1
  have of2 := of 2
  clear of
  have hw : w.heap.size ≤ w4.heap.size := by omega
  have O5 := (O4.set1 (.slice (some ⟨g1, 0, none⟩) en.zs.length en.zs.length)).set2 (.int .i64 en.b)
  have P5 := (P4.far (p := ⟨w.heap.size + 1 + 1, 1, none⟩) (by simp; omega) (.slice (some ⟨g1, 0, none⟩) en.zs.length en.zs.length)).far (p := ⟨w.heap.size + 1 + 1, 2, none⟩) (by simp; omega) (.int .i64 en.b)
  have R5 := (R4.far (p := ⟨w.heap.size + 1 + 1, 1, none⟩) (by simp) (.slice (some ⟨g1, 0, none⟩) en.zs.length en.zs.length)).far (p := ⟨w.heap.size + 1 + 1, 2, none⟩) (by simp) (.int .i64 en.b)
  have m5 := (m4.far (p := ⟨w.heap.size + 1 + 1, 1, none⟩) (by simp; omega) (.slice (some ⟨g1, 0, none⟩) en.zs.length en.zs.length)).far (p := ⟨w.heap.size + 1 + 1, 2, none⟩) (by simp; omega) (.int .i64 en.b)
  have b5 := (b4.setCell (p := ⟨w.heap.size + 1 + 1, 1, none⟩) (by show w.heap.size ≤ w.heap.size + 1 + 1; omega) (.slice (some ⟨g1, 0, none⟩) en.zs.length en.zs.length)).setCell (p := ⟨w.heap.size + 1 + 1, 2, none⟩) (by show w.heap.size ≤ w.heap.size + 1 + 1; omega) (.int .i64 en.b)
  have z5 : ((w4.setCell ⟨w.heap.size + 1 + 1, 1, none⟩ (.slice (some ⟨g1, 0, none⟩) en.zs.length en.zs.length)).setCell ⟨w.heap.size + 1 + 1, 2, none⟩ (.int .i64 en.b)).heap.size = w4.heap.size := by simp [World.setCell]
  go_upto_region 5 with fail
  clear O4 P4 R4 m4 b4 p0 p1 p2 p3 o0 o1 o2 o3 of1 of2
  generalize (w4.setCell ⟨w.heap.size + 1 + 1, 1, none⟩ (.slice (some ⟨g1, 0, none⟩) en.zs.length en.zs.length)).setCell ⟨w.heap.size + 1 + 1, 2, none⟩ (.int .i64 en.b) = W5 at *
  obtain ⟨p0, p1, p2, p3, -⟩ := id P5.reads
  go_wp2_with fail
  refine (toOpS_any A' c' en.ops W5 ((hr'.below b5 (Nat.le_refl _)).more b5.size) h2).mono ?_
  rintro e w6 ⟨g2, rfl, m6, hb6⟩
  have b6 := b5.trans (hb6.mono b5.size)
  have R6 := R5.later hb6
  have O6 := O5.later hb6
  have n6 := m5.below hb6 (by omega)
  have l6 := m6.lt_
  have z6 := hb6.size
  clear P5 R5 O5 b5 hb6 p0 p1 p2 p3 m5
  obtain ⟨o0, o1, o2, o3, of⟩ := id O6.reads
  obtain ⟨r0, r1, r2, r3, rf⟩ := id R6.reads
  have of3 := of 3
  have rf0 := rf 0
  have rf1 := rf 1
  have rf2 := rf 2
  have rf3 := rf 3
  clear of rf
  go_wp2_with fail
  have T9 := ((((R6.far (p := ⟨w.heap.size + 1 + 1, 3, none⟩) (by simp) (.slice (some ⟨g2, 0, none⟩) en.ops.length en.ops.length)).set0 (.int .i64 en.kd)).set1 (.slice (some ⟨g1, 0, none⟩) en.zs.length en.zs.length)).set2 (.int .i64 en.b)).set3 (.slice (some ⟨g2, 0, none⟩) en.ops.length en.ops.length)
  obtain ⟨t0, t1, t2, t3, -⟩ := T9.reads
  have n9 := (((((n6.far (p := ⟨w.heap.size + 1 + 1, 3, none⟩) (by simp; omega) (.slice (some ⟨g2, 0, none⟩) en.ops.length en.ops.length)).far (p := ⟨w.heap.size + 1, 0, none⟩) (by simp; omega) (.int .i64 en.kd)).far (p := ⟨w.heap.size + 1, 1, none⟩) (by simp; omega) (.slice (some ⟨g1, 0, none⟩) en.zs.length en.zs.length)).far (p := ⟨w.heap.size + 1, 2, none⟩) (by simp; omega) (.int .i64 en.b)).far (p := ⟨w.heap.size + 1, 3, none⟩) (by simp; omega) (.slice (some ⟨g2, 0, none⟩) en.ops.length en.ops.length)).base (B' := w.heap.size) (by omega)
  have m9 := (((((m6.far (p := ⟨w.heap.size + 1 + 1, 3, none⟩) (by simp; omega) (.slice (some ⟨g2, 0, none⟩) en.ops.length en.ops.length)).far (p := ⟨w.heap.size + 1, 0, none⟩) (by simp; omega) (.int .i64 en.kd)).far (p := ⟨w.heap.size + 1, 1, none⟩) (by simp; omega) (.slice (some ⟨g1, 0, none⟩) en.zs.length en.zs.length)).far (p := ⟨w.heap.size + 1, 2, none⟩) (by simp; omega) (.int .i64 en.b)).far (p := ⟨w.heap.size + 1, 3, none⟩) (by simp; omega) (.slice (some ⟨g2, 0, none⟩) en.ops.length en.ops.length)).base (B' := w.heap.size) (by omega)
  have b9 := ((((b6.setCell (p := ⟨w.heap.size + 1 + 1, 3, none⟩) (by show w.heap.size ≤ w.heap.size + 1 + 1; omega) (.slice (some ⟨g2, 0, none⟩) en.ops.length en.ops.length)).setCell (p := ⟨w.heap.size + 1, 0, none⟩) (Nat.le_succ _) (.int .i64 en.kd)).setCell (p := ⟨w.heap.size + 1, 1, none⟩) (Nat.le_succ _) (.slice (some ⟨g1, 0, none⟩) en.zs.length en.zs.length)).setCell (p := ⟨w.heap.size + 1, 2, none⟩) (Nat.le_succ _) (.int .i64 en.b)).setCell (p := ⟨w.heap.size + 1, 3, none⟩) (Nat.le_succ _) (.slice (some ⟨g2, 0, none⟩) en.ops.length en.ops.length)
  exact bodyPost_ret (v := .agg #[.int .i64 en.kd, .slice (some ⟨g1, 0, none⟩) en.zs.length en.zs.length, .int .i64 en.b, .slice (some ⟨g2, 0, none⟩) en.ops.length en.ops.length]) (by simp [results, Try.results54, go_sem, t0, t1, t2, t3]) rfl ⟨g1, g2, rfl, n9, m9, b9⟩

/-- Among the cells xs the j-th entry is en; its parts are slices of the call's own. -/
def EnIn (w : World) (B : Nat) (xs : List Value) (j : Nat) (en : Ent) : Prop :=
  ∃ g1 g2, xs[j * 4]? = some (.int .i64 en.kd) ∧ xs[j * 4 + 1]? = some (.slice (some ⟨g1, 0, none⟩) en.zs.length en.zs.length) ∧ xs[j * 4 + 2]? = some (.int .i64 en.b) ∧ xs[j * 4 + 3]? = some (.slice (some ⟨g2, 0, none⟩) en.ops.length en.ops.length) ∧
    Mine w B 3 1 g1 en.zs.length (ints en.zs) ∧ Mine w B 99 3 g2 en.ops.length (opsV en.ops)
/-- The new list so far: n places in block g, the first k filled with the first of es. -/
def FilledE (w : World) (B g : Nat) (es : List Ent) (k : Nat) : Prop := ∃ xs, Mine w B 33 4 g es.length xs ∧ ∀ j (hj : j < es.length), j < k → EnIn w B xs j es[j]
theorem FilledE.below {w w' : World} {B g k : Nat} {es : List Ent} (h : FilledE w B g es k) (hb : Below w.heap.size w w') : FilledE w' B g es k := by
  obtain ⟨xs, hm, hx⟩ := h
  refine ⟨xs, hm.below hb hm.lt_.2, fun j hj hjk => ?_⟩
  obtain ⟨g1, g2, h0, h1, h2, h3, h4, h5⟩ := hx j hj hjk
  exact ⟨g1, g2, h0, h1, h2, h3, h4.below hb h4.lt_.2, h5.below hb h5.lt_.2⟩
theorem FilledE.cells4 {w : World} {B g k k' : Nat} {es : List Ent} (h : FilledE w B g es k') (hk : k < es.length) :
    (∀ d, d < 4 → ∃ v, w.cell? ⟨g, k * 4 + d, none⟩ = some v) ∧ (∀ o, w.frozen? ⟨g, o, none⟩ = false) ∧ B ≤ g := by
  obtain ⟨xs, hm, _⟩ := h
  have hlen := hm.len
  exact ⟨fun d hd => ⟨_, (World.ownsRow.cellAt hm _ (by omega)).trans (List.getElem?_eq_getElem (by omega))⟩, fun o => World.ownsRow.frozenAt hm o, hm.lt_.1⟩
def put4 (w : World) (g k : Nat) (v0 v1 v2 v3 : Value) : World := (((w.setCell ⟨g, k * 4, none⟩ v0).setCell ⟨g, k * 4 + 1, none⟩ v1).setCell ⟨g, k * 4 + 2, none⟩ v2).setCell ⟨g, k * 4 + 3, none⟩ v3
theorem FilledE.step {w : World} {B g k g1 g2 : Nat} {es : List Ent} (h : FilledE w B g es k) (hk : k < es.length) (hl : Mine w B 3 1 g1 es[k].zs.length (ints es[k].zs)) (ho : Mine w B 99 3 g2 es[k].ops.length (opsV es[k].ops)) :
    FilledE (put4 w g k (.int .i64 es[k].kd) (.slice (some ⟨g1, 0, none⟩) es[k].zs.length es[k].zs.length) (.int .i64 es[k].b) (.slice (some ⟨g2, 0, none⟩) es[k].ops.length es[k].ops.length)) B g es (k + 1) := by
  obtain ⟨xs, hm, hx⟩ := h
  have hlen := hm.len
  have hlt : k * 4 + 3 < xs.length := by omega
  unfold put4
  refine ⟨(((xs.set (k * 4) (.int .i64 es[k].kd)).set (k * 4 + 1) (.slice (some ⟨g1, 0, none⟩) es[k].zs.length es[k].zs.length)).set (k * 4 + 2) (.int .i64 es[k].b)).set (k * 4 + 3) (.slice (some ⟨g2, 0, none⟩) es[k].ops.length es[k].ops.length), (((hm.set_ _ _).set_ _ _).set_ _ _).set_ _ _, fun j hj hjk => ?_⟩
  have far : ∀ {n g2' sz : Nat} {t : TypeId} {ys : List Value}, t ≠ 33 → Mine w B t sz g2' n ys → Mine ((((w.setCell ⟨g, k * 4, none⟩ (.int .i64 es[k].kd)).setCell ⟨g, k * 4 + 1, none⟩ (.slice (some ⟨g1, 0, none⟩) es[k].zs.length es[k].zs.length)).setCell ⟨g, k * 4 + 2, none⟩ (.int .i64 es[k].b)).setCell ⟨g, k * 4 + 3, none⟩ (.slice (some ⟨g2, 0, none⟩) es[k].ops.length es[k].ops.length)) B t sz g2' n ys := fun {n g2' sz t ys} ht h2 => by
    have hne := h2.type_ne hm ht
    exact (((h2.far hne _).far hne _).far hne _).far hne _
  by_cases e : j = k
  · subst e
    refine ⟨g1, g2, ?_, ?_, ?_, ?_, far (by decide) hl, far (by decide) ho⟩ <;> simp [List.getElem?_set] <;> omega
  · obtain ⟨g1', g2', h0, h1, h2, h3, h4, h5⟩ := hx j hj (by omega)
    have t : ∀ d, d < 4 → ((((xs.set (k * 4) (.int .i64 es[k].kd)).set (k * 4 + 1) (.slice (some ⟨g1, 0, none⟩) es[k].zs.length es[k].zs.length)).set (k * 4 + 2) (.int .i64 es[k].b)).set (k * 4 + 3) (.slice (some ⟨g2, 0, none⟩) es[k].ops.length es[k].ops.length))[j * 4 + d]? = xs[j * 4 + d]? := fun d hd => by
      rw [List.getElem?_set_ne (by omega), List.getElem?_set_ne (by omega), List.getElem?_set_ne (by omega), List.getElem?_set_ne (by omega)]
    exact ⟨g1', g2', by rw [show j * 4 = j * 4 + 0 from rfl, t 0 (by omega)]; exact h0, by rw [t 1 (by omega)]; exact h1, by rw [t 2 (by omega)]; exact h2, by rw [t 3 (by omega)]; exact h3, far (by decide) h4, far (by decide) h5⟩
theorem FilledE.ents {w : World} {B g : Nat} {es : List Ent} (h : FilledE w B g es es.length) : Ents w w.heap.size (some ⟨g, 0, none⟩) es := by
  obtain ⟨xs, hm, hx⟩ := h
  have hlen := hm.len
  refine .inr ⟨_, rfl, hm.lt_.2, fun i hi => ?_⟩
  obtain ⟨g1, g2, h0, h1, h2, h3, h4, h5⟩ := hx i hi hi
  have rd : ∀ d, d < 4 → w.cell? ⟨g, i * 4 + d, none⟩ = xs[i * 4 + d]? := fun d hd => World.ownsRow.cellAt hm _ (by omega)
  have e : ∀ d, (((⟨g, 0, none⟩ : Addr).add (i * 4)).add d) = ⟨g, i * 4 + d, none⟩ := fun d => by
    rw [add_lit]
    unfold Addr.add
    split
    · rename_i h; subst h; rfl
    · rfl
  refine ⟨some ⟨g1, 0, none⟩, es[i].zs.length, some ⟨g2, 0, none⟩, es[i].ops.length, ?_, ?_, ?_, ?_, h4.row, h5.row⟩
  · rw [add_lit]; exact (rd 0 (by omega)).trans h0
  · rw [e]; exact (rd 1 (by omega)).trans h1
  · rw [e]; exact (rd 2 (by omega)).trans h2
  · rw [e]; exact (rd 3 (by omega)).trans h3
/-- Behind it: a new list of entries. -/
def NewEnts (es : List Ent) (w : World) (e : Ending) (w' : World) : Prop := ∃ g, e = .returned (.slice (some ⟨g, 0, none⟩) es.length es.length) ∧ FilledE w' w.heap.size g es es.length ∧ Below w.heap.size w w'
set_option maxHeartbeats 4000000 in
theorem toPackEntryS_any (A : Option Addr) (c : Nat) (es : List Ent) (w : World) (h : Ents w w.heap.size A es) (hn : es.length ≤ 1048576) (hs : ∀ e ∈ es, e.zs.length ≤ 1048576 ∧ e.ops.length ≤ 1048576) :
    Calls Try.prog 24 #[.slice A es.length c] w (NewEnts es w) := by
  obtain ⟨i0, hi, hz0, hz1, hz2⟩ := info_of info_ent
  go_enter Try.func24, Try.ntmps24
  go_wp2_with (at_make; go_must (refine wpList_make_full _ rfl (.tmp 6) (.tmp 6) 25 rfl w.heap.size 33 i0 (.agg #[.int .i64 0, .slice none 0 0, .int .i64 0, .slice none 0 0]) 4 Try.underlying25 hi hz0 hz1 .i64 .i64 es.length es.length es.length rfl rfl rfl rfl (by rw [hz2]; omega) (by unfold maxLen; omega) (Nat.le_refl _) ?_); intro w1 hown hg)
  have hb1 : Below w.heap.size w w1 := (Below.refl _ _).grown hg (Nat.le_refl _) (by simp)
  have f1 : FilledE w1 w.heap.size w.heap.size es 0 := ⟨_, hown, fun j _ hj => absurd hj (by omega)⟩
  clear hown hg
  go_loopw [4] (fun i wr => ∃ k : Nat, k ≤ es.length ∧ i = .int .i64 k ∧ FilledE wr w.heap.size w.heap.size es k ∧ Below w.heap.size w wr) (fun i _ => es.length - (intOf i).toNat)
  case atStart => exact ⟨0, Nat.zero_le _, rfl, f1, hb1⟩
  case round =>
    clear f1 hb1
    obtain ⟨k, hk, rfl, hf, hb⟩ := hrel
    by_cases hlt : k < es.length
    · obtain ⟨en, ad, A1, c1, A2, c2, he, rfl, ha, g0, g1, g2, g3, r1, r2⟩ := (h.below hb (Nat.le_refl _)).ent hlt
      have HSTEP : Hid (∀ (W : World) (x y : Nat), FilledE W w.heap.size w.heap.size es k → Mine W w.heap.size 3 1 x en.zs.length (ints en.zs) → Mine W w.heap.size 99 3 y en.ops.length (opsV en.ops) → FilledE (put4 W w.heap.size k (.int .i64 en.kd) (.slice (some ⟨x, 0, none⟩) en.zs.length en.zs.length) (.int .i64 en.b) (.slice (some ⟨y, 0, none⟩) en.ops.length en.ops.length)) w.heap.size w.heap.size es (k + 1)) := fun W x y a b d => by
        subst he
        exact a.step hlt b d
      obtain ⟨s1, s2⟩ := hs es[k] (List.getElem_mem hlt)
      rw [he] at s1 s2
      have hz := hb.size
      clear he
      go_wp2_with fail
      refine (toPackEntry_any A1 c1 A2 c2 en wr (r1.more hz) (r2.more hz) s1 s2).mono ?_
      rintro e w2 ⟨x, y, rfl, mx, my, hb2⟩
      have hf2 := hf.below hb2
      have hb3 := hb.trans (hb2.mono hz)
      have mx2 := mx.base hz
      have my2 := my.base hz
      clear hf hb2 mx my g0 g1 g2 g3 r1 r2 s1 s2
      have hfin := HSTEP.out w2 x y hf2 mx2 my2
      obtain ⟨rd, fz, -⟩ := hf2.cells4 hlt
      obtain ⟨y0, q0⟩ := rd 0 (by omega)
      obtain ⟨y1, q1⟩ := rd 1 (by omega)
      obtain ⟨y2, q2⟩ := rd 2 (by omega)
      obtain ⟨y3, q3⟩ := rd 3 (by omega)
      rw [Nat.add_zero] at q0
      have qf0 := fz (k * 4)
      have qf1 := fz (k * 4 + 1)
      have qf2 := fz (k * 4 + 2)
      have qf3 := fz (k * 4 + 3)
      have hbf := (((hb3.setCell (p := ⟨w.heap.size, k * 4, none⟩) (Nat.le_refl _) (.int .i64 en.kd)).setCell (p := ⟨w.heap.size, k * 4 + 1, none⟩) (Nat.le_refl _) (.slice (some ⟨x, 0, none⟩) en.zs.length en.zs.length)).setCell (p := ⟨w.heap.size, k * 4 + 2, none⟩) (Nat.le_refl _) (.int .i64 en.b)).setCell (p := ⟨w.heap.size, k * 4 + 3, none⟩) (Nat.le_refl _) (.slice (some ⟨y, 0, none⟩) en.ops.length en.ops.length)
      clear fz rd hf2 hb3 mx2 my2 HSTEP
      go_wp2_with fail
      go_roundw
      case rel => exact ⟨k + 1, by omega, by go_num, hfin, hbf⟩
      case measure => simp [intOf]; omega
    · have hk' : k = es.length := by omega
      subst hk'
      go_wp2
      go_ret
      exact ⟨_, rfl, hf, hb⟩

set_option maxHeartbeats 1000000 in
theorem eqPackEntry_same (A A2 : Option Addr) (c c2 : Nat) (A' A2' : Option Addr) (c' c2' : Nat) (en : Ent) (w : World) (r1 : Row w w.heap.size A (ints en.zs)) (r2 : Row w w.heap.size A2 (ints en.zs)) (o1 : Row w w.heap.size A' (opsV en.ops)) (o2 : Row w w.heap.size A2' (opsV en.ops)) (h1 : en.zs.length ≤ 1048576) (h2 : en.ops.length ≤ 1048576) :
    Calls Try.prog 56 #[.agg #[.int .i64 en.kd, .slice A en.zs.length c, .int .i64 en.b, .slice A' en.ops.length c'], .agg #[.int .i64 en.kd, .slice A2 en.zs.length c2, .int .i64 en.b, .slice A2' en.ops.length c2']] w (Ret (.bool true) w) := by
  have b1 := (Below.refl w.heap.size w).alloc (Nat.le_refl _) (.cells #[.int .i64 en.kd, .slice A en.zs.length c, .int .i64 en.b, .slice A' en.ops.length c'] 33)
  have b2 := b1.alloc (by simp) (.cells #[.int .i64 en.kd, .slice A2 en.zs.length c2, .int .i64 en.b, .slice A2' en.ops.length c2'] 33)
  have P2 := (Blk4.new_ w 33 (.int .i64 en.kd) (.slice A en.zs.length c) (.int .i64 en.b) (.slice A' en.ops.length c')).alloc (.cells #[.int .i64 en.kd, .slice A2 en.zs.length c2, .int .i64 en.b, .slice A2' en.ops.length c2'] 33)
  have O2 := Blk4.new_ (w.alloc (.cells #[.int .i64 en.kd, .slice A en.zs.length c, .int .i64 en.b, .slice A' en.ops.length c'] 33)) 33 (.int .i64 en.kd) (.slice A2 en.zs.length c2) (.int .i64 en.b) (.slice A2' en.ops.length c2')
  simp only [World.size_alloc] at O2
  go_enter Try.func56, Try.ntmps56
  go_wp2_with fail
  refine (eqIntS_same w.heap.size w.heap.size A A2 c c2 en.zs _ (r1.below b2 (Nat.le_refl _)) (r2.below b2 (Nat.le_refl _)) (by unfold maxLen; omega)).mono ?_
  rintro e w3 ⟨rfl, d, rfl⟩
  have b3 := Wo.Below.drewN b2 d
  have P3 := P2.later (Wo.Below.drewN (Below.refl _ _) d)
  have O3 := O2.later (Wo.Below.drewN (Below.refl _ _) d)
  clear b1 b2 P2 O2
  generalize ((w.alloc (.cells #[.int .i64 en.kd, .slice A en.zs.length c, .int .i64 en.b, .slice A' en.ops.length c'] 33)).alloc (.cells #[.int .i64 en.kd, .slice A2 en.zs.length c2, .int .i64 en.b, .slice A2' en.ops.length c2'] 33)).drewN d = W at *
  obtain ⟨p0, p1, p2, p3, -⟩ := id P3.reads
  obtain ⟨q0, q1, q2, q3, -⟩ := id O3.reads
  go_wp2_with fail
  refine (eqOpS_same A' A2' c' c2' en.ops W ((o1.below b3 (Nat.le_refl _)).more b3.size) ((o2.below b3 (Nat.le_refl _)).more b3.size) h2).mono ?_
  rintro e w4 ⟨rfl, b4⟩
  go_wp2
  go_ret
  exact .mk_ (b3.trans (b4.mono b3.size))
set_option maxHeartbeats 4000000 in
theorem eqPackEntryS_same (A A2 : Option Addr) (c c2 : Nat) (es : List Ent) (w : World) (h : Ents w w.heap.size A es) (h2 : Ents w w.heap.size A2 es) (hn : es.length ≤ 1048576) (hs : ∀ e ∈ es, e.zs.length ≤ 1048576 ∧ e.ops.length ≤ 1048576) :
    Calls Try.prog 26 #[.slice A es.length c, .slice A2 es.length c2] w (Ret (.bool true) w) := by
  go_enter Try.func26, Try.ntmps26
  go_wp2
  go_loopw [5] (fun i wr => ∃ k : Nat, k ≤ es.length ∧ i = .int .i64 k ∧ Below w.heap.size w wr) (fun i _ => es.length - (intOf i).toNat)
  case atStart => exact ⟨0, Nat.zero_le _, rfl, Below.refl _ _⟩
  case round =>
    obtain ⟨k, hk, rfl, hb⟩ := hrel
    by_cases hlt : k < es.length
    · have hbd := hb.drew
      obtain ⟨en, ad, A1, c1, B1, d1, he, rfl, ha1, g0, g1, g2, g3, r1, o1⟩ := (h.below hbd (Nat.le_refl _)).ent hlt
      obtain ⟨en2, ad2, A3, c3, B3, d3, he2, rfl, ha2, g20, g21, g22, g23, r2, o2⟩ := (h2.below hbd (Nat.le_refl _)).ent hlt
      obtain rfl : en = en2 := he.symm.trans he2
      obtain ⟨s1, s2⟩ := hs es[k] (List.getElem_mem hlt)
      rw [he] at s1 s2
      have k0 : 0 ≤ (k : Int) := by omega
      have k1 : (k : Int) < (es.length : Int) := by omega
      simp only [World.cell?_drew] at g0 g1 g2 g3 g20 g21 g22 g23
      have KP : Hid (∀ x, Below wr.drew.heap.size wr.drew x → x.cell? (ad.add (k * 4)) = some (.int .i64 en.kd) ∧ x.cell? ⟨(ad.add (k * 4)).block, (ad.add (k * 4)).off + 1, none⟩ = some (.slice A1 en.zs.length c1) ∧ x.cell? ⟨(ad.add (k * 4)).block, (ad.add (k * 4)).off + 2, none⟩ = some (.int .i64 en.b) ∧ x.cell? ⟨(ad.add (k * 4)).block, (ad.add (k * 4)).off + 3, none⟩ = some (.slice B1 en.ops.length d1) ∧
          x.cell? (ad2.add (k * 4)) = some (.int .i64 en.kd) ∧ x.cell? ⟨(ad2.add (k * 4)).block, (ad2.add (k * 4)).off + 1, none⟩ = some (.slice A3 en.zs.length c3) ∧ x.cell? ⟨(ad2.add (k * 4)).block, (ad2.add (k * 4)).off + 2, none⟩ = some (.int .i64 en.b) ∧ x.cell? ⟨(ad2.add (k * 4)).block, (ad2.add (k * 4)).off + 3, none⟩ = some (.slice B3 en.ops.length d3)) := fun x hx => by
        have e1 := Nat.lt_of_lt_of_le ha1 hbd.size
        have e2 := Nat.lt_of_lt_of_le ha2 hbd.size
        exact ⟨(hx.cell e1).trans g0, (hx.cell (p := ⟨(ad.add (k * 4)).block, (ad.add (k * 4)).off + 1, none⟩) e1).trans g1, (hx.cell (p := ⟨(ad.add (k * 4)).block, (ad.add (k * 4)).off + 2, none⟩) e1).trans g2, (hx.cell (p := ⟨(ad.add (k * 4)).block, (ad.add (k * 4)).off + 3, none⟩) e1).trans g3,
          (hx.cell e2).trans g20, (hx.cell (p := ⟨(ad2.add (k * 4)).block, (ad2.add (k * 4)).off + 1, none⟩) e2).trans g21, (hx.cell (p := ⟨(ad2.add (k * 4)).block, (ad2.add (k * 4)).off + 2, none⟩) e2).trans g22, (hx.cell (p := ⟨(ad2.add (k * 4)).block, (ad2.add (k * 4)).off + 3, none⟩) e2).trans g23⟩
      clear he he2
      go_wp2_with fail
      go_region_held3 (fun w' => w'.cell? (ad.add (k * 4)) = some (.int .i64 en.kd) ∧ w'.cell? ⟨(ad.add (k * 4)).block, (ad.add (k * 4)).off + 1, none⟩ = some (.slice A1 en.zs.length c1) ∧ w'.cell? ⟨(ad.add (k * 4)).block, (ad.add (k * 4)).off + 2, none⟩ = some (.int .i64 en.b) ∧ w'.cell? ⟨(ad.add (k * 4)).block, (ad.add (k * 4)).off + 3, none⟩ = some (.slice B1 en.ops.length d1) ∧ w'.cell? (ad2.add (k * 4)) = some (.int .i64 en.kd) ∧ w'.cell? ⟨(ad2.add (k * 4)).block, (ad2.add (k * 4)).off + 1, none⟩ = some (.slice A3 en.zs.length c3) ∧ w'.cell? ⟨(ad2.add (k * 4)).block, (ad2.add (k * 4)).off + 2, none⟩ = some (.int .i64 en.b) ∧ w'.cell? ⟨(ad2.add (k * 4)).block, (ad2.add (k * 4)).off + 3, none⟩ = some (.slice B3 en.ops.length d3))
        (go_keep)
        (first
          | (go_at_call 56; go_must (refine (eqPackEntry_same A1 A3 c1 c3 B1 B3 d1 d3 en wr.drew (r1.more hbd.size) (r2.more hbd.size) (o1.more hbd.size) (o2.more hbd.size) s1 s2).mono ?_); rintro e w7 ⟨rfl, hb7⟩; have hw7 := hbd.trans (hb7.mono hbd.size); obtain ⟨m0, m1, m2, m3, m4, m5, m6, m7⟩ := KP.out w7 hb7))
      go_wp2
      go_roundw
      case rel => exact ⟨k + 1, by omega, by go_num, hw7⟩
      case measure => simp [intOf]; omega
    · have hk' : k = es.length := by omega
      subst hk'
      go_wp2
      go_ret
      exact .mk_ hb
end Go.Proofs.Ytkekbobnbipmoaa
