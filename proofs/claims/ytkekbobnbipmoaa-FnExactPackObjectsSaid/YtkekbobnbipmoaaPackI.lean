/-
  Walk: the program packs an object.
-/
import Derived.Test.YtkekbobnbipmoaaLink
import Derived.Test.YtkekbobnbipmoaaMake
import Derived.Test.YtkekbobnbipmoaaGet
namespace Go.Proofs.Ytkekbobnbipmoaa
open Go.RowKit Wo Pu

/-- Behind it: a node of the object, with its best base. -/
def Packed (es : List Ent) (ns : List Nd) (list : List Ob) (o : Ob) (w : World) (e : Ending) (w' : World) : Prop :=
  ∃ (g : Nat) (lv ov : Value), e = .returned (.pointer (some ⟨g, 0, none⟩)) ∧ w.heap.size ≤ g ∧ w'.heap[g]? = some (.cells (ndC ns (mkE es list o).b ⟨g, .int .i64 o.kd, lv, ov, o.s⟩) 61 (0, 0)) ∧
    Own w' w.heap.size lv o.zs ∧ OwnOps w' w.heap.size ov (mkE es list o).ops ∧ Ap2 lv ov ∧ Below w.heap.size w w'
theorem cells4 {w : World} {g : Nat} {t : TypeId} {v0 v1 v2 v3 : Value} (h : w.heap[g]? = some (.cells #[v0, v1, v2, v3] t (0, 0))) :
    w.cell? ⟨g, 0, none⟩ = some v0 ∧ w.cell? ⟨g, 1, none⟩ = some v1 ∧ w.cell? ⟨g, 2, none⟩ = some v2 ∧ w.cell? ⟨g, 3, none⟩ = some v3 ∧ ∀ o, w.frozen? ⟨g, o, none⟩ = false := by
  refine ⟨?_, ?_, ?_, ?_, fun o => ?_⟩ <;> simp [World.cell?, World.frozen?, h]
theorem keep4 {w : World} {g b : Nat} {v0 v1 v2 : Value} (u0 u1 u2 u3 : Value) (h0 : w.cell? ⟨b, 0, none⟩ = some v0) (h1 : w.cell? ⟨b, 1, none⟩ = some v1) (h2 : w.cell? ⟨b, 2, none⟩ = some v2) (hne : b ≠ g) :
    ((((w.setCell ⟨g, 0, none⟩ u0).setCell ⟨g, 1, none⟩ u1).setCell ⟨g, 2, none⟩ u2).setCell ⟨g, 3, none⟩ u3).cell? ⟨b, 0, none⟩ = some v0 ∧
    ((((w.setCell ⟨g, 0, none⟩ u0).setCell ⟨g, 1, none⟩ u1).setCell ⟨g, 2, none⟩ u2).setCell ⟨g, 3, none⟩ u3).cell? ⟨b, 1, none⟩ = some v1 ∧
    ((((w.setCell ⟨g, 0, none⟩ u0).setCell ⟨g, 1, none⟩ u1).setCell ⟨g, 2, none⟩ u2).setCell ⟨g, 3, none⟩ u3).cell? ⟨b, 2, none⟩ = some v2 := by
  refine ⟨?_, ?_, ?_⟩
  · rw [World.cell?_setCell_far _ _ _ _ hne.symm, World.cell?_setCell_far _ _ _ _ hne.symm, World.cell?_setCell_far _ _ _ _ hne.symm, World.cell?_setCell_far _ _ _ _ hne.symm]; exact h0
  · rw [World.cell?_setCell_far _ _ _ _ hne.symm, World.cell?_setCell_far _ _ _ _ hne.symm, World.cell?_setCell_far _ _ _ _ hne.symm, World.cell?_setCell_far _ _ _ _ hne.symm]; exact h1
  · rw [World.cell?_setCell_far _ _ _ _ hne.symm, World.cell?_setCell_far _ _ _ _ hne.symm, World.cell?_setCell_far _ _ _ _ hne.symm, World.cell?_setCell_far _ _ _ _ hne.symm]; exact h2
theorem tsz_make (b t : ByteArray) : tsz (dMake b t) (dMake b t).length ≤ 1048576 := by
  have h1 := make_few b t
  have h2 := make_fits b t
  have : tsz (dMake b t) (dMake b t).length ≤ 9 * (dMake b t).length := by
    have key : ∀ k, k ≤ (dMake b t).length → tsz (dMake b t) k ≤ 9 * k := by
      intro k
      induction k with
      | zero => intro _; exact Nat.le_refl _
      | succ k ih =>
        intro hk
        rw [tsz_succ (by omega)]
        have := ih (by omega)
        have := (h2 _ (List.getElem_mem (show k < (dMake b t).length by omega))).2.2.2.2
        omega
    exact key _ (Nat.le_refl _)
  omega

theorem row_ne {w : World} {B sz n g : Nat} {e t : TypeId} {v : Value} {xs : List Value} {cs : Array Value} (ho : w.ownsRow B e sz v n xs) (hg : w.heap[g]? = some (.cells cs t (0, 0))) (het : e ≠ t) : v.ownBlock ≠ some g := fun h => by
  rcases ho.2 with ⟨rfl, _⟩ | ⟨k, cap, cur, rfl, _, hh, _⟩
  · cases h
  · have hk : k = g := by
      have h' : some k = some g := h
      injection h'
    rw [hk, hg] at hh
    injection hh with hh
    injection hh with _ hh
    exact het hh.symm
theorem Chain.row_ {w : World} {B n c : Nat} {A : Option Addr} {es : List Ent} {ns : List Nd} (h : Chain w B (.slice A n c) es ns) : Row w w.heap.size A (ptrs ns) := by
  obtain ⟨A2, c2, hv, hr, _⟩ := h.row
  injection hv with h1 _ _
  subst h1
  exact hr
theorem own3 {w : World} {B sz n N : Nat} {e t : TypeId} {v x4 x2 x3 : Value} {xs : List Value} {cs : Array Value} (ho : w.ownsRow B e sz v n xs) (hg : w.heap[N]? = some (.cells cs t (0, 0))) (het : e ≠ t) :
    (((w.setCell ⟨N, 4, none⟩ x4).setCell ⟨N, 2, none⟩ x2).setCell ⟨N, 3, none⟩ x3).ownsRow B e sz v n xs := by
  have hne := row_ne ho hg het
  exact World.ownsRow.kept (World.ownsRow.kept (World.ownsRow.kept ho (but_set w N 4 x4) (.inr hne)) (but_set _ N 2 x2) (.inr hne)) (but_set _ N 3 x3) (.inr hne)
/-- The node so far: k bases have been looked at. -/
def PSt (w wr : World) (N : Nat) (B : Nat) (v : Value) (es : List Ent) (ns : List Nd) (list : List Ob) (o : Ob) (A : Option Addr) (c : Nat) (lv : Value) (k : Nat) : Prop :=
  ∃ (b : Int) (AO : Option Addr) (cO : Nat), b = (bestF es list o.s k).1 ∧ wr.heap[N]? = some (.cells #[.int .i64 o.kd, lv, .int .i64 b, .slice AO (dMake (txtOf list b) o.s).length cO, pTo ns b, .string o.s] 61 (0, 0)) ∧
    OwnOps wr w.heap.size (.slice AO (dMake (txtOf list b) o.s).length cO) (dMake (txtOf list b) o.s) ∧ Ap2 lv (.slice AO (dMake (txtOf list b) o.s).length cO) ∧ Own wr w.heap.size lv o.zs ∧
    Blk wr w.heap.size 42 (.int .i64 o.kd) (.slice A o.zs.length c) (.string o.s) ∧ Below w.heap.size w wr ∧ Chain wr B v es ns ∧ w.heap.size < N
theorem best_lt (es : List Ent) (list : List Ob) (t : ByteArray) (k : Nat) : -1 ≤ (bestF es list t k).1 ∧ (bestF es list t k).1 < (k : Int) := ⟨(bestF_is es list t k).1, (bestF_is es list t k).2.1⟩
theorem deltaSize_val (n : Nat) (A : Option Addr) (c : Nat) (x y : ByteArray) (w : World) (h : Row w w.heap.size A (opsV (dMake x y))) (hn : dsz (dMake x y) = n) :
    Calls Try.prog 71 #[.slice A (dMake x y).length c] w (Ret (.int .i64 n) w) := by
  subst hn
  exact implDeltaSize_any A c (dMake x y) w h (by have := (make_few x y).1; omega) (tsz_make x y)
/-- All that is known when the entry has been laid. -/
def Rdy (w Y : World) (G : Nat) (o : Ob) (A : Option Addr) (c : Nat) (lv ov : Value) (ops : List Op2) : Prop :=
  Below w.heap.size w Y ∧ Blk Y w.heap.size 42 (.int .i64 o.kd) (.slice A o.zs.length c) (.string o.s) ∧ Y.heap[G]? = some (.cells #[.int .i64 o.kd, lv, .int .i64 (-1), ov] 33 (0, 0)) ∧
    Own Y w.heap.size lv o.zs ∧ OwnOps Y w.heap.size ov ops ∧ Ap2 lv ov ∧ w.heap.size < G
theorem ap_of {w5 w6 : World} {B C : Nat} {lv ov : Value} {zs : List Int} {ops : List Op2} (h1 : Own w5 B lv zs) (h2 : OwnOps w6 C ov ops) (hC : w5.heap.size ≤ C) : Ap2 lv ov := fun g e1 e2 => by
  have a := (World.ownsRow.lt h1 g e1).2
  have b := h2.lt g e2
  omega
theorem rdy_new {w w5 w6 : World} {C D : Nat} {o : Ob} {A : Option Addr} {c : Nat} {lv ov : Value} {ops : List Op2} (hb : Below w.heap.size w w6) (hu : Blk w6 w.heap.size 42 (.int .i64 o.kd) (.slice A o.zs.length c) (.string o.s))
    (h1 : Own w5 C lv o.zs) (b56 : Below w5.heap.size w5 w6) (h2 : OwnOps w6 D ov ops) (hC : w.heap.size ≤ C) (hD : w5.heap.size ≤ D) (h5 : w.heap.size ≤ w5.heap.size) :
    Rdy w (w6.alloc (.cells #[.int .i64 o.kd, lv, .int .i64 (-1), ov] 33)) w6.heap.size o A c lv ov ops := by
  have al := (Below.refl w6.heap.size w6).alloc (Nat.le_refl _) (.cells #[.int .i64 o.kd, lv, .int .i64 (-1), ov] 33)
  exact ⟨hb.trans (al.mono hb.size), hu.below al hu.lt, heap_alloc_new w6 _, ((h1.below b56 (Nat.le_refl _)).base hC).below al (Nat.le_refl _), (h2.base (by omega)).below al, ap_of h1 h2 hD, hu.lt⟩
theorem rdy_set {w w5 w6 : World} {C D G : Nat} {o : Ob} {A : Option Addr} {c : Nat} {lv ov x0 x1 x2 x3 : Value} {ops : List Op2} (hb : Below w.heap.size w w6) (hu : Blk w6 w.heap.size 42 (.int .i64 o.kd) (.slice A o.zs.length c) (.string o.s))
    (h1 : Own w5 C lv o.zs) (b56 : Below w5.heap.size w5 w6) (h2 : OwnOps w6 D ov ops) (hC : w.heap.size ≤ C) (hD : w5.heap.size ≤ D) (h5 : w.heap.size ≤ w5.heap.size) (hE : w6.heap[G]? = some (.cells #[x0, x1, x2, x3] 33 (0, 0))) (hG : w.heap.size < G) :
    Rdy w ((((w6.setCell ⟨G, 0, none⟩ (.int .i64 o.kd)).setCell ⟨G, 1, none⟩ lv).setCell ⟨G, 2, none⟩ (.int .i64 (-1))).setCell ⟨G, 3, none⟩ ov) G o A c lv ov ops := by
  have e0 := set_heap hE 0 (.int .i64 o.kd)
  have e1 := set_heap e0 1 lv
  have e2 := set_heap e1 2 (.int .i64 (-1))
  have e3 := set_heap e2 3 ov
  have hne : w.heap.size ≠ G := by omega
  have k1 : Own w6 w.heap.size lv o.zs := (h1.below b56 (Nat.le_refl _)).base hC
  have k2 : OwnOps w6 w.heap.size ov ops := h2.base (by omega)
  refine ⟨(((hb.setCell (p := ⟨G, 0, none⟩) (by show w.heap.size ≤ G; omega) _).setCell (p := ⟨G, 1, none⟩) (by show w.heap.size ≤ G; omega) _).setCell (p := ⟨G, 2, none⟩) (by show w.heap.size ≤ G; omega) _).setCell (p := ⟨G, 3, none⟩) (by show w.heap.size ≤ G; omega) _,
    (((hu.far (p := ⟨G, 0, none⟩) hne _).far (p := ⟨G, 1, none⟩) hne _).far (p := ⟨G, 2, none⟩) hne _).far (p := ⟨G, 3, none⟩) hne _, e3, ?_, ?_, ap_of h1 h2 hD, hG⟩
  · have q0 : Own _ w.heap.size lv o.zs := World.ownsRow.kept k1 (but_set w6 G 0 (.int .i64 o.kd)) (.inr (row_ne k1 hE (by decide)))
    have q1 : Own _ w.heap.size lv o.zs := World.ownsRow.kept q0 (but_set _ G 1 lv) (.inr (row_ne k1 hE (by decide)))
    have q2 : Own _ w.heap.size lv o.zs := World.ownsRow.kept q1 (but_set _ G 2 (.int .i64 (-1))) (.inr (row_ne k1 hE (by decide)))
    exact World.ownsRow.kept q2 (but_set _ G 3 ov) (.inr (row_ne k1 hE (by decide)))
  · have q0 : OwnOps _ w.heap.size ov ops := World.ownsRow.kept k2 (but_set w6 G 0 (.int .i64 o.kd)) (.inr (row_ne k2 hE (by decide)))
    have q1 : OwnOps _ w.heap.size ov ops := World.ownsRow.kept q0 (but_set _ G 1 lv) (.inr (row_ne k2 hE (by decide)))
    have q2 : OwnOps _ w.heap.size ov ops := World.ownsRow.kept q1 (but_set _ G 2 (.int .i64 (-1))) (.inr (row_ne k2 hE (by decide)))
    exact World.ownsRow.kept q2 (but_set _ G 3 ov) (.inr (row_ne k2 hE (by decide)))


set_option maxRecDepth 100000 in
set_option maxHeartbeats 8000000 in
theorem packObject_any (B : Nat) (v : Value) (es : List Ent) (ns : List Nd) (list : List Ob) (A : Option Addr) (c : Nat) (o : Ob) (w : World) (h : Chain w B v es ns) (hn : es.length ≤ 16) (HTX : Hid (∀ i (h : i < ns.length), ns[i].t = txtOf list (i : Int) ∧ ns[i].t.size ≤ 8))
    (hro : Row w w.heap.size A (ints o.zs)) (ho : vOb o = true) :
    Calls Try.prog 37 #[v, ob o.kd A o.zs.length c o.s] w (Packed es ns list o w) := by
  have hz4 := (vldB_parts ho).2.1
  have hs8 := (vldB_parts ho).2.2.1
  obtain ⟨AN, cN, rfl, hrow0, hcN⟩ := h.row
  have hnl := h.1
  have hnlA : ns.length ≤ es.length := by omega
  have hnlB : es.length ≤ ns.length := by omega
  clear ho hnl
  unfold ob
  obtain ⟨w0, hw0⟩ : ∃ w0, w.alloc (.cells #[.int .i64 o.kd, .slice A o.zs.length c, .string o.s] 42) = w0 := ⟨_, rfl⟩
  have a0 := (Below.refl w.heap.size w).alloc (Nat.le_refl _) (.cells #[.int .i64 o.kd, .slice A o.zs.length c, .string o.s] 42)
  have u0 := Blk.new_ w 42 (.int .i64 o.kd) (.slice A o.zs.length c) (.string o.s)
  have z0 : (w.alloc (.cells #[.int .i64 o.kd, .slice A o.zs.length c, .string o.s] 42)).heap.size = w.heap.size + 1 := by simp
  have HW0 := hid hw0
  rw [hw0] at a0 u0 z0
  clear hw0
  have hc0 := h.below a0 (Nat.le_refl _)
  have r0 := hro.below a0 (Nat.le_refl _)
  go_enter Try.func37, Try.ntmps37
  go_wp2_with fail
  rw [HW0.out]
  have hz1 : w.heap.size ≤ w0.heap.size := a0.size
  obtain ⟨x0, x1, x2, -⟩ := id u0.reads
  have rA : Row w0.drew w.heap.size A (ints o.zs) := r0
  have hz2 : w.heap.size ≤ w0.drew.heap.size := hz1
  have hzn : o.zs.length ≤ 1048576 := by omega
  have hsn : o.s.size ≤ 1048576 := by omega
  have hsd : (⟨#[]⟩ : ByteArray).size ≤ 1048576 := by decide
  have u0d : Blk w0.drew w.heap.size 42 (.int .i64 o.kd) (.slice A o.zs.length c) (.string o.s) := u0
  have hc0d : Chain w0.drew B (.slice AN ns.length cN) es ns := hc0.below (Below.refl _ _).drew (Nat.le_refl _)
  have a0d : Below w.heap.size w w0.drew := a0.trans (Below.refl _ _).drew
  have aZ : Below w0.heap.size w0 (w0.alloc (.cells #[.int .i64 0, .slice none 0 0, .int .i64 0, .slice none 0 0] 33)).drew := ((Below.refl _ _).alloc (Nat.le_refl _) _).trans (Below.refl _ _).drew
  have rB := r0.below aZ hz1
  have u0z := u0.below aZ u0.lt
  have hz3 : w.heap.size ≤ (w0.alloc (.cells #[.int .i64 0, .slice none 0 0, .int .i64 0, .slice none 0 0] 33)).drew.heap.size := Nat.le_trans hz1 aZ.size
  have hz4' : w.heap.size + 1 < (w0.alloc (.cells #[.int .i64 0, .slice none 0 0, .int .i64 0, .slice none 0 0] 33)).drew.heap.size := by show w.heap.size + 1 < (w0.alloc _).heap.size; rw [World.size_alloc]; omega
  have hZ0 : (w0.alloc (.cells #[.int .i64 0, .slice none 0 0, .int .i64 0, .slice none 0 0] 33)).drew.heap[w.heap.size + 1]? = some (.cells #[.int .i64 0, .slice none 0 0, .int .i64 0, .slice none 0 0] 33 (0, 0)) := by rw [← z0]; exact heap_alloc_new w0 _
  have ne0 : w.heap.size ≠ w0.drew.heap.size := Nat.ne_of_lt u0d.lt
  have ne0' : w.heap.size ≠ w.heap.size + 1 := by omega
  go_region_held3 (fun w' => w'.cell? ⟨w.heap.size, 0, none⟩ = some (.int .i64 o.kd) ∧ w'.cell? ⟨w.heap.size, 1, none⟩ = some (.slice A o.zs.length c) ∧ w'.cell? ⟨w.heap.size, 2, none⟩ = some (.string o.s)) (first | with_reducible exact keep4 _ _ _ _ y0 y1 y2 ne5 | with_reducible exact keep4 _ _ _ _ y0 y1 y2 ne0 | with_reducible exact keep4 _ _ _ _ y0 y1 y2 ne0' | go_keep)
    (first
      | (go_at_call 70; (with_reducible refine (implDeltaMake_any ⟨#[]⟩ o.s (w5.alloc (.cells #[.int .i64 0, .slice none 0 0, .int .i64 0, .slice none 0 0] 33)) hsd hsn).mono ?_); rintro e w6 ⟨ov, rfl, o6, b6⟩; obtain ⟨AO, cO, rfl, -, -⟩ := o6.form; have u6 := (u5.below ((Below.refl w5.heap.size w5).alloc (Nat.le_refl _) (.cells #[.int .i64 0, .slice none 0 0, .int .i64 0, .slice none 0 0] 33)) u5.lt).below b6 (by simp; have := u5.lt; omega); have hE6 : w6.heap[w5.heap.size]? = some (.cells #[.int .i64 0, .slice none 0 0, .int .i64 0, .slice none 0 0] 33 (0, 0)) := ((b6.block _ (by simp)).trans (heap_alloc_new w5 _)); obtain ⟨e0, e1, e2, e3, ef⟩ := cells4 hE6; have ef0 := ef 0; have ef1 := ef 1; have ef2 := ef 2; have ef3 := ef 3; clear ef; have ne6 : w.heap.size ≠ w6.heap.size := Nat.ne_of_lt u6.lt; obtain ⟨y0, y1, y2, -⟩ := id u6.reads)
      | (go_at_call 70; (with_reducible refine (implDeltaMake_any ⟨#[]⟩ o.s w5 hsd hsn).mono ?_); rintro e w6 ⟨ov, rfl, o6, b6⟩; obtain ⟨AO, cO, rfl, -, -⟩ := o6.form; have u6 := u5.below b6 u5.lt; have hE6 := (b6.block _ hl5).trans hE5; obtain ⟨e0, e1, e2, e3, ef⟩ := cells4 hE6; have ef0 := ef 0; have ef1 := ef 1; have ef2 := ef 2; have ef3 := ef 3; clear ef; have ne6 : w.heap.size ≠ w6.heap.size := Nat.ne_of_lt u6.lt; obtain ⟨y0, y1, y2, -⟩ := id u6.reads)
      | (go_at_call 70; (with_reducible refine (implDeltaMake_any ⟨#[]⟩ o.s w5 hsd hsn).mono ?_); rintro e w6 ⟨ov, rfl, o6, b6⟩; obtain ⟨AO, cO, rfl, -, -⟩ := o6.form; have u6 := u5.below b6 u5.lt; have ne6 : w.heap.size ≠ w6.heap.size := Nat.ne_of_lt u6.lt; obtain ⟨y0, y1, y2, -⟩ := id u6.reads)
      | (go_at_call 69; (with_reducible refine (copyNumbers_any w.heap.size A c o.zs (w0.alloc (.cells #[.int .i64 0, .slice none 0 0, .int .i64 0, .slice none 0 0] 33)).drew rB hz3 hzn).mono ?_); rintro e w5 ⟨A5, c5, rfl, o5, b5⟩; have u5 := u0z.below b5 u0z.lt; have hE5 := (b5.block _ hz4').trans hZ0; have hl5 := heap_lt hE5; have ne5 : w.heap.size ≠ w5.heap.size := Nat.ne_of_lt u5.lt; obtain ⟨m0, m1, m2, -⟩ := id u5.reads)
      | (go_at_call 69; (with_reducible refine (copyNumbers_any w.heap.size A c o.zs w0.drew rA hz2 hzn).mono ?_); rintro e w5 ⟨A5, c5, rfl, o5, b5⟩; have u5 := u0d.below b5 u0d.lt; have ne5 : w.heap.size ≠ w5.heap.size := Nat.ne_of_lt u5.lt; obtain ⟨m0, m1, m2, -⟩ := id u5.reads))
  · have hY := rdy_new (w := w) (w5 := w5) (a0d.trans (b5.mono a0d.size) |>.trans (b6.mono (Nat.le_trans a0d.size b5.size))) u6 o5 b6 o6 hz2 (Nat.le_refl _) (Nat.le_trans hz2 b5.size)
    rename_i hHeld
    generalize (w6.alloc (.cells #[.int .i64 o.kd, .slice A5 o.zs.length c5, .int .i64 (-1), .slice AO (dMake ⟨#[]⟩ o.s).length cO] 33)) = Y at *
    obtain ⟨bY, uY, eY, l5Y, o6Y, apY, hGY⟩ := hY
    have hcY := h.below bY (Nat.le_refl _)
    obtain ⟨f0, f1, f2, f3, -⟩ := cells4 eY
    obtain ⟨k0, k1, k2, -⟩ := id uY.reads
    clear hHeld hro u0 r0 hc0 hc0d a0 a0d u0d u5 o5 u6 o6 b6 b5 m0 m1 m2 y0 y1 y2 rA rB aZ u0z hz3 hz4' hZ0 ne0 ne0' ne5 ne6 hz1 hz2 x0 x1 x2 HW0 z0 hrow0
    have aN := (Below.refl Y.heap.size Y).alloc (Nat.le_refl _) (.cells #[.int .i64 o.kd, .slice A5 o.zs.length c5, .int .i64 (-1), .slice AO (dMake ⟨#[]⟩ o.s).length cO, .pointer none, .string o.s] 61)
    have hN0 := heap_alloc_new Y (.cells #[.int .i64 o.kd, .slice A5 o.zs.length c5, .int .i64 (-1), .slice AO (dMake ⟨#[]⟩ o.s).length cO, .pointer none, .string o.s] 61)
    have P0 : PSt w (Y.alloc (.cells #[.int .i64 o.kd, .slice A5 o.zs.length c5, .int .i64 (-1), .slice AO (dMake ⟨#[]⟩ o.s).length cO, .pointer none, .string o.s] 61)) Y.heap.size B (.slice AN ns.length cN) es ns list o A c (.slice A5 o.zs.length c5) 0 :=
      ⟨-1, AO, cO, rfl, hN0, o6Y.below aN, apY, l5Y.below aN (Nat.le_refl _), uY.below aN uY.lt, bY.trans (aN.mono bY.size), hcY.below aN (Nat.le_refl _), uY.lt⟩
    go_wp2_with fail
    generalize Y.alloc (.cells #[.int .i64 o.kd, .slice A5 o.zs.length c5, .int .i64 (-1), .slice AO (dMake ⟨#[]⟩ o.s).length cO, .pointer none, .string o.s] 61) = Y1 at *
    generalize Y.heap.size = N at *
    clear aN hN0 f0 f1 f2 f3 k0 k1 k2 eY l5Y o6Y apY uY bY hcY
    go_loopw [26] (fun i wr => ∃ k : Nat, i = .int .i64 k ∧ k ≤ ns.length ∧ PSt w wr N B (.slice AN ns.length cN) es ns list o A c (.slice A5 o.zs.length c5) k) (fun i _ => ns.length - (intOf i).toNat)
    case atStart => exact ⟨0, rfl, Nat.zero_le _, P0⟩
    case round =>
      obtain ⟨k, rfl, hk, b, AO2, cO2, hb, hN, hop, hap, hlv, hu, hbl, hch, hwN⟩ := hrel
      clear P0
      have hz := hbl.size
      have HB := hid hb
      have hbr := best_lt es list o.s k
      rw [← hb] at hbr
      clear hb
      have hNl := heap_lt hN
      by_cases hlt : k < ns.length
      · have hke : k < es.length := by omega
        obtain ⟨ad, hAN, hba, hcp⟩ := hch.row_.ptr_ hlt
        subst hAN
        obtain ⟨hT1, hT2⟩ := HTX.out k hlt
        obtain ⟨-, -, -, -, -, hct, -⟩ := hch.cells hke hlt
        have hgl := hch.lt hlt
        rw [hT1] at hct hT2
        obtain ⟨gk, hgk⟩ : ∃ gk, ns[k].g = gk := ⟨_, rfl⟩
        have hdc := depth_any B _ es ns k wr hch hke hlt (by omega)
        have HPT : Hid (pTo ns (k : Int) = .pointer (some ⟨gk, 0, none⟩)) := by rw [← hgk]; exact pTo_some hlt
        rw [hgk] at hcp hct hgl hdc
        have hdl := dep_le hch.2.1 k hke
        have i0 : 0 ≤ (k : Int) := by omega
        have i1 : (k : Int) < (ns.length : Int) := by omega
        obtain ⟨d, hd⟩ : ∃ d, dep es k = d := ⟨_, rfl⟩
        rw [hd] at hdc hdl
        have HD := hid hd
        clear hd hgk hT1
        by_cases h2 : 2 ≤ d
        · have HN : Hid (bestF es list o.s (k + 1) = bestF es list o.s k) := bestF_no (fun e => by have := e.2; rw [HD.out] at this; omega)
          go_wp2_with (go_at_call 44; refine hdc.mono ?_; rintro e w' ⟨rfl, rfl⟩)
          go_roundw
          case rel => exact ⟨k + 1, by go_num, by omega, b, AO2, cO2, by rw [HB.out, HN.out], hN, hop, hap, hlv, hu, hbl, hch, hwN⟩
          case measure => simp [intOf]; omega
        · have h2' : (d : Int) < 2 := by omega
          obtain ⟨-, -, hcs, -⟩ := id hu.reads
          obtain ⟨tk, htk⟩ : ∃ tk, txtOf list (k : Int) = tk := ⟨_, rfl⟩
          obtain ⟨tb, htb⟩ : ∃ tb, txtOf list b = tb := ⟨_, rfl⟩
          rw [htk] at hct hT2
          rw [htb] at hN hop hap
          have HTK := hid htk
          have HTB := hid htb
          clear htk htb h2
          go_wp2_with (go_at_call 44; refine hdc.mono ?_; rintro e w' ⟨rfl, rfl⟩)
          have hsk : tk.size ≤ 1048576 := by omega
          have hct' : wr.drew.cell? ⟨gk, 5, none⟩ = some (.string tk) := hct
          have hcs' : wr.drew.cell? ⟨w.heap.size, 2, none⟩ = some (.string o.s) := hcs
          have hul := hu.lt
          go_region_held3 (fun w' => w'.cell? ⟨gk, 5, none⟩ = some (.string tk) ∧ w'.cell? ⟨w.heap.size, 2, none⟩ = some (.string o.s)) (go_keep)
            ((go_at_call 70; (with_reducible refine (implDeltaMake_any tk o.s wr.drew hsk hsn).mono ?_); rintro e w7 ⟨ov, rfl, o7, b7⟩; obtain ⟨AO7, cO7, rfl, hr7, -⟩ := o7.form; have q1 := (b7.cell (p := ⟨gk, 5, none⟩) hgl).trans hct'; have q2 := (b7.cell (p := ⟨w.heap.size, 2, none⟩) hul).trans hcs'))
          replace b7 : Below wr.heap.size wr w7 := ((Below.refl wr.heap.size wr).drew).trans (show Below wr.heap.size wr.drew w7 from b7)
          replace o7 : OwnOps w7 wr.heap.size (.slice AO7 (dMake tk o.s).length cO7) (dMake tk o.s) := o7
          have hN7 := (b7.block _ hNl).trans hN
          have hop7 := hop.below b7
          have hlv7 := hlv.below b7 (Nat.le_refl _)
          have hu7 := hu.below b7 hu.lt
          have hbl7 := hbl.trans (b7.mono hz)
          have hch7 := hch.below b7 (Nat.le_refl _)
          have hap7 : Ap2 (.slice A5 o.zs.length c5) (.slice AO7 (dMake tk o.s).length cO7) := fun q e1 e2 => by
            have := (World.ownsRow.lt hlv q e1).2
            have := o7.lt q e2
            omega
          have hr2 : Row w7 w7.heap.size AO2 (opsV (dMake tb o.s)) := by
            obtain ⟨AX, cX, hv, hr, _⟩ := hop7.form
            injection hv with e1 _ _
            subst e1
            exact hr
          have hNl7 := heap_lt hN7
          obtain ⟨-, -, -, c3, -, -, -⟩ := cells6 hN7
          have C3 := Later.cell (p := ⟨N, 3, none⟩) c3 hNl7
          obtain ⟨n1, hn1⟩ : ∃ n1, dsz (dMake tk o.s) = n1 := ⟨_, rfl⟩
          obtain ⟨n2, hn2⟩ : ∃ n2, dsz (dMake tb o.s) = n2 := ⟨_, rfl⟩
          have HN1 := hid hn1
          have HN2 := hid hn2
          have hk1 := fun (y : Later w7.heap.size w7) => Later.call (Nat.le_refl _) y (deltaSize_val n1 AO7 cO7 tk o.s y.w ((hr7.later y).more (Later.size (Nat.le_refl _) y)) HN1.out)
          have hk2 := fun (y : Later w7.heap.size w7) => Later.call (Nat.le_refl _) y (deltaSize_val n2 AO2 cO2 tb o.s y.w ((hr2.later y).more (Later.size (Nat.le_refl _) y)) HN2.out)
          clear hn1 hn2 hop hlv hu hbl hch hN hct hcs hct' hcs' hcp q1 q2 b7 hdc hba hr7 hr2 c3
          by_cases hlt2 : n1 < n2
          · have hl2 : (n1 : Int) < (n2 : Int) := by omega
            have HN : Hid (bestF es list o.s (k + 1) = ((k : Int), dsz (dMake (txtOf list (k : Int)) o.s))) := bestF_yes (by rw [HTK.out, HN1.out, (bestF_is es list o.s k).2.2.1, ← HB.out, HTB.out, HN2.out]; exact hlt2) (by rw [HD.out]; omega)
            clear hlt2
            go_wp2_with fail
            refine wp_region_later w7.heap.size (by kernel_rfl) (by kernel_rfl) ?_
            repeat (go_big_quiet_step ((first | (go_at_call 71; with_reducible exact hk1 _) | (go_at_call 71; with_reducible exact hk2 _))))
            refine wpQuiet_nil ?_
            intro _ hw'
            obtain ⟨xx, hxx⟩ := hw'
            have hbx := xx.b
            subst hxx
            clear hk1 hk2 C3
            generalize Later.w xx = w8 at *
            have hN8 := (hbx.block _ hNl7).trans hN7
            obtain ⟨d0, d1, d2, d3, d4, d5, df⟩ := cells6 hN8
            have df2 := df 2
            have df3 := df 3
            have df4 := df 4
            clear df
            have hlv8 := hlv7.below hbx (Nat.le_refl _)
            have o8 := (o7.base hz).below hbx
            have hu8 := hu7.below hbx hu7.lt
            have hbl8 := hbl7.trans (hbx.mono hbl7.size)
            clear hN7 hop7 hlv7 hu7 hbl7 hch7 o7
            go_wp2_with fail
            have hN9 := set_heap (set_heap (set_heap hN8 4 (.pointer (some ⟨gk, 0, none⟩))) 2 (.int .i64 (k : Int))) 3 (.slice AO7 (dMake tk o.s).length cO7)
            have hlv9 : Own _ w.heap.size (.slice A5 o.zs.length c5) o.zs := own3 (x4 := .pointer (some ⟨gk, 0, none⟩)) (x2 := .int .i64 (k : Int)) (x3 := .slice AO7 (dMake tk o.s).length cO7) hlv8 hN8 (by decide)
            have o9 : OwnOps _ w.heap.size (.slice AO7 (dMake tk o.s).length cO7) (dMake tk o.s) := own3 (x4 := .pointer (some ⟨gk, 0, none⟩)) (x2 := .int .i64 (k : Int)) (x3 := .slice AO7 (dMake tk o.s).length cO7) o8 hN8 (by decide)
            have hne : w.heap.size ≠ N := by omega
            have hu9 := ((hu8.far (p := ⟨N, 4, none⟩) hne (.pointer (some ⟨gk, 0, none⟩))).far (p := ⟨N, 2, none⟩) hne (.int .i64 (k : Int))).far (p := ⟨N, 3, none⟩) hne (.slice AO7 (dMake tk o.s).length cO7)
            have hbl9 := ((hbl8.setCell (p := ⟨N, 4, none⟩) (by show w.heap.size ≤ N; omega) (.pointer (some ⟨gk, 0, none⟩))).setCell (p := ⟨N, 2, none⟩) (by show w.heap.size ≤ N; omega) (.int .i64 (k : Int))).setCell (p := ⟨N, 3, none⟩) (by show w.heap.size ≤ N; omega) (.slice AO7 (dMake tk o.s).length cO7)
            have hch9 := h.below hbl9 (Nat.le_refl _)
            go_roundw
            case rel => exact ⟨k + 1, by go_num, by omega, (k : Int), AO7, cO7, by rw [HN.out], by rw [HTK.out, HPT.out]; exact hN9, by rw [HTK.out]; exact o9, by rw [HTK.out]; exact hap7, hlv9, hu9, hbl9, hch9, hwN⟩
            case measure => simp [intOf]; omega
          · have hl2 : ¬ (n1 : Int) < (n2 : Int) := by omega
            have HN : Hid (bestF es list o.s (k + 1) = bestF es list o.s k) := bestF_no (fun e => by
              have e1 := e.1
              rw [HTK.out, HN1.out, (bestF_is es list o.s k).2.2.1, ← HB.out, HTB.out, HN2.out] at e1
              exact hlt2 e1)
            clear hlt2
            go_wp2_with fail
            refine wp_region_later w7.heap.size (by kernel_rfl) (by kernel_rfl) ?_
            repeat (go_big_quiet_step ((first | (go_at_call 71; with_reducible exact hk1 _) | (go_at_call 71; with_reducible exact hk2 _))))
            refine wpQuiet_nil ?_
            intro _ hw'
            obtain ⟨xx, hxx⟩ := hw'
            have hbx := xx.b
            subst hxx
            clear hk1 hk2 C3
            generalize Later.w xx = w8 at *
            go_wp2_with fail
            go_roundw
            case rel => exact ⟨k + 1, by go_num, by omega, b, AO2, cO2, by rw [HB.out, HN.out], by rw [HTB.out]; exact (hbx.block _ hNl7).trans hN7, by rw [HTB.out]; exact hop7.below hbx, by rw [HTB.out]; exact hap, hlv7.below hbx (Nat.le_refl _), hu7.below hbx hu7.lt, hbl7.trans (hbx.mono hbl7.size), hch7.below hbx (Nat.le_refl _), hwN⟩
            case measure => simp [intOf]; omega
      · have hk' : k = ns.length := by omega
        subst hk'
        have HE : Hid ((mkE es list o).b = b) := by show (bestF es list o.s es.length).1 = b; rw [HB.out, show es.length = ns.length from by omega]
        have HO : Hid ((mkE es list o).ops = dMake (txtOf list b) o.s) := by show _ = _; rw [← HE.out]; rfl
        go_wp2_with fail
        go_ret
        exact ⟨N, _, _, rfl, by omega, by rw [HE.out]; exact hN, hlv, by rw [HO.out]; exact hop, hap, hbl⟩
  · have b56 : Below w5.heap.size w5 w6 := ((Below.refl w5.heap.size w5).alloc (Nat.le_refl _) (.cells #[.int .i64 0, .slice none 0 0, .int .i64 0, .slice none 0 0] 33)).trans (b6.mono (by simp))
    have hY := rdy_set (w := w) (w5 := w5) (a0d.trans (b5.mono a0d.size) |>.trans (b56.mono (Nat.le_trans a0d.size b5.size))) u6 o5 b56 o6 hz2 (by simp) (Nat.le_trans hz2 b5.size) hE6 (by have := u5.lt; omega)
    rename_i hHeld
    clear hE6 b56 e0 e1 e2 e3 ef0 ef1 ef2 ef3
    generalize ((((w6.setCell ⟨w5.heap.size, 0, none⟩ (.int .i64 o.kd)).setCell ⟨w5.heap.size, 1, none⟩ (.slice A5 o.zs.length c5)).setCell ⟨w5.heap.size, 2, none⟩ (.int .i64 (-1))).setCell ⟨w5.heap.size, 3, none⟩ (.slice AO (dMake ⟨#[]⟩ o.s).length cO)) = Y at *
    obtain ⟨bY, uY, eY, l5Y, o6Y, apY, hGY⟩ := hY
    have hcY := h.below bY (Nat.le_refl _)
    obtain ⟨f0, f1, f2, f3, -⟩ := cells4 eY
    obtain ⟨k0, k1, k2, -⟩ := id uY.reads
    clear hHeld hro u0 r0 hc0 hc0d a0 a0d u0d u5 o5 u6 o6 b6 b5 m0 m1 m2 y0 y1 y2 rA rB aZ u0z hz3 hz4' hZ0 ne0 ne0' ne5 ne6 hz1 hz2 x0 x1 x2 HW0 z0 hrow0
    have aN := (Below.refl Y.heap.size Y).alloc (Nat.le_refl _) (.cells #[.int .i64 o.kd, .slice A5 o.zs.length c5, .int .i64 (-1), .slice AO (dMake ⟨#[]⟩ o.s).length cO, .pointer none, .string o.s] 61)
    have hN0 := heap_alloc_new Y (.cells #[.int .i64 o.kd, .slice A5 o.zs.length c5, .int .i64 (-1), .slice AO (dMake ⟨#[]⟩ o.s).length cO, .pointer none, .string o.s] 61)
    have P0 : PSt w (Y.alloc (.cells #[.int .i64 o.kd, .slice A5 o.zs.length c5, .int .i64 (-1), .slice AO (dMake ⟨#[]⟩ o.s).length cO, .pointer none, .string o.s] 61)) Y.heap.size B (.slice AN ns.length cN) es ns list o A c (.slice A5 o.zs.length c5) 0 :=
      ⟨-1, AO, cO, rfl, hN0, o6Y.below aN, apY, l5Y.below aN (Nat.le_refl _), uY.below aN uY.lt, bY.trans (aN.mono bY.size), hcY.below aN (Nat.le_refl _), uY.lt⟩
    go_wp2_with fail
    generalize Y.alloc (.cells #[.int .i64 o.kd, .slice A5 o.zs.length c5, .int .i64 (-1), .slice AO (dMake ⟨#[]⟩ o.s).length cO, .pointer none, .string o.s] 61) = Y1 at *
    generalize Y.heap.size = N at *
    clear aN hN0 f0 f1 f2 f3 k0 k1 k2 eY l5Y o6Y apY uY bY hcY
    go_loopw [26] (fun i wr => ∃ k : Nat, i = .int .i64 k ∧ k ≤ ns.length ∧ PSt w wr N B (.slice AN ns.length cN) es ns list o A c (.slice A5 o.zs.length c5) k) (fun i _ => ns.length - (intOf i).toNat)
    case atStart => exact ⟨0, rfl, Nat.zero_le _, P0⟩
    case round =>
      obtain ⟨k, rfl, hk, b, AO2, cO2, hb, hN, hop, hap, hlv, hu, hbl, hch, hwN⟩ := hrel
      clear P0
      have hz := hbl.size
      have HB := hid hb
      have hbr := best_lt es list o.s k
      rw [← hb] at hbr
      clear hb
      have hNl := heap_lt hN
      by_cases hlt : k < ns.length
      · have hke : k < es.length := by omega
        obtain ⟨ad, hAN, hba, hcp⟩ := hch.row_.ptr_ hlt
        subst hAN
        obtain ⟨hT1, hT2⟩ := HTX.out k hlt
        obtain ⟨-, -, -, -, -, hct, -⟩ := hch.cells hke hlt
        have hgl := hch.lt hlt
        rw [hT1] at hct hT2
        obtain ⟨gk, hgk⟩ : ∃ gk, ns[k].g = gk := ⟨_, rfl⟩
        have hdc := depth_any B _ es ns k wr hch hke hlt (by omega)
        have HPT : Hid (pTo ns (k : Int) = .pointer (some ⟨gk, 0, none⟩)) := by rw [← hgk]; exact pTo_some hlt
        rw [hgk] at hcp hct hgl hdc
        have hdl := dep_le hch.2.1 k hke
        have i0 : 0 ≤ (k : Int) := by omega
        have i1 : (k : Int) < (ns.length : Int) := by omega
        obtain ⟨d, hd⟩ : ∃ d, dep es k = d := ⟨_, rfl⟩
        rw [hd] at hdc hdl
        have HD := hid hd
        clear hd hgk hT1
        by_cases h2 : 2 ≤ d
        · have HN : Hid (bestF es list o.s (k + 1) = bestF es list o.s k) := bestF_no (fun e => by have := e.2; rw [HD.out] at this; omega)
          go_wp2_with (go_at_call 44; refine hdc.mono ?_; rintro e w' ⟨rfl, rfl⟩)
          go_roundw
          case rel => exact ⟨k + 1, by go_num, by omega, b, AO2, cO2, by rw [HB.out, HN.out], hN, hop, hap, hlv, hu, hbl, hch, hwN⟩
          case measure => simp [intOf]; omega
        · have h2' : (d : Int) < 2 := by omega
          obtain ⟨-, -, hcs, -⟩ := id hu.reads
          obtain ⟨tk, htk⟩ : ∃ tk, txtOf list (k : Int) = tk := ⟨_, rfl⟩
          obtain ⟨tb, htb⟩ : ∃ tb, txtOf list b = tb := ⟨_, rfl⟩
          rw [htk] at hct hT2
          rw [htb] at hN hop hap
          have HTK := hid htk
          have HTB := hid htb
          clear htk htb h2
          go_wp2_with (go_at_call 44; refine hdc.mono ?_; rintro e w' ⟨rfl, rfl⟩)
          have hsk : tk.size ≤ 1048576 := by omega
          have hct' : wr.drew.cell? ⟨gk, 5, none⟩ = some (.string tk) := hct
          have hcs' : wr.drew.cell? ⟨w.heap.size, 2, none⟩ = some (.string o.s) := hcs
          have hul := hu.lt
          go_region_held3 (fun w' => w'.cell? ⟨gk, 5, none⟩ = some (.string tk) ∧ w'.cell? ⟨w.heap.size, 2, none⟩ = some (.string o.s)) (go_keep)
            ((go_at_call 70; (with_reducible refine (implDeltaMake_any tk o.s wr.drew hsk hsn).mono ?_); rintro e w7 ⟨ov, rfl, o7, b7⟩; obtain ⟨AO7, cO7, rfl, hr7, -⟩ := o7.form; have q1 := (b7.cell (p := ⟨gk, 5, none⟩) hgl).trans hct'; have q2 := (b7.cell (p := ⟨w.heap.size, 2, none⟩) hul).trans hcs'))
          replace b7 : Below wr.heap.size wr w7 := ((Below.refl wr.heap.size wr).drew).trans (show Below wr.heap.size wr.drew w7 from b7)
          replace o7 : OwnOps w7 wr.heap.size (.slice AO7 (dMake tk o.s).length cO7) (dMake tk o.s) := o7
          have hN7 := (b7.block _ hNl).trans hN
          have hop7 := hop.below b7
          have hlv7 := hlv.below b7 (Nat.le_refl _)
          have hu7 := hu.below b7 hu.lt
          have hbl7 := hbl.trans (b7.mono hz)
          have hch7 := hch.below b7 (Nat.le_refl _)
          have hap7 : Ap2 (.slice A5 o.zs.length c5) (.slice AO7 (dMake tk o.s).length cO7) := fun q e1 e2 => by
            have := (World.ownsRow.lt hlv q e1).2
            have := o7.lt q e2
            omega
          have hr2 : Row w7 w7.heap.size AO2 (opsV (dMake tb o.s)) := by
            obtain ⟨AX, cX, hv, hr, _⟩ := hop7.form
            injection hv with e1 _ _
            subst e1
            exact hr
          have hNl7 := heap_lt hN7
          obtain ⟨-, -, -, c3, -, -, -⟩ := cells6 hN7
          have C3 := Later.cell (p := ⟨N, 3, none⟩) c3 hNl7
          obtain ⟨n1, hn1⟩ : ∃ n1, dsz (dMake tk o.s) = n1 := ⟨_, rfl⟩
          obtain ⟨n2, hn2⟩ : ∃ n2, dsz (dMake tb o.s) = n2 := ⟨_, rfl⟩
          have HN1 := hid hn1
          have HN2 := hid hn2
          have hk1 := fun (y : Later w7.heap.size w7) => Later.call (Nat.le_refl _) y (deltaSize_val n1 AO7 cO7 tk o.s y.w ((hr7.later y).more (Later.size (Nat.le_refl _) y)) HN1.out)
          have hk2 := fun (y : Later w7.heap.size w7) => Later.call (Nat.le_refl _) y (deltaSize_val n2 AO2 cO2 tb o.s y.w ((hr2.later y).more (Later.size (Nat.le_refl _) y)) HN2.out)
          clear hn1 hn2 hop hlv hu hbl hch hN hct hcs hct' hcs' hcp q1 q2 b7 hdc hba hr7 hr2 c3
          by_cases hlt2 : n1 < n2
          · have hl2 : (n1 : Int) < (n2 : Int) := by omega
            have HN : Hid (bestF es list o.s (k + 1) = ((k : Int), dsz (dMake (txtOf list (k : Int)) o.s))) := bestF_yes (by rw [HTK.out, HN1.out, (bestF_is es list o.s k).2.2.1, ← HB.out, HTB.out, HN2.out]; exact hlt2) (by rw [HD.out]; omega)
            clear hlt2
            go_wp2_with fail
            refine wp_region_later w7.heap.size (by kernel_rfl) (by kernel_rfl) ?_
            repeat (go_big_quiet_step ((first | (go_at_call 71; with_reducible exact hk1 _) | (go_at_call 71; with_reducible exact hk2 _))))
            refine wpQuiet_nil ?_
            intro _ hw'
            obtain ⟨xx, hxx⟩ := hw'
            have hbx := xx.b
            subst hxx
            clear hk1 hk2 C3
            generalize Later.w xx = w8 at *
            have hN8 := (hbx.block _ hNl7).trans hN7
            obtain ⟨d0, d1, d2, d3, d4, d5, df⟩ := cells6 hN8
            have df2 := df 2
            have df3 := df 3
            have df4 := df 4
            clear df
            have hlv8 := hlv7.below hbx (Nat.le_refl _)
            have o8 := (o7.base hz).below hbx
            have hu8 := hu7.below hbx hu7.lt
            have hbl8 := hbl7.trans (hbx.mono hbl7.size)
            clear hN7 hop7 hlv7 hu7 hbl7 hch7 o7
            go_wp2_with fail
            have hN9 := set_heap (set_heap (set_heap hN8 4 (.pointer (some ⟨gk, 0, none⟩))) 2 (.int .i64 (k : Int))) 3 (.slice AO7 (dMake tk o.s).length cO7)
            have hlv9 : Own _ w.heap.size (.slice A5 o.zs.length c5) o.zs := own3 (x4 := .pointer (some ⟨gk, 0, none⟩)) (x2 := .int .i64 (k : Int)) (x3 := .slice AO7 (dMake tk o.s).length cO7) hlv8 hN8 (by decide)
            have o9 : OwnOps _ w.heap.size (.slice AO7 (dMake tk o.s).length cO7) (dMake tk o.s) := own3 (x4 := .pointer (some ⟨gk, 0, none⟩)) (x2 := .int .i64 (k : Int)) (x3 := .slice AO7 (dMake tk o.s).length cO7) o8 hN8 (by decide)
            have hne : w.heap.size ≠ N := by omega
            have hu9 := ((hu8.far (p := ⟨N, 4, none⟩) hne (.pointer (some ⟨gk, 0, none⟩))).far (p := ⟨N, 2, none⟩) hne (.int .i64 (k : Int))).far (p := ⟨N, 3, none⟩) hne (.slice AO7 (dMake tk o.s).length cO7)
            have hbl9 := ((hbl8.setCell (p := ⟨N, 4, none⟩) (by show w.heap.size ≤ N; omega) (.pointer (some ⟨gk, 0, none⟩))).setCell (p := ⟨N, 2, none⟩) (by show w.heap.size ≤ N; omega) (.int .i64 (k : Int))).setCell (p := ⟨N, 3, none⟩) (by show w.heap.size ≤ N; omega) (.slice AO7 (dMake tk o.s).length cO7)
            have hch9 := h.below hbl9 (Nat.le_refl _)
            go_roundw
            case rel => exact ⟨k + 1, by go_num, by omega, (k : Int), AO7, cO7, by rw [HN.out], by rw [HTK.out, HPT.out]; exact hN9, by rw [HTK.out]; exact o9, by rw [HTK.out]; exact hap7, hlv9, hu9, hbl9, hch9, hwN⟩
            case measure => simp [intOf]; omega
          · have hl2 : ¬ (n1 : Int) < (n2 : Int) := by omega
            have HN : Hid (bestF es list o.s (k + 1) = bestF es list o.s k) := bestF_no (fun e => by
              have e1 := e.1
              rw [HTK.out, HN1.out, (bestF_is es list o.s k).2.2.1, ← HB.out, HTB.out, HN2.out] at e1
              exact hlt2 e1)
            clear hlt2
            go_wp2_with fail
            refine wp_region_later w7.heap.size (by kernel_rfl) (by kernel_rfl) ?_
            repeat (go_big_quiet_step ((first | (go_at_call 71; with_reducible exact hk1 _) | (go_at_call 71; with_reducible exact hk2 _))))
            refine wpQuiet_nil ?_
            intro _ hw'
            obtain ⟨xx, hxx⟩ := hw'
            have hbx := xx.b
            subst hxx
            clear hk1 hk2 C3
            generalize Later.w xx = w8 at *
            go_wp2_with fail
            go_roundw
            case rel => exact ⟨k + 1, by go_num, by omega, b, AO2, cO2, by rw [HB.out, HN.out], by rw [HTB.out]; exact (hbx.block _ hNl7).trans hN7, by rw [HTB.out]; exact hop7.below hbx, by rw [HTB.out]; exact hap, hlv7.below hbx (Nat.le_refl _), hu7.below hbx hu7.lt, hbl7.trans (hbx.mono hbl7.size), hch7.below hbx (Nat.le_refl _), hwN⟩
            case measure => simp [intOf]; omega
      · have hk' : k = ns.length := by omega
        subst hk'
        have HE : Hid ((mkE es list o).b = b) := by show (bestF es list o.s es.length).1 = b; rw [HB.out, show es.length = ns.length from by omega]
        have HO : Hid ((mkE es list o).ops = dMake (txtOf list b) o.s) := by show _ = _; rw [← HE.out]; rfl
        go_wp2_with fail
        go_ret
        exact ⟨N, _, _, rfl, by omega, by rw [HE.out]; exact hN, hlv, by rw [HO.out]; exact hop, hap, hbl⟩
  · have hY := rdy_set (w := w) (w5 := w5) (a0.trans (aZ.mono a0.size) |>.trans (b5.mono hz3) |>.trans (b6.mono (Nat.le_trans hz3 b5.size))) u6 o5 b6 o6 hz3 (Nat.le_refl _) (Nat.le_trans hz3 b5.size) hE6 (by omega)
    rename_i hHeld
    clear hE6 hE5 hl5 e0 e1 e2 e3 ef0 ef1 ef2 ef3
    generalize ((((w6.setCell ⟨w.heap.size + 1, 0, none⟩ (.int .i64 o.kd)).setCell ⟨w.heap.size + 1, 1, none⟩ (.slice A5 o.zs.length c5)).setCell ⟨w.heap.size + 1, 2, none⟩ (.int .i64 (-1))).setCell ⟨w.heap.size + 1, 3, none⟩ (.slice AO (dMake ⟨#[]⟩ o.s).length cO)) = Y at *
    obtain ⟨bY, uY, eY, l5Y, o6Y, apY, hGY⟩ := hY
    have hcY := h.below bY (Nat.le_refl _)
    obtain ⟨f0, f1, f2, f3, -⟩ := cells4 eY
    obtain ⟨k0, k1, k2, -⟩ := id uY.reads
    clear hHeld hro u0 r0 hc0 hc0d a0 a0d u0d u5 o5 u6 o6 b6 b5 m0 m1 m2 y0 y1 y2 rA rB aZ u0z hz3 hz4' hZ0 ne0 ne0' ne5 ne6 hz1 hz2 x0 x1 x2 HW0 z0 hrow0
    have aN := (Below.refl Y.heap.size Y).alloc (Nat.le_refl _) (.cells #[.int .i64 o.kd, .slice A5 o.zs.length c5, .int .i64 (-1), .slice AO (dMake ⟨#[]⟩ o.s).length cO, .pointer none, .string o.s] 61)
    have hN0 := heap_alloc_new Y (.cells #[.int .i64 o.kd, .slice A5 o.zs.length c5, .int .i64 (-1), .slice AO (dMake ⟨#[]⟩ o.s).length cO, .pointer none, .string o.s] 61)
    have P0 : PSt w (Y.alloc (.cells #[.int .i64 o.kd, .slice A5 o.zs.length c5, .int .i64 (-1), .slice AO (dMake ⟨#[]⟩ o.s).length cO, .pointer none, .string o.s] 61)) Y.heap.size B (.slice AN ns.length cN) es ns list o A c (.slice A5 o.zs.length c5) 0 :=
      ⟨-1, AO, cO, rfl, hN0, o6Y.below aN, apY, l5Y.below aN (Nat.le_refl _), uY.below aN uY.lt, bY.trans (aN.mono bY.size), hcY.below aN (Nat.le_refl _), uY.lt⟩
    go_wp2_with fail
    generalize Y.alloc (.cells #[.int .i64 o.kd, .slice A5 o.zs.length c5, .int .i64 (-1), .slice AO (dMake ⟨#[]⟩ o.s).length cO, .pointer none, .string o.s] 61) = Y1 at *
    generalize Y.heap.size = N at *
    clear aN hN0 f0 f1 f2 f3 k0 k1 k2 eY l5Y o6Y apY uY bY hcY
    go_loopw [26] (fun i wr => ∃ k : Nat, i = .int .i64 k ∧ k ≤ ns.length ∧ PSt w wr N B (.slice AN ns.length cN) es ns list o A c (.slice A5 o.zs.length c5) k) (fun i _ => ns.length - (intOf i).toNat)
    case atStart => exact ⟨0, rfl, Nat.zero_le _, P0⟩
    case round =>
      obtain ⟨k, rfl, hk, b, AO2, cO2, hb, hN, hop, hap, hlv, hu, hbl, hch, hwN⟩ := hrel
      clear P0
      have hz := hbl.size
      have HB := hid hb
      have hbr := best_lt es list o.s k
      rw [← hb] at hbr
      clear hb
      have hNl := heap_lt hN
      by_cases hlt : k < ns.length
      · have hke : k < es.length := by omega
        obtain ⟨ad, hAN, hba, hcp⟩ := hch.row_.ptr_ hlt
        subst hAN
        obtain ⟨hT1, hT2⟩ := HTX.out k hlt
        obtain ⟨-, -, -, -, -, hct, -⟩ := hch.cells hke hlt
        have hgl := hch.lt hlt
        rw [hT1] at hct hT2
        obtain ⟨gk, hgk⟩ : ∃ gk, ns[k].g = gk := ⟨_, rfl⟩
        have hdc := depth_any B _ es ns k wr hch hke hlt (by omega)
        have HPT : Hid (pTo ns (k : Int) = .pointer (some ⟨gk, 0, none⟩)) := by rw [← hgk]; exact pTo_some hlt
        rw [hgk] at hcp hct hgl hdc
        have hdl := dep_le hch.2.1 k hke
        have i0 : 0 ≤ (k : Int) := by omega
        have i1 : (k : Int) < (ns.length : Int) := by omega
        obtain ⟨d, hd⟩ : ∃ d, dep es k = d := ⟨_, rfl⟩
        rw [hd] at hdc hdl
        have HD := hid hd
        clear hd hgk hT1
        by_cases h2 : 2 ≤ d
        · have HN : Hid (bestF es list o.s (k + 1) = bestF es list o.s k) := bestF_no (fun e => by have := e.2; rw [HD.out] at this; omega)
          go_wp2_with (go_at_call 44; refine hdc.mono ?_; rintro e w' ⟨rfl, rfl⟩)
          go_roundw
          case rel => exact ⟨k + 1, by go_num, by omega, b, AO2, cO2, by rw [HB.out, HN.out], hN, hop, hap, hlv, hu, hbl, hch, hwN⟩
          case measure => simp [intOf]; omega
        · have h2' : (d : Int) < 2 := by omega
          obtain ⟨-, -, hcs, -⟩ := id hu.reads
          obtain ⟨tk, htk⟩ : ∃ tk, txtOf list (k : Int) = tk := ⟨_, rfl⟩
          obtain ⟨tb, htb⟩ : ∃ tb, txtOf list b = tb := ⟨_, rfl⟩
          rw [htk] at hct hT2
          rw [htb] at hN hop hap
          have HTK := hid htk
          have HTB := hid htb
          clear htk htb h2
          go_wp2_with (go_at_call 44; refine hdc.mono ?_; rintro e w' ⟨rfl, rfl⟩)
          have hsk : tk.size ≤ 1048576 := by omega
          have hct' : wr.drew.cell? ⟨gk, 5, none⟩ = some (.string tk) := hct
          have hcs' : wr.drew.cell? ⟨w.heap.size, 2, none⟩ = some (.string o.s) := hcs
          have hul := hu.lt
          go_region_held3 (fun w' => w'.cell? ⟨gk, 5, none⟩ = some (.string tk) ∧ w'.cell? ⟨w.heap.size, 2, none⟩ = some (.string o.s)) (go_keep)
            ((go_at_call 70; (with_reducible refine (implDeltaMake_any tk o.s wr.drew hsk hsn).mono ?_); rintro e w7 ⟨ov, rfl, o7, b7⟩; obtain ⟨AO7, cO7, rfl, hr7, -⟩ := o7.form; have q1 := (b7.cell (p := ⟨gk, 5, none⟩) hgl).trans hct'; have q2 := (b7.cell (p := ⟨w.heap.size, 2, none⟩) hul).trans hcs'))
          replace b7 : Below wr.heap.size wr w7 := ((Below.refl wr.heap.size wr).drew).trans (show Below wr.heap.size wr.drew w7 from b7)
          replace o7 : OwnOps w7 wr.heap.size (.slice AO7 (dMake tk o.s).length cO7) (dMake tk o.s) := o7
          have hN7 := (b7.block _ hNl).trans hN
          have hop7 := hop.below b7
          have hlv7 := hlv.below b7 (Nat.le_refl _)
          have hu7 := hu.below b7 hu.lt
          have hbl7 := hbl.trans (b7.mono hz)
          have hch7 := hch.below b7 (Nat.le_refl _)
          have hap7 : Ap2 (.slice A5 o.zs.length c5) (.slice AO7 (dMake tk o.s).length cO7) := fun q e1 e2 => by
            have := (World.ownsRow.lt hlv q e1).2
            have := o7.lt q e2
            omega
          have hr2 : Row w7 w7.heap.size AO2 (opsV (dMake tb o.s)) := by
            obtain ⟨AX, cX, hv, hr, _⟩ := hop7.form
            injection hv with e1 _ _
            subst e1
            exact hr
          have hNl7 := heap_lt hN7
          obtain ⟨-, -, -, c3, -, -, -⟩ := cells6 hN7
          have C3 := Later.cell (p := ⟨N, 3, none⟩) c3 hNl7
          obtain ⟨n1, hn1⟩ : ∃ n1, dsz (dMake tk o.s) = n1 := ⟨_, rfl⟩
          obtain ⟨n2, hn2⟩ : ∃ n2, dsz (dMake tb o.s) = n2 := ⟨_, rfl⟩
          have HN1 := hid hn1
          have HN2 := hid hn2
          have hk1 := fun (y : Later w7.heap.size w7) => Later.call (Nat.le_refl _) y (deltaSize_val n1 AO7 cO7 tk o.s y.w ((hr7.later y).more (Later.size (Nat.le_refl _) y)) HN1.out)
          have hk2 := fun (y : Later w7.heap.size w7) => Later.call (Nat.le_refl _) y (deltaSize_val n2 AO2 cO2 tb o.s y.w ((hr2.later y).more (Later.size (Nat.le_refl _) y)) HN2.out)
          clear hn1 hn2 hop hlv hu hbl hch hN hct hcs hct' hcs' hcp q1 q2 b7 hdc hba hr7 hr2 c3
          by_cases hlt2 : n1 < n2
          · have hl2 : (n1 : Int) < (n2 : Int) := by omega
            have HN : Hid (bestF es list o.s (k + 1) = ((k : Int), dsz (dMake (txtOf list (k : Int)) o.s))) := bestF_yes (by rw [HTK.out, HN1.out, (bestF_is es list o.s k).2.2.1, ← HB.out, HTB.out, HN2.out]; exact hlt2) (by rw [HD.out]; omega)
            clear hlt2
            go_wp2_with fail
            refine wp_region_later w7.heap.size (by kernel_rfl) (by kernel_rfl) ?_
            repeat (go_big_quiet_step ((first | (go_at_call 71; with_reducible exact hk1 _) | (go_at_call 71; with_reducible exact hk2 _))))
            refine wpQuiet_nil ?_
            intro _ hw'
            obtain ⟨xx, hxx⟩ := hw'
            have hbx := xx.b
            subst hxx
            clear hk1 hk2 C3
            generalize Later.w xx = w8 at *
            have hN8 := (hbx.block _ hNl7).trans hN7
            obtain ⟨d0, d1, d2, d3, d4, d5, df⟩ := cells6 hN8
            have df2 := df 2
            have df3 := df 3
            have df4 := df 4
            clear df
            have hlv8 := hlv7.below hbx (Nat.le_refl _)
            have o8 := (o7.base hz).below hbx
            have hu8 := hu7.below hbx hu7.lt
            have hbl8 := hbl7.trans (hbx.mono hbl7.size)
            clear hN7 hop7 hlv7 hu7 hbl7 hch7 o7
            go_wp2_with fail
            have hN9 := set_heap (set_heap (set_heap hN8 4 (.pointer (some ⟨gk, 0, none⟩))) 2 (.int .i64 (k : Int))) 3 (.slice AO7 (dMake tk o.s).length cO7)
            have hlv9 : Own _ w.heap.size (.slice A5 o.zs.length c5) o.zs := own3 (x4 := .pointer (some ⟨gk, 0, none⟩)) (x2 := .int .i64 (k : Int)) (x3 := .slice AO7 (dMake tk o.s).length cO7) hlv8 hN8 (by decide)
            have o9 : OwnOps _ w.heap.size (.slice AO7 (dMake tk o.s).length cO7) (dMake tk o.s) := own3 (x4 := .pointer (some ⟨gk, 0, none⟩)) (x2 := .int .i64 (k : Int)) (x3 := .slice AO7 (dMake tk o.s).length cO7) o8 hN8 (by decide)
            have hne : w.heap.size ≠ N := by omega
            have hu9 := ((hu8.far (p := ⟨N, 4, none⟩) hne (.pointer (some ⟨gk, 0, none⟩))).far (p := ⟨N, 2, none⟩) hne (.int .i64 (k : Int))).far (p := ⟨N, 3, none⟩) hne (.slice AO7 (dMake tk o.s).length cO7)
            have hbl9 := ((hbl8.setCell (p := ⟨N, 4, none⟩) (by show w.heap.size ≤ N; omega) (.pointer (some ⟨gk, 0, none⟩))).setCell (p := ⟨N, 2, none⟩) (by show w.heap.size ≤ N; omega) (.int .i64 (k : Int))).setCell (p := ⟨N, 3, none⟩) (by show w.heap.size ≤ N; omega) (.slice AO7 (dMake tk o.s).length cO7)
            have hch9 := h.below hbl9 (Nat.le_refl _)
            go_roundw
            case rel => exact ⟨k + 1, by go_num, by omega, (k : Int), AO7, cO7, by rw [HN.out], by rw [HTK.out, HPT.out]; exact hN9, by rw [HTK.out]; exact o9, by rw [HTK.out]; exact hap7, hlv9, hu9, hbl9, hch9, hwN⟩
            case measure => simp [intOf]; omega
          · have hl2 : ¬ (n1 : Int) < (n2 : Int) := by omega
            have HN : Hid (bestF es list o.s (k + 1) = bestF es list o.s k) := bestF_no (fun e => by
              have e1 := e.1
              rw [HTK.out, HN1.out, (bestF_is es list o.s k).2.2.1, ← HB.out, HTB.out, HN2.out] at e1
              exact hlt2 e1)
            clear hlt2
            go_wp2_with fail
            refine wp_region_later w7.heap.size (by kernel_rfl) (by kernel_rfl) ?_
            repeat (go_big_quiet_step ((first | (go_at_call 71; with_reducible exact hk1 _) | (go_at_call 71; with_reducible exact hk2 _))))
            refine wpQuiet_nil ?_
            intro _ hw'
            obtain ⟨xx, hxx⟩ := hw'
            have hbx := xx.b
            subst hxx
            clear hk1 hk2 C3
            generalize Later.w xx = w8 at *
            go_wp2_with fail
            go_roundw
            case rel => exact ⟨k + 1, by go_num, by omega, b, AO2, cO2, by rw [HB.out, HN.out], by rw [HTB.out]; exact (hbx.block _ hNl7).trans hN7, by rw [HTB.out]; exact hop7.below hbx, by rw [HTB.out]; exact hap, hlv7.below hbx (Nat.le_refl _), hu7.below hbx hu7.lt, hbl7.trans (hbx.mono hbl7.size), hch7.below hbx (Nat.le_refl _), hwN⟩
            case measure => simp [intOf]; omega
      · have hk' : k = ns.length := by omega
        subst hk'
        have HE : Hid ((mkE es list o).b = b) := by show (bestF es list o.s es.length).1 = b; rw [HB.out, show es.length = ns.length from by omega]
        have HO : Hid ((mkE es list o).ops = dMake (txtOf list b) o.s) := by show _ = _; rw [← HE.out]; rfl
        go_wp2_with fail
        go_ret
        exact ⟨N, _, _, rfl, by omega, by rw [HE.out]; exact hN, hlv, by rw [HO.out]; exact hop, hap, hbl⟩
end Go.Proofs.Ytkekbobnbipmoaa
