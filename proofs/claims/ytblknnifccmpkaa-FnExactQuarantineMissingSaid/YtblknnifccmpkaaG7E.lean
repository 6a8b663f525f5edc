/-
  Walks: sizes of areas and quarantines by the laws' own helpers.
  Walks: areas and quarantines copied by the laws' own helpers.
  Walks: marks in the arguments' copies, from any number on.
-/
import Derived.Test.YtblknnifccmpkaaG7C
import Derived.Test.YtblknnifccmpkaaG3C
import Derived.Test.YtblknnifccmpkaaG5C
namespace Go.Proofs.Ytblknnifccmpkaa
open Go.RowKit Wo Pu Qu

def FitA (rs : List Ar) : Prop := ∀ a ∈ rs, Fit a.os ∧ a.os.length ≤ maxLen
def partSzA (rs : List Ar) (k : Nat) : Nat := ((rs.take k).map fun a => allSz a.os).sum
def allSzA (rs : List Ar) : Nat := rs.length + partSzA rs rs.length
theorem partSzA_succ {rs : List Ar} {k : Nat} (hk : k < rs.length) : partSzA rs (k + 1) = partSzA rs k + allSz rs[k].os := by
  unfold partSzA
  rw [List.take_succ_eq_append_getElem hk, List.map_append, List.sum_append]
  simp
theorem partSzA_ge {rs : List Ar} {i : Nat} (hi : i < rs.length) : ∀ k, i < k → k ≤ rs.length → allSz rs[i].os ≤ partSzA rs k := by
  intro k
  induction k with
  | zero => intro h; omega
  | succ k ih =>
    intro h1 h2
    rw [partSzA_succ (by omega)]
    by_cases e : i = k
    · subst e; omega
    · have := ih (by omega) (by omega)
      omega
theorem allSzA_fits {rs : List Ar} {m : Nat} (h : allSzA rs ≤ m) : rs.length ≤ m ∧ ∀ a ∈ rs, allSz a.os ≤ m := by
  unfold allSzA at h
  refine ⟨by omega, fun a ha => ?_⟩
  obtain ⟨i, hi, rfl⟩ := List.mem_iff_getElem.1 ha
  have := partSzA_ge hi rs.length hi (Nat.le_refl _)
  omega
def allSzQ (q : Qr) : Nat := allSz q.m + allSzA q.rs
/-- What fits into a million is small. -/
theorem allSzQ_small {q : Qr} (h : allSzQ q ≤ 1048576) : SmQ q := by
  unfold allSzQ at h
  obtain ⟨h1, h2⟩ := allSz_fits (os := q.m) (m := 1048576) (by omega)
  obtain ⟨h3, h4⟩ := allSzA_fits (rs := q.rs) (m := 1048576) (by omega)
  refine ⟨fun o ho => (h2 o ho).1, h1, h3, fun a ha => ?_⟩
  obtain ⟨h5, h6⟩ := allSz_fits (h4 a ha)
  exact ⟨fun o ho => (h6 o ho).1, h5⟩
set_option maxHeartbeats 2000000 in
theorem szArea_any (A : Option Addr) (c : Nat) (a : Ar) (left : Int) (w : World) (h : Objs w w.heap.size A a.os) (hf : Fit a.os) (hn : a.os.length ≤ maxLen) (h0 : 0 ≤ left) (h1 : left ≤ 1048576) :
    Calls Try.prog 115 #[.agg #[.int .i64 a.t, .slice A a.os.length c], .int .i64 left] w (Sized (allSz a.os) left w) := by
  have b0 := (Below.refl w.heap.size w).alloc (Nat.le_refl _) (.cells #[.int .i64 a.t, .slice A a.os.length c] 121)
  go_enter Try.func115, Try.ntmps115
  go_wp2_with fail
  refine (szObjectS_any A c a.os left _ ((h.below b0 (Nat.le_refl _)).more b0.size) hf hn h0 h1).mono ?_
  rintro e w1 ⟨r, rfl, hr, d⟩
  have b1 := b0.trans (d.mono b0.size)
  rcases hr with rfl | ⟨r0, hr⟩
  · go_wp2
    go_ret
    exact ⟨-1, rfl, .inl rfl, b1⟩
  · have HR := hid hr
    clear hr
    go_wp2
    go_ret
    exact ⟨r, rfl, .inr ⟨r0, HR.out⟩, b1⟩
set_option maxHeartbeats 2000000 in
theorem szAreaS_any (A : Option Addr) (c : Nat) (rs : List Ar) (left : Int) (w : World) (h : Ars w w.heap.size A rs) (hf : FitA rs) (hn : rs.length ≤ maxLen) (h0 : 0 ≤ left) (h1 : left ≤ 1048576) :
    Calls Try.prog 85 #[.slice A rs.length c, .int .i64 left] w (Sized (allSzA rs) left w) := by
  unfold maxLen at hn
  by_cases h2 : left < rs.length
  · go_enter Try.func85, Try.ntmps85
    go_wp2
    go_ret
    exact ⟨-1, rfl, .inl rfl, Below.refl _ _⟩
  · go_enter Try.func85, Try.ntmps85
    go_wp2_with fail
    go_loopw [1, 5] (fun l i wr => ∃ k : Nat, k ≤ rs.length ∧ i = .int .i64 k ∧ l = .int .i64 (left - rs.length - partSzA rs k) ∧ 0 ≤ left - rs.length - partSzA rs k ∧ Below w.heap.size w wr) (fun _ i _ => rs.length - (intOf i).toNat)
    case atStart => exact ⟨0, Nat.zero_le _, rfl, by simp [partSzA], by simp [partSzA]; omega, Below.refl _ _⟩
    case round =>
      obtain ⟨k, hk, rfl, rfl, hp, hb⟩ := hrel
      by_cases hlt : k < rs.length
      · have hsucc := hid (partSzA_succ hlt)
        obtain ⟨a, ad, A', c', hae, rfl, ha, g0, g1, -, g3⟩ := ((h.below hb (Nat.le_refl _)).more hb.size).ar hlt
        have hfk := hf a (by rw [← hae]; exact List.getElem_mem hlt)
        have k0 : 0 ≤ (k : Int) := by omega
        have k1 : (k : Int) < (rs.length : Int) := by omega
        have HSU : Hid (partSzA rs (k + 1) = partSzA rs k + allSz a.os) := by rw [← hae]; exact hsucc.out
        clear hae hsucc
        go_wp2_with fail
        refine (szArea_any A' c' a _ wr g3 hfk.1 hfk.2 hp (by omega)).mono ?_
        rintro e w1 ⟨r, rfl, hr, hb1⟩
        rcases hr with rfl | ⟨r0, hr⟩
        · go_wp2
          go_ret
          exact ⟨-1, rfl, .inl rfl, hb.trans (hb1.mono hb.size)⟩
        · have HR := hid hr
          clear hr
          go_wp2
          go_roundw
          case rel => exact ⟨k + 1, by omega, by go_num, by have := HR.out; have := HSU.out; congr 1; omega, by have := HR.out; have := HSU.out; omega, hb.trans (hb1.mono hb.size)⟩
          case measure => simp [intOf]; omega
      · have hk' : k = rs.length := by omega
        subst hk'
        go_wp2
        go_ret
        exact ⟨_, rfl, .inr ⟨hp, by unfold allSzA; omega⟩, hb⟩
set_option maxHeartbeats 2000000 in
theorem szQuarantine_any (v : Value) (q : Qr) (left : Int) (w : World) (h : Quar w w.heap.size v q) (hf : Fit q.m) (hn : q.m.length ≤ maxLen) (hfa : FitA q.rs) (hna : q.rs.length ≤ maxLen) (h0 : 0 ≤ left) (h1 : left ≤ 1048576) :
    Calls Try.prog 43 #[v, .int .i64 left] w (Sized (allSzQ q) left w) := by
  obtain ⟨A, c, A2, c2, rfl, hm, -, ha, -⟩ := h
  unfold qv
  have x0 := BlkQ.new_ w 58 (.slice A q.m.length c) (.slice A2 q.rs.length c2)
  have b0 := (Below.refl w.heap.size w).alloc (Nat.le_refl _) (.cells #[.slice A q.m.length c, .slice A2 q.rs.length c2] 58)
  go_enter Try.func43, Try.ntmps43
  go_wp2_with fail
  refine (szObjectS_any A c q.m left _ ((hm.below b0 (Nat.le_refl _)).more b0.size) hf hn h0 h1).mono ?_
  rintro e w1 ⟨r, rfl, hr, d⟩
  have b1 := b0.trans (d.mono b0.size)
  have x1 := x0.later d
  clear x0 b0 d
  obtain ⟨y0, y1, -⟩ := id x1.reads
  rcases hr with rfl | ⟨r0, hr⟩
  · go_wp2
    go_ret
    exact ⟨-1, rfl, .inl rfl, b1⟩
  · have r1 : r ≤ 1048576 := by omega
    have HR := hid hr
    clear hr
    go_wp2_with fail
    refine (szAreaS_any A2 c2 q.rs r w1 ((ha.below b1 (Nat.le_refl _)).more b1.size) hfa hna r0 r1).mono ?_
    rintro e w2 ⟨s, rfl, hs, d⟩
    have b2 := b1.trans (d.mono b1.size)
    rcases hs with rfl | ⟨s0, hs⟩
    · go_wp2
      go_ret
      exact ⟨-1, rfl, .inl rfl, b2⟩
    · have HS := hid hs
      clear hs
      go_wp2
      go_ret
      exact ⟨s, rfl, .inr ⟨s0, by have := HR.out; have := HS.out; unfold allSzQ; omega⟩, b2⟩
end Go.Proofs.Ytblknnifccmpkaa
namespace Go.Proofs.Ytblknnifccmpkaa
open Go.RowKit Wo Pu Qu

theorem Filled.base {w : World} {B B' g k : Nat} {os : List Ob} (h : Filled w B g os k) (hB : B' ≤ B) : Filled w B' g os k := by
  obtain ⟨xs, h1, h2⟩ := h
  refine ⟨xs, h1.base hB, fun j hj hk => ?_⟩
  obtain ⟨g', q0, q1, q2, q3⟩ := h2 j hj hk
  exact ⟨g', q0, q1, q2, q3.base hB⟩
/-- A cell of another block is stored into: one below, or one of another type. -/
theorem Filled.under {w : World} {B g k : Nat} {os : List Ob} (h : Filled w B g os k) {p : Addr} (hp : p.block < B) (u : Value) : Filled (w.setCell p u) B g os k := by
  obtain ⟨xs, h1, h2⟩ := h
  refine ⟨xs, h1.far (by have := h1.lt; omega) u, fun j hj hk => ?_⟩
  obtain ⟨g', q0, q1, q2, q3⟩ := h2 j hj hk
  exact ⟨g', q0, q1, q2, q3.far (by have := q3.lt; omega) u⟩
theorem Filled.row {w : World} {B B' g k gr n : Nat} {os : List Ob} {ys : List Value} (h : Filled w B g os k) (hr : Mine w B' 84 2 gr n ys) (j : Nat) (u : Value) : Filled (w.setCell ⟨gr, j, none⟩ u) B g os k := by
  obtain ⟨xs, h1, h2⟩ := h
  refine ⟨xs, h1.far (h1.type_ne hr (by decide)) u, fun j hj hk => ?_⟩
  obtain ⟨g', q0, q1, q2, q3⟩ := h2 j hj hk
  exact ⟨g', q0, q1, q2, q3.far (q3.type_ne hr (by decide)) u⟩
/-- Behind it: an area whose objects are of the call's own. -/
def NewAr (a : Ar) (w : World) (e : Ending) (w' : World) : Prop := ∃ g, e = .returned (.agg #[.int .i64 a.t, .slice (some ⟨g, 0, none⟩) a.os.length a.os.length]) ∧ Filled w' w.heap.size g a.os a.os.length ∧ Below w.heap.size w w'
set_option maxHeartbeats 4000000 in
theorem toArea_any (A : Option Addr) (c : Nat) (a : Ar) (w : World) (h : Objs w w.heap.size A a.os) (hn : a.os.length ≤ 1048576) (hs : ∀ o ∈ a.os, o.zs.length ≤ 1048576) :
    Calls Try.prog 116 #[.agg #[.int .i64 a.t, .slice A a.os.length c]] w (NewAr a w) := by
  have b1 := (Below.refl w.heap.size w).alloc (Nat.le_refl _) (.cells #[.int .i64 a.t, .slice A a.os.length c] 121)
  have b2 := b1.alloc (by simp) (.cells #[.int .i64 0, .slice none 0 0] 84)
  have b3 := b2.alloc (by simp; omega) (.cells #[.int .i64 a.t, .slice none 0 0] 84)
  have R3 := (BlkQ.new_ (w.alloc (.cells #[.int .i64 a.t, .slice A a.os.length c] 121)) 84 (.int .i64 0) (.slice none 0 0)).alloc (.cells #[.int .i64 a.t, .slice none 0 0] 84)
  have O3 := BlkQ.new_ ((w.alloc (.cells #[.int .i64 a.t, .slice A a.os.length c] 121)).alloc (.cells #[.int .i64 0, .slice none 0 0] 84)) 84 (.int .i64 a.t) (.slice none 0 0)
  have z3 : (((w.alloc (.cells #[.int .i64 a.t, .slice A a.os.length c] 121)).alloc (.cells #[.int .i64 0, .slice none 0 0] 84)).alloc (.cells #[.int .i64 a.t, .slice none 0 0] 84)).heap.size = w.heap.size + 3 := by simp
  simp only [World.size_alloc] at R3 O3
  clear b1 b2
  go_enter Try.func116, Try.ntmps116
  go_wp2_with fail
  refine (toObjectS_any A c a.os _ ((h.below b3 (Nat.le_refl _)).more b3.size) hn hs).mono ?_
  rintro e w4 ⟨g1, rfl, m4, hb4⟩
  have b4 := b3.trans (hb4.mono b3.size)
  have R4 := R3.later hb4
  have O4 := O3.later hb4
  rw [z3] at m4
  clear R3 O3 b3 hb4 z3
  obtain ⟨o0, o1, of⟩ := id O4.reads
  obtain ⟨r0, r1, rf⟩ := id R4.reads
  have of1 := of 1
  have rf0 := rf 0
  have rf1 := rf 1
  clear of rf
  go_wp2_with fail
  have T9 := ((R4.far (p := ⟨w.heap.size + 1 + 1, 1, none⟩) (by simp) (.slice (some ⟨g1, 0, none⟩) a.os.length a.os.length)).set0 (.int .i64 a.t)).set1 (.slice (some ⟨g1, 0, none⟩) a.os.length a.os.length)
  obtain ⟨t0, t1, -⟩ := T9.reads
  have m9 := (((m4.under (p := ⟨w.heap.size + 1 + 1, 1, none⟩) (by simp) (.slice (some ⟨g1, 0, none⟩) a.os.length a.os.length)).under (p := ⟨w.heap.size + 1, 0, none⟩) (by simp) (.int .i64 a.t)).under (p := ⟨w.heap.size + 1, 1, none⟩) (by simp) (.slice (some ⟨g1, 0, none⟩) a.os.length a.os.length)).base (B' := w.heap.size) (by omega)
  have b9 := ((b4.setCell (p := ⟨w.heap.size + 1 + 1, 1, none⟩) (by show w.heap.size ≤ w.heap.size + 1 + 1; omega) (.slice (some ⟨g1, 0, none⟩) a.os.length a.os.length)).setCell (p := ⟨w.heap.size + 1, 0, none⟩) (Nat.le_succ _) (.int .i64 a.t)).setCell (p := ⟨w.heap.size + 1, 1, none⟩) (Nat.le_succ _) (.slice (some ⟨g1, 0, none⟩) a.os.length a.os.length)
  exact bodyPost_ret (v := .agg #[.int .i64 a.t, .slice (some ⟨g1, 0, none⟩) a.os.length a.os.length]) (by simp [results, Try.results116, go_sem, t0, t1]) rfl ⟨g1, rfl, m9, b9⟩
/-- What lies from B up to C stays, where only others are written. -/
theorem Lists.apart {w w' : World} {B C B' C' g : Nat} {os : List Ob} (h : Lists w B C g os) (ha : Apart B' C' w w') (hC : C ≤ B' ∨ C' ≤ B) : Lists w' B C g os := by
  rcases hC with hC | hC
  · exact h.below ha.1 hC
  · obtain ⟨xs, h1, h2, h3⟩ := h
    have keep : ∀ {e : TypeId} {sz g n : Nat} {ys : List Value}, Mine w B e sz g n ys → Mine w' B e sz g n ys := fun {e sz g n ys} hm => by
      obtain ⟨q1, q2⟩ := hm
      refine ⟨q1, ?_⟩
      rcases q2 with q2 | ⟨g', cap, cur, hv, hB, hh, q3⟩
      · exact .inl q2
      · refine .inr ⟨g', cap, cur, hv, hB, ?_, q3⟩
        have hl : g' < w.heap.size := by
          rcases Nat.lt_or_ge g' w.heap.size with hl | hl
          · exact hl
          · rw [Array.getElem?_eq_none hl] at hh; cases hh
        rw [ha.2 g' (by omega) hl]
        exact hh
    refine ⟨xs, keep h1, h2, fun j hj => ?_⟩
    obtain ⟨gj, ys, q1, q2, q3⟩ := h3 j hj
    exact ⟨gj, ys, q1, keep q2, q3⟩
/-- Among the cells xs the j-th area is a; its objects are a list of the call's own, from B up to C. -/
def ArIn (w : World) (B C : Nat) (xs : List Value) (j : Nat) (a : Ar) : Prop :=
  ∃ g, xs[j * 2]? = some (.int .i64 a.t) ∧ xs[j * 2 + 1]? = some (.slice (some ⟨g, 0, none⟩) a.os.length a.os.length) ∧ Filled w B g a.os a.os.length ∧ Lists w B C g a.os
/-- The new list so far: n places in block g, the first k filled with the first of rs; the objects of the j-th lie from L j up to L (j + 1). -/
def FilA (w : World) (B g : Nat) (rs : List Ar) (k D : Nat) : Prop := ∃ (xs : List Value) (L : Nat → Nat), Mine w B 84 2 g rs.length xs ∧ (∀ j, j ≤ k → g < L j ∧ L j ≤ D) ∧ (∀ j, j < k → L j ≤ L (j + 1)) ∧ ∀ j (hj : j < rs.length), j < k → ArIn w (L j) (L (j + 1)) xs j rs[j]
def FilldAr (w : World) (B g : Nat) (rs : List Ar) (k : Nat) : Prop := FilA w B g rs k w.heap.size
theorem FilA.below {w w' : World} {B g k D : Nat} {rs : List Ar} (h : FilA w B g rs k D) (hb : Below w.heap.size w w') (hD : D ≤ w.heap.size) : FilA w' B g rs k D := by
  obtain ⟨xs, L, hm, hL, hO, hx⟩ := h
  refine ⟨xs, L, hm.below hb hm.lt.2, hL, hO, fun j hj hjk => ?_⟩
  obtain ⟨g', h0, h1, h2, h3⟩ := hx j hj hjk
  exact ⟨g', h0, h1, h2.below hb, h3.below hb (Nat.le_trans (hL (j + 1) (by omega)).2 hD)⟩
theorem FilA.upto {w : World} {B g k D D' : Nat} {rs : List Ar} (h : FilA w B g rs k D) (hD : D ≤ D') : FilA w B g rs k D' := by
  obtain ⟨xs, L, hm, hL, hO, hx⟩ := h
  exact ⟨xs, L, hm, fun j hj => ⟨(hL j hj).1, Nat.le_trans (hL j hj).2 hD⟩, hO, hx⟩
theorem FilldAr.below {w w' : World} {B g k : Nat} {rs : List Ar} (h : FilldAr w B g rs k) (hb : Below w.heap.size w w') : FilldAr w' B g rs k := (FilA.below h hb (Nat.le_refl _)).upto hb.size
theorem FilldAr.cells2 {w : World} {B g k k' : Nat} {rs : List Ar} (h : FilldAr w B g rs k') (hk : k < rs.length) :
    (∃ v, w.cell? ⟨g, k * 2, none⟩ = some v) ∧ (∃ v, w.cell? ⟨g, k * 2 + 1, none⟩ = some v) ∧ ∀ o, w.frozen? ⟨g, o, none⟩ = false := by
  obtain ⟨xs, _, hm, _⟩ := h
  have hlen := hm.len
  have rd : ∀ j, j < rs.length * 2 → ∃ v, w.cell? ⟨g, j, none⟩ = some v := fun j hj =>
    ⟨_, (World.ownsRow.cellAt hm j hj).trans (List.getElem?_eq_getElem (by omega))⟩
  exact ⟨rd _ (by omega), rd _ (by omega), fun o => World.ownsRow.frozenAt hm o⟩
theorem Lists.row {w : World} {B B' C g gr n : Nat} {os : List Ob} {ys : List Value} (h : Lists w B C g os) (hr : Mine w B' 84 2 gr n ys) (j : Nat) (u : Value) : Lists (w.setCell ⟨gr, j, none⟩ u) B C g os := by
  obtain ⟨xs, h1, h2, h3⟩ := h
  refine ⟨xs, h1.far (h1.type_ne hr (by decide)) u, h2, fun j hj => ?_⟩
  obtain ⟨gj, zs, q1, q2, q3⟩ := h3 j hj
  exact ⟨gj, zs, q1, q2.far (q2.type_ne hr (by decide)) u, q3⟩
theorem FilldAr.step {w : World} {B D g k g' : Nat} {rs : List Ar} (hk : k < rs.length) (hgD : g < D) (hDz : D ≤ w.heap.size) (hL : FilA w B g rs k D) (hl : Filled w D g' rs[k].os rs[k].os.length) (hl2 : Lists w D w.heap.size g' rs[k].os) :
    FilldAr ((w.setCell ⟨g, k * 2, none⟩ (.int .i64 rs[k].t)).setCell ⟨g, k * 2 + 1, none⟩ (.slice (some ⟨g', 0, none⟩) rs[k].os.length rs[k].os.length)) B g rs (k + 1) := by
  obtain ⟨xs, L, hm, hL, hO, hx⟩ := hL
  have hlen := hm.len
  have hlt : k * 2 + 1 < xs.length := by omega
  have hm1 := hm.set_ (k * 2) (.int .i64 rs[k].t)
  have far : ∀ {g2 n D2 : Nat} {os : List Ob}, Filled w D2 g2 os n → Filled ((w.setCell ⟨g, k * 2, none⟩ (.int .i64 rs[k].t)).setCell ⟨g, k * 2 + 1, none⟩ (.slice (some ⟨g', 0, none⟩) rs[k].os.length rs[k].os.length)) D2 g2 os n := fun h2 => (h2.row hm _ _).row hm1 _ _
  have far2 : ∀ {g2 D2 C2 : Nat} {os : List Ob}, Lists w D2 C2 g2 os → Lists ((w.setCell ⟨g, k * 2, none⟩ (.int .i64 rs[k].t)).setCell ⟨g, k * 2 + 1, none⟩ (.slice (some ⟨g', 0, none⟩) rs[k].os.length rs[k].os.length)) D2 C2 g2 os := fun h2 => (h2.row hm _ _).row hm1 _ _
  have hLk := hL k (Nat.le_refl _)
  refine ⟨(xs.set (k * 2) (.int .i64 rs[k].t)).set (k * 2 + 1) (.slice (some ⟨g', 0, none⟩) rs[k].os.length rs[k].os.length), fun j => if j < k then L j else if j = k then D else w.heap.size, hm1.set_ _ _, fun j hj => ?_, fun j hj => ?_, fun j hj hjk => ?_⟩
  · dsimp only
    by_cases e : j < k
    · rw [if_pos e]
      have := hL j (by omega)
      simp
      omega
    · rw [if_neg e]
      by_cases e2 : j = k
      · rw [if_pos e2]; simp; omega
      · rw [if_neg e2]; simp; omega
  · dsimp only
    by_cases e : j < k
    · rw [if_pos e]
      by_cases e2 : j + 1 < k
      · rw [if_pos e2]; exact hO j e
      · rw [if_neg e2, if_pos (by omega)]
        exact (hL j (by omega)).2
    · rw [if_neg e, if_pos (by omega), if_neg (by omega), if_neg (by omega)]
      exact hDz
  · dsimp only
    by_cases e : j = k
    · subst e
      rw [if_neg (by omega), if_pos rfl, if_neg (by omega), if_neg (by omega)]
      refine ⟨g', ?_, ?_, far hl, far2 hl2⟩ <;> simp [List.getElem?_set] <;> omega
    · obtain ⟨g2, h0, h1, h2, h3⟩ := hx j hj (by omega)
      have t : ∀ d, d < 2 → ((xs.set (k * 2) (.int .i64 rs[k].t)).set (k * 2 + 1) (.slice (some ⟨g', 0, none⟩) rs[k].os.length rs[k].os.length))[j * 2 + d]? = xs[j * 2 + d]? := fun d hd => by
        rw [List.getElem?_set_ne (by omega), List.getElem?_set_ne (by omega)]
      rw [if_pos (show j < k by omega)]
      refine ⟨g2, by rw [show j * 2 = j * 2 + 0 from rfl, t 0 (by omega)]; exact h0, by rw [t 1 (by omega)]; exact h1, far h2, ?_⟩
      by_cases e2 : j + 1 < k
      · rw [if_pos e2]; exact far2 h3
      · rw [if_neg e2, if_pos (by omega)]
        obtain ⟨ys, p1, p2, p3⟩ := far2 h3
        have := (hL (j + 1) (by omega)).2
        exact ⟨ys, p1, by omega, fun i hi => by obtain ⟨gj, zs, q1, q2, q3⟩ := p3 i hi; exact ⟨gj, zs, q1, q2, by omega⟩⟩
theorem FilldAr.base {w : World} {B B' g k : Nat} {rs : List Ar} (h : FilldAr w B g rs k) (hB : B' ≤ B) : FilldAr w B' g rs k := by
  obtain ⟨xs, L, h1, h2⟩ := h
  exact ⟨xs, L, h1.base hB, h2⟩
theorem Lists.under {w : World} {B C g : Nat} {os : List Ob} (h : Lists w B C g os) {p : Addr} (hp : p.block < B) (u : Value) : Lists (w.setCell p u) B C g os := by
  obtain ⟨xs, h1, h2, h3⟩ := h
  refine ⟨xs, h1.far (by have := h1.lt; omega) u, h2, fun j hj => ?_⟩
  obtain ⟨gj, zs, q1, q2, q3⟩ := h3 j hj
  exact ⟨gj, zs, q1, q2.far (by have := q2.lt; omega) u, q3⟩
theorem Lists.base {w : World} {B B' C g : Nat} {os : List Ob} (h : Lists w B C g os) (hB : B' ≤ B) : Lists w B' C g os := by
  obtain ⟨xs, h1, h2, h3⟩ := h
  refine ⟨xs, h1.base hB, h2, fun j hj => ?_⟩
  obtain ⟨gj, zs, q1, q2, q3⟩ := h3 j hj
  exact ⟨gj, zs, q1, q2.base hB, q3⟩
theorem FilldAr.under {w : World} {B g k : Nat} {rs : List Ar} (h : FilldAr w B g rs k) {p : Addr} (hp : p.block < B) (u : Value) : FilldAr (w.setCell p u) B g rs k := by
  obtain ⟨xs, L, h1, h2, h3, h4⟩ := h
  refine ⟨xs, L, h1.far (by have := h1.lt; omega) u, fun j hj => by simpa using h2 j hj, h3, fun j hj hk => ?_⟩
  obtain ⟨g', q0, q1, q2, q3⟩ := h4 j hj hk
  have := (h2 j (by omega)).1
  have := h1.lt
  exact ⟨g', q0, q1, q2.under (by omega) u, q3.under (by omega) u⟩
theorem FilldAr.ars {w : World} {B g : Nat} {rs : List Ar} (h : FilldAr w B g rs rs.length) : Ars w w.heap.size (some ⟨g, 0, none⟩) rs := by
  obtain ⟨xs, L, h1, -, -, h2⟩ := h
  refine .inr ⟨_, rfl, h1.lt.2, fun i hi => ?_⟩
  obtain ⟨g', q0, q1, q2, -⟩ := h2 i hi hi
  have hc := World.ownsRow.cells h1 (g := g) rfl
  refine ⟨_, _, hc _ _ q0, ?_, Nat.le_refl _, q2.objs⟩
  have e : (((⟨g, 0, none⟩ : Addr).add (i * 2)).add 1) = (⟨g, 0, none⟩ : Addr).add (i * 2 + 1) := by
    rw [add_lit, add_lit]
    unfold Addr.add
    simp
  rw [e]
  exact hc _ _ q1
/-- Behind it: a new list of areas. -/
def NewArs (rs : List Ar) (w : World) (e : Ending) (w' : World) : Prop := ∃ g, e = .returned (.slice (some ⟨g, 0, none⟩) rs.length rs.length) ∧ FilldAr w' w.heap.size g rs rs.length ∧ Below w.heap.size w w'
/-- Small areas. -/
def SmA (rs : List Ar) : Prop := rs.length ≤ 1048576 ∧ ∀ a ∈ rs, (∀ o ∈ a.os, o.zs.length ≤ 1048576) ∧ a.os.length ≤ 1048576
set_option maxHeartbeats 4000000 in
theorem toAreaS_any (A : Option Addr) (c : Nat) (rs : List Ar) (w : World) (h : Ars w w.heap.size A rs) (hs : SmA rs) :
    Calls Try.prog 86 #[.slice A rs.length c] w (NewArs rs w) := by
  obtain ⟨i0, hi, hz0, hz1, hz2⟩ := info_of info_ar
  obtain ⟨hn, hs⟩ := hs
  go_enter Try.func86, Try.ntmps86
  go_wp2_with (at_make; go_must (refine wpList_make_full _ rfl (.tmp 6) (.tmp 6) 24 rfl w.heap.size 84 i0 (.agg #[.int .i64 0, .slice none 0 0]) 2 Try.underlying24 hi hz0 hz1 .i64 .i64 rs.length rs.length rs.length rfl rfl rfl rfl (by rw [hz2]; omega) (by unfold maxLen; omega) (Nat.le_refl _) ?_); intro w1 hown hg)
  have hb1 : Below w.heap.size w w1 := (Below.refl _ _).grown hg (Nat.le_refl _) (by simp)
  have f1 : FilldAr w1 w.heap.size w.heap.size rs 0 := ⟨_, fun _ => w1.heap.size, hown, fun j _ => ⟨(World.ownsRow.lt hown _ rfl).2, Nat.le_refl _⟩, fun j _ => Nat.le_refl _, fun j _ hj => absurd hj (by omega)⟩
  clear hown hg
  go_loopw [4] (fun i wr => ∃ k : Nat, k ≤ rs.length ∧ i = .int .i64 k ∧ FilldAr wr w.heap.size w.heap.size rs k ∧ Below w.heap.size w wr) (fun i _ => rs.length - (intOf i).toNat)
  case atStart => exact ⟨0, Nat.zero_le _, rfl, f1, hb1⟩
  case round =>
    clear f1 hb1
    obtain ⟨k, hk, rfl, hf, hb⟩ := hrel
    by_cases hlt : k < rs.length
    · obtain ⟨a, ad, A', c', hae, rfl, _, g0, g1, -, g3⟩ := ((h.below hb (Nat.le_refl _)).more hb.size).ar hlt
      have hfk := hs a (by rw [← hae]; exact List.getElem_mem hlt)
      have hz := hb.size
      have k0 : 0 ≤ (k : Int) := by omega
      have k1 : (k : Int) < (rs.length : Int) := by omega
      have HAE := hid hae
      clear hae
      go_wp2_with fail
      refine (toArea_any A' c' a _ g3 hfk.2 hfk.1).mono ?_
      rintro e w2 ⟨g', rfl, hl, hb2⟩
      have hf2 := hf.below hb2
      have hf3 := FilA.below hf hb2 (Nat.le_refl _)
      have hb3 := hb.trans (hb2.mono hb.size)
      have hli := hl.lists
      have hz2 := hb2.size
      have hgz : w.heap.size < wr.heap.size := by obtain ⟨_, _, hmm, _⟩ := hf; exact hmm.lt.2
      clear hf hb2 g0 g1 g3
      obtain ⟨q0, q1, qf⟩ := hf2.cells2 hlt
      have qf0 := qf (k * 2)
      have qf1 := qf (k * 2 + 1)
      clear qf
      obtain ⟨y0, q0⟩ := q0
      obtain ⟨y1, q1⟩ := q1
      go_wp2_with fail
      go_roundw
      case rel =>
        have := FilldAr.step (g' := g') hlt hgz hz2 hf3 (by rw [HAE.out]; exact hl) (by rw [HAE.out]; exact hli)
        rw [HAE.out] at this
        exact ⟨k + 1, by omega, by go_num, this, (hb3.setCell (Nat.le_refl _) _).setCell (Nat.le_refl _) _⟩
      case measure => simp [intOf]; omega
    · have hk' : k = rs.length := by omega
      subst hk'
      go_wp2
      go_ret
      exact ⟨_, rfl, hf, hb⟩
/-- Behind it: a quarantine of the call's own, filled. -/
def FilQ (w : World) (B : Nat) (v : Value) (q : Qr) (D : Nat) : Prop := ∃ g1 g2 C, v = qv (some ⟨g1, 0, none⟩) q.m.length q.m.length (some ⟨g2, 0, none⟩) q.rs.length q.rs.length ∧ Filled w B g1 q.m q.m.length ∧ Lists w B C g1 q.m ∧ FilA w C g2 q.rs q.rs.length D ∧ B ≤ C ∧ C ≤ D
def FilledQ (w : World) (B : Nat) (v : Value) (q : Qr) : Prop := FilQ w B v q w.heap.size
def NewFQ (q : Qr) (w : World) (e : Ending) (w' : World) : Prop := ∃ v, e = .returned v ∧ FilledQ w' w.heap.size v q ∧ Below w.heap.size w w'
theorem FilQ.below {w w' : World} {B D : Nat} {v : Value} {q : Qr} (h : FilQ w B v q D) (hb : Below w.heap.size w w') (hD : D ≤ w.heap.size) : FilQ w' B v q D := by
  obtain ⟨g1, g2, C, e, h1, h2, h3, h4, h5⟩ := h
  exact ⟨g1, g2, C, e, h1.below hb, h2.below hb (Nat.le_trans h5 hD), h3.below hb hD, h4, h5⟩
theorem FilledQ.quar {w : World} {B : Nat} {v : Value} {q : Qr} (h : FilledQ w B v q) : Quar w w.heap.size v q := by
  obtain ⟨g1, g2, C, e, h1, -, h2, -⟩ := h
  exact ⟨_, _, _, _, e, h1.objs, Nat.le_refl _, FilldAr.ars h2, Nat.le_refl _⟩
set_option maxHeartbeats 4000000 in
theorem toQuarantine_any (v : Value) (q : Qr) (w : World) (h : Quar w w.heap.size v q) (hs : SmQ q) :
    Calls Try.prog 44 #[v] w (NewFQ q w) := by
  obtain ⟨A, c, A2, c2, rfl, hm, -, ha, -⟩ := h
  obtain ⟨s1, s2, s3, s4⟩ := hs
  unfold qv
  have b1 := (Below.refl w.heap.size w).alloc (Nat.le_refl _) (.cells #[.slice A q.m.length c, .slice A2 q.rs.length c2] 58)
  have b2 := b1.alloc (by simp) (.cells #[.slice none 0 0, .slice none 0 0] 26)
  have b3 := b2.alloc (by simp; omega) (.cells #[.slice none 0 0, .slice none 0 0] 26)
  have P3 := ((BlkQ.new_ w 58 (.slice A q.m.length c) (.slice A2 q.rs.length c2)).alloc (.cells #[.slice none 0 0, .slice none 0 0] 26)).alloc (.cells #[.slice none 0 0, .slice none 0 0] 26)
  have R3 := (BlkQ.new_ (w.alloc (.cells #[.slice A q.m.length c, .slice A2 q.rs.length c2] 58)) 26 (.slice none 0 0) (.slice none 0 0)).alloc (.cells #[.slice none 0 0, .slice none 0 0] 26)
  have O3 := BlkQ.new_ ((w.alloc (.cells #[.slice A q.m.length c, .slice A2 q.rs.length c2] 58)).alloc (.cells #[.slice none 0 0, .slice none 0 0] 26)) 26 (.slice none 0 0) (.slice none 0 0)
  have z3 : (((w.alloc (.cells #[.slice A q.m.length c, .slice A2 q.rs.length c2] 58)).alloc (.cells #[.slice none 0 0, .slice none 0 0] 26)).alloc (.cells #[.slice none 0 0, .slice none 0 0] 26)).heap.size = w.heap.size + 3 := by simp
  simp only [World.size_alloc] at R3 O3
  clear b1 b2
  go_enter Try.func44, Try.ntmps44
  obtain ⟨p0, -, -⟩ := id P3.reads
  go_wp2_with fail
  refine (toObjectS_any A c q.m _ ((hm.below b3 (Nat.le_refl _)).more b3.size) s2 s1).mono ?_
  rintro e w4 ⟨g1, rfl, m4, hb4⟩
  have b4 := b3.trans (hb4.mono b3.size)
  have P4 := P3.later hb4
  have R4 := R3.later hb4
  have O4 := O3.later hb4
  have z4 := hb4.size
  rw [z3] at m4 z4
  have i4 := m4.lists
  clear P3 R3 O3 b3 hb4 z3 p0
  obtain ⟨o0, o1, of⟩ := id O4.reads
  have of0 := of 0
  have O5 := O4.set0 (.slice (some ⟨g1, 0, none⟩) q.m.length q.m.length)
  have P5 := P4.far (p := ⟨w.heap.size + 1 + 1, 0, none⟩) (by simp; omega) (.slice (some ⟨g1, 0, none⟩) q.m.length q.m.length)
  have R5 := R4.far (p := ⟨w.heap.size + 1 + 1, 0, none⟩) (by simp) (.slice (some ⟨g1, 0, none⟩) q.m.length q.m.length)
  have m5 := m4.under (p := ⟨w.heap.size + 1 + 1, 0, none⟩) (by simp) (.slice (some ⟨g1, 0, none⟩) q.m.length q.m.length)
  have i5 := i4.under (p := ⟨w.heap.size + 1 + 1, 0, none⟩) (by simp) (.slice (some ⟨g1, 0, none⟩) q.m.length q.m.length)
  have b5 := b4.setCell (p := ⟨w.heap.size + 1 + 1, 0, none⟩) (by show w.heap.size ≤ w.heap.size + 1 + 1; omega) (.slice (some ⟨g1, 0, none⟩) q.m.length q.m.length)
  have z5 : (w4.setCell ⟨w.heap.size + 1 + 1, 0, none⟩ (.slice (some ⟨g1, 0, none⟩) q.m.length q.m.length)).heap.size = w4.heap.size := by simp [World.setCell]
  go_upto_region 3 with fail
  clear O4 P4 R4 m4 i4 b4 o0 o1 of0 of
  generalize w4.setCell ⟨w.heap.size + 1 + 1, 0, none⟩ (.slice (some ⟨g1, 0, none⟩) q.m.length q.m.length) = W5 at *
  obtain ⟨-, p1, -⟩ := id P5.reads
  go_wp2_with fail
  refine (toAreaS_any A2 c2 q.rs W5 ((ha.below b5 (Nat.le_refl _)).more b5.size) ⟨s3, s4⟩).mono ?_
  rintro e w6 ⟨g2, rfl, m6, hb6⟩
  have b6 := b5.trans (hb6.mono b5.size)
  have R6 := R5.later hb6
  have O6 := O5.later hb6
  have n6 := m5.below hb6
  have i6 := i5.below hb6 (by omega)
  have z6 := hb6.size
  clear P5 R5 O5 b5 hb6 p1 m5 i5
  obtain ⟨o0, o1, of⟩ := id O6.reads
  obtain ⟨r0, r1, rf⟩ := id R6.reads
  have of1 := of 1
  have rf0 := rf 0
  have rf1 := rf 1
  clear of rf
  go_wp2_with fail
  have T9 := ((R6.far (p := ⟨w.heap.size + 1 + 1, 1, none⟩) (by simp) (.slice (some ⟨g2, 0, none⟩) q.rs.length q.rs.length)).set0 (.slice (some ⟨g1, 0, none⟩) q.m.length q.m.length)).set1 (.slice (some ⟨g2, 0, none⟩) q.rs.length q.rs.length)
  obtain ⟨t0, t1, -⟩ := T9.reads
  have n9 := (((n6.under (p := ⟨w.heap.size + 1 + 1, 1, none⟩) (by simp) (.slice (some ⟨g2, 0, none⟩) q.rs.length q.rs.length)).under (p := ⟨w.heap.size + 1, 0, none⟩) (by simp) (.slice (some ⟨g1, 0, none⟩) q.m.length q.m.length)).under (p := ⟨w.heap.size + 1, 1, none⟩) (by simp) (.slice (some ⟨g2, 0, none⟩) q.rs.length q.rs.length)).base (B' := w.heap.size) (by omega)
  have i9 := (((i6.under (p := ⟨w.heap.size + 1 + 1, 1, none⟩) (by simp) (.slice (some ⟨g2, 0, none⟩) q.rs.length q.rs.length)).under (p := ⟨w.heap.size + 1, 0, none⟩) (by simp) (.slice (some ⟨g1, 0, none⟩) q.m.length q.m.length)).under (p := ⟨w.heap.size + 1, 1, none⟩) (by simp) (.slice (some ⟨g2, 0, none⟩) q.rs.length q.rs.length)).base (B' := w.heap.size) (by omega)
  have m9 := ((m6.under (p := ⟨w.heap.size + 1 + 1, 1, none⟩) (by simp; omega) (.slice (some ⟨g2, 0, none⟩) q.rs.length q.rs.length)).under (p := ⟨w.heap.size + 1, 0, none⟩) (by simp; omega) (.slice (some ⟨g1, 0, none⟩) q.m.length q.m.length)).under (p := ⟨w.heap.size + 1, 1, none⟩) (by simp; omega) (.slice (some ⟨g2, 0, none⟩) q.rs.length q.rs.length)
  have b9 := ((b6.setCell (p := ⟨w.heap.size + 1 + 1, 1, none⟩) (by show w.heap.size ≤ w.heap.size + 1 + 1; omega) (.slice (some ⟨g2, 0, none⟩) q.rs.length q.rs.length)).setCell (p := ⟨w.heap.size + 1, 0, none⟩) (Nat.le_succ _) (.slice (some ⟨g1, 0, none⟩) q.m.length q.m.length)).setCell (p := ⟨w.heap.size + 1, 1, none⟩) (Nat.le_succ _) (.slice (some ⟨g2, 0, none⟩) q.rs.length q.rs.length)
  exact bodyPost_ret (v := .agg #[.slice (some ⟨g1, 0, none⟩) q.m.length q.m.length, .slice (some ⟨g2, 0, none⟩) q.rs.length q.rs.length]) (by simp [results, Try.results44, go_sem, t0, t1]) rfl ⟨_, rfl, ⟨g1, g2, w4.heap.size, rfl, n9, i9, by rw [← z5]; exact m9, by omega, by simp; omega⟩, b9⟩
end Go.Proofs.Ytblknnifccmpkaa
namespace Go.Proofs.Ytblknnifccmpkaa
open Go.RowKit Wo Pu Qu

theorem allSz_upto {os : List Ob} {m : Nat} (h : m < os.length) : 2 * m + partSz os m + (os[m].zs.length + 2) ≤ 2 * allSz os := by
  have h1 := partSz_succ h
  have h2 : ∀ k, m + 1 ≤ k → k ≤ os.length → partSz os (m + 1) ≤ partSz os k := by
    intro k
    induction k with
    | zero => intro h; omega
    | succ k ih =>
      intro a b
      rcases Nat.lt_or_ge m k with e | e
      · have := ih (by omega) (by omega)
        have := partSz_succ (os := os) (k := k) (by omega)
        omega
      · rw [show k = m by omega]; exact Nat.le_refl _
  have h3 := h2 os.length (by omega) (Nat.le_refl _)
  unfold allSz
  unfold oneSz at h1
  omega
set_option maxHeartbeats 2000000 in
theorem markObjectS_from (B C g : Nat) (os : List Ob) (k0 : Int) (w : World) (h : Lists w B C g os) (hC : C ≤ w.heap.size) (hB : B ≤ C) (hn : os.length ≤ 1048576) (hs : ∀ o ∈ os, o.zs.length ≤ 1048576) (hk0 : 1 ≤ k0) (hk1 : k0 + 2 * (allSz os : Nat) ≤ 4503599627370000) :
    Calls Try.prog 50 #[.slice (some ⟨g, 0, none⟩) os.length os.length, .int .i64 k0] w (fun e w' => ∃ k : Int, e = .returned (.int .i64 k) ∧ (k0 ≤ k ∧ k ≤ k0 + 2 * (allSz os : Nat)) ∧ Apart B C w w') := by
  go_enter Try.func50, Try.ntmps50
  go_wp2_with fail
  go_loopw [1, 5] (fun q i wr => ∃ (m : Nat) (k : Int), m ≤ os.length ∧ i = .int .i64 m ∧ q = .int .i64 k ∧ k0 ≤ k ∧ k ≤ k0 + (2 * m + partSz os m : Nat) ∧ Lists wr B C g os ∧ Apart B C w wr) (fun _ i _ => os.length - (intOf i).toNat)
  case atStart => exact ⟨0, k0, Nat.zero_le _, rfl, rfl, by omega, by omega, h, Apart.refl _ _ _⟩
  case round =>
    obtain ⟨m, k, hm, rfl, rfl, kk0, kk1, hl, ha⟩ := hrel
    clear h
    by_cases hlt : m < os.length
    · have hsm := hs _ (List.getElem_mem hlt)
      have HU := hid (allSz_upto hlt)
      have HP := hid (partSz_succ hlt)
      have hz := ha.1.size
      have K1 : k + os[m].zs.length + 2 ≤ 4503599627370000 := by have := HU.out; omega
      have HQ : Hid (k + os[m].zs.length + 2 ≤ k0 + (2 * (m + 1) + partSz os (m + 1) : Nat)) := by
        have := HP.out
        unfold oneSz at this
        show _ ≤ _
        omega
      obtain ⟨v0, v2, gj, ys, c0, c1, c2, hm1, hgj, hgB, hgC, hf⟩ := hl.cells3 hlt
      have f0 := hf (m * 3)
      have f2 := hf (m * 3 + 2)
      have l2 : Lists (wr.setCell ⟨g, m * 3, none⟩ (.int .i64 k)) B C g os := hl.set_ m 0 (.inl rfl) (.int .i64 k)
      have a2 := ha.set_ hgB hgC (m * 3) (.int .i64 k)
      have m2 := hm1.far (p := ⟨g, m * 3, none⟩) (by obtain ⟨xs, hx, _⟩ := hl; exact hm1.type_ne hx (by decide)) (.int .i64 k)
      have z2 : C ≤ (wr.setCell ⟨g, m * 3, none⟩ (.int .i64 k)).heap.size := by simp; omega
      clear hl ha hm1 hf HU HP kk1 hk1
      generalize hnn : os[m].zs.length = n at *
      clear hnn
      go_wp2_with fail
      refine (markIntS_own B gj n n (k + 1) ys _ m2 hsm (by omega) (by omega)).mono ?_
      rintro e w2 ⟨rfl, hw, _⟩
      have l3 := l2.wrote m2 hw
      have a3 := a2.wrote hw m2.lt.1 hgj (by omega)
      have z3 : C ≤ w2.heap.size := by rw [hw.2.1]; exact z2
      clear l2 a2 m2 hw z2 c0 c1 c2 f0 f2
      go_wp2_with fail
      refine (markText_any (k + 1 + n) _ (by omega) (by omega)).mono ?_
      rintro e w3 ⟨s, rfl, hb3⟩
      have l4 := l3.below hb3 z3
      have a4 := a3.below hb3 (by omega)
      have z4 := hb3.size
      clear l3 a3 hb3
      obtain ⟨v0', v2', gj', ys', c0, c1, c2, _, _, _, _, hf⟩ := l4.cells3 hlt
      have f2 := hf (m * 3 + 2)
      have l5 := l4.set_ m 2 (.inr rfl) (.string s)
      have a5 := a4.set_ hgB hgC (m * 3 + 2) (.string s)
      clear l4 a4 hf
      go_wp2_with fail
      go_roundw
      case rel => exact ⟨m + 1, k + 1 + n + 1, by omega, by go_num, rfl, by omega, by have := HQ.out; omega, l5, a5⟩
      case measure => simp [intOf]; omega
    · have hm' : m = os.length := by omega
      subst hm'
      have HB : Hid (k ≤ k0 + 2 * (allSz os : Nat)) := by
        show _ ≤ _
        unfold allSz
        omega
      clear kk1 hk1
      go_wp2
      go_ret
      exact ⟨k, rfl, ⟨by omega, HB.out⟩, ha⟩
theorem Apart.mineN {B C D : Nat} {w w' : World} {e : TypeId} {sz g n : Nat} {xs : List Value} (h : Apart B C w w') (hm : Mine w D e sz g n xs) (hD : C ≤ D) : Mine w' D e sz g n xs := by
  have hl := hm.lt
  obtain ⟨q1, q2⟩ := hm
  refine ⟨q1, ?_⟩
  rcases q2 with q2 | ⟨g', cap, cur, hv, hB, hh, q3⟩
  · exact .inl q2
  · refine .inr ⟨g', cap, cur, hv, hB, ?_, q3⟩
    have hg' : g' = g := by injection hv with e1; injection e1 with e1; injection e1 with e1; exact e1.symm
    rw [h.2 g' (by omega) (by rw [hg']; omega)]
    exact hh
theorem Apart.next {B C B' C' : Nat} {w w1 w2 : World} (h : Apart B C w w1) (k : Apart B' C' w1 w2) (hB : B ≤ B') (hC : C' ≤ C) : Apart B C w w2 := by
  refine ⟨h.1.trans (k.1.mono hB), fun i hi hl => ?_⟩
  have := h.1.size
  rw [k.2 i (by omega) (by omega)]
  exact h.2 i hi hl
/-- The areas, those from the m-th on still to be marked. -/
def ToMark (w : World) (B g : Nat) (rs : List Ar) (L : Nat → Nat) (m : Nat) : Prop :=
  ∃ xs, Mine w B 84 2 g rs.length xs ∧ ∀ j (hj : j < rs.length), ∃ gj, xs[j * 2 + 1]? = some (.slice (some ⟨gj, 0, none⟩) rs[j].os.length rs[j].os.length) ∧ (m ≤ j → Lists w (L j) (L (j + 1)) gj rs[j].os)
theorem ToMark.cells {w : World} {B g m : Nat} {rs : List Ar} {L : Nat → Nat} (h : ToMark w B g rs L m) (hm : m < rs.length) (k : Int) :
    ∃ gj v, w.cell? ⟨g, m * 2, none⟩ = some v ∧ w.cell? ⟨g, m * 2 + 1, none⟩ = some (.slice (some ⟨gj, 0, none⟩) rs[m].os.length rs[m].os.length) ∧ w.frozen? ⟨g, m * 2, none⟩ = false ∧ B ≤ g ∧
      ToMark (w.setCell ⟨g, m * 2, none⟩ (.int .i64 k)) B g rs L m ∧ Lists (w.setCell ⟨g, m * 2, none⟩ (.int .i64 k)) (L m) (L (m + 1)) gj rs[m].os := by
  obtain ⟨xs, h1, h2⟩ := h
  have hlen := h1.len
  obtain ⟨gj, q1, q2⟩ := h2 m hm
  have rd : ∀ j, j < rs.length * 2 → w.cell? ⟨g, j, none⟩ = xs[j]? := fun j hj => World.ownsRow.cellAt h1 j hj
  refine ⟨gj, xs[m * 2]'(by omega), (rd _ (by omega)).trans (List.getElem?_eq_getElem (by omega)), (rd _ (by omega)).trans q1, World.ownsRow.frozenAt h1 _, h1.lt.1, ⟨_, h1.set_ (m * 2) (.int .i64 k), fun j hj => ?_⟩, (q2 (Nat.le_refl _)).row h1 _ _⟩
  obtain ⟨gi, p1, p2⟩ := h2 j hj
  exact ⟨gi, by rw [List.getElem?_set_ne (by omega)]; exact p1, fun hmj => (p2 hmj).row h1 _ _⟩
theorem ToMark.next {w w' : World} {B g m : Nat} {rs : List Ar} {L : Nat → Nat} (h : ToMark w B g rs L m) (ha : Apart (L m) (L (m + 1)) w w') (hg : g < L m) (hL : ∀ j, m < j → j < rs.length → L (m + 1) ≤ L j) : ToMark w' B g rs L (m + 1) := by
  obtain ⟨xs, h1, h2⟩ := h
  refine ⟨xs, h1.below ha.1 hg, fun j hj => ?_⟩
  obtain ⟨gj, q1, q2⟩ := h2 j hj
  exact ⟨gj, q1, fun hmj => (q2 (by omega)).apart ha (.inr (hL j (by omega) hj))⟩
theorem partSzA_upto {rs : List Ar} {m : Nat} (h : m < rs.length) : m + 2 * partSzA rs m + (1 + 2 * allSz rs[m].os) ≤ 2 * allSzA rs := by
  have h1 := partSzA_succ h
  have h2 : ∀ k, m + 1 ≤ k → k ≤ rs.length → partSzA rs (m + 1) ≤ partSzA rs k := by
    intro k
    induction k with
    | zero => intro h; omega
    | succ k ih =>
      intro a b
      rcases Nat.lt_or_ge m k with e | e
      · have := ih (by omega) (by omega)
        have := partSzA_succ (rs := rs) (k := k) (by omega)
        omega
      · rw [show k = m by omega]; exact Nat.le_refl _
  have h3 := h2 rs.length (by omega) (Nat.le_refl _)
  unfold allSzA
  omega
set_option maxHeartbeats 2000000 in
theorem markAreaS_from (B D g : Nat) (rs : List Ar) (k0 : Int) (w : World) (h : FilA w B g rs rs.length D) (hD : D ≤ w.heap.size) (hs : SmA rs) (hk0 : 1 ≤ k0) (hk1 : k0 + 2 * (allSzA rs : Nat) ≤ 4503599627370000) :
    Calls Try.prog 91 #[.slice (some ⟨g, 0, none⟩) rs.length rs.length, .int .i64 k0] w (fun e w' => ∃ k : Int, e = .returned (.int .i64 k) ∧ (k0 ≤ k ∧ k ≤ k0 + 2 * (allSzA rs : Nat)) ∧ Apart B D w w') := by
  obtain ⟨hn, hs⟩ := hs
  obtain ⟨xs, L, hm0, hL, hO, hx⟩ := h
  have hmono : ∀ i j, i ≤ j → j ≤ rs.length → L i ≤ L j := by
    intro i j
    induction j with
    | zero => intro a _; rw [show i = 0 by omega]; exact Nat.le_refl _
    | succ j ih =>
      intro a b
      rcases Nat.lt_or_ge j i with e | e
      · rw [show i = j + 1 by omega]; exact Nat.le_refl _
      · exact Nat.le_trans (ih e (by omega)) (hO j (by omega))
  have t0 : ToMark w B g rs L 0 := ⟨xs, hm0, fun j hj => by obtain ⟨gj, -, q1, -, q3⟩ := hx j hj hj; exact ⟨gj, q1, fun _ => q3⟩⟩
  have HM := hid hmono
  have HL : Hid (∀ j, j ≤ rs.length → g < L j ∧ L j ≤ D) := hL
  clear hx hmono hO hL hm0
  go_enter Try.func91, Try.ntmps91
  go_wp2_with fail
  go_loopw [1, 5] (fun q i wr => ∃ (m : Nat) (k : Int), m ≤ rs.length ∧ i = .int .i64 m ∧ q = .int .i64 k ∧ k0 ≤ k ∧ k ≤ k0 + (m + 2 * partSzA rs m : Nat) ∧ ToMark wr B g rs L m ∧ Apart B D w wr) (fun _ i _ => rs.length - (intOf i).toNat)
  case atStart => exact ⟨0, k0, Nat.zero_le _, rfl, rfl, by omega, by omega, t0, Apart.refl _ _ _⟩
  case round =>
    obtain ⟨m, k, hm, rfl, rfl, kk0, kk1, ht, ha⟩ := hrel
    clear t0
    by_cases hlt : m < rs.length
    · have hsm := hs _ (List.getElem_mem hlt)
      have hU := partSzA_upto hlt
      have hP := partSzA_succ hlt
      have hz := ha.1.size
      have K1 : k + 1 + 2 * (allSz rs[m].os : Nat) ≤ 4503599627370000 := by omega
      have HQ : Hid (k + 1 + 2 * (allSz rs[m].os : Nat) ≤ k0 + ((m + 1) + 2 * partSzA rs (m + 1) : Nat)) := by
        show _ ≤ _
        omega
      obtain ⟨gj, v0, c0, c1, f0, hgB, t2, l2⟩ := ht.cells hlt k
      have hLm := HL.out m (by omega)
      have hLs := HL.out (m + 1) (by omega)
      have hmm := HM.out m (m + 1) (by omega) (by omega)
      have a2 := ha.set_ hgB (by omega) (m * 2) (.int .i64 k)
      have z2 : (wr.setCell ⟨g, m * 2, none⟩ (.int .i64 k)).heap.size = wr.heap.size := by simp
      clear ha ht hU hP kk1 hk1
      have e1 := hid (show rs[m]'hlt = rs[m]'hlt from rfl)
      obtain ⟨am, ham⟩ : ∃ am, rs[m] = am := ⟨_, rfl⟩
      rw [ham] at hsm K1 HQ c1 l2
      clear ham e1
      go_wp2_with fail
      refine (markObjectS_from (L m) (L (m + 1)) gj am.os (k + 1) _ l2 (by omega) hmm hsm.2 hsm.1 (by omega) K1).mono ?_
      rintro e w2 ⟨k2, rfl, hk2, ha2⟩
      have t3 := t2.next ha2 hLm.1 (fun j h1 h2 => HM.out (m + 1) j (by omega) (by omega))
      have a3 := a2.next ha2 (by omega) hLs.2
      go_wp2_with fail
      go_roundw
      case rel => exact ⟨m + 1, k2, by omega, by go_num, rfl, by omega, by have := HQ.out; omega, t3, a3⟩
      case measure => simp [intOf]; omega
    · have hm' : m = rs.length := by omega
      subst hm'
      have HB : Hid (k ≤ k0 + 2 * (allSzA rs : Nat)) := by
        show _ ≤ _
        unfold allSzA
        omega
      clear kk1 hk1
      go_wp2
      go_ret
      exact ⟨k, rfl, ⟨by omega, HB.out⟩, ha⟩
set_option maxHeartbeats 2000000 in
theorem markQuarantine_from (B D : Nat) (v : Value) (q : Qr) (w : World) (h : FilQ w B v q D) (hD : D ≤ w.heap.size) (hs : allSzQ q ≤ 1048576) :
    Calls Try.prog 49 #[v, .int .i64 1] w (fun e w' => ∃ k : Int, e = .returned (.int .i64 k) ∧ (1 ≤ k ∧ k ≤ 2097154) ∧ Apart B D w w') := by
  obtain ⟨g1, g2, C, rfl, -, l1, f1, hBC, hCD⟩ := h
  obtain ⟨s1, s2, s3, s4⟩ := allSzQ_small hs
  have hsz : allSz q.m + allSzA q.rs ≤ 1048576 := hs
  unfold qv
  have x0 := BlkQ.new_ w 26 (.slice (some ⟨g1, 0, none⟩) q.m.length q.m.length) (.slice (some ⟨g2, 0, none⟩) q.rs.length q.rs.length)
  have b0 := (Below.refl w.heap.size w).alloc (Nat.le_refl _) (.cells #[.slice (some ⟨g1, 0, none⟩) q.m.length q.m.length, .slice (some ⟨g2, 0, none⟩) q.rs.length q.rs.length] 26)
  obtain ⟨w0, hw0⟩ : ∃ x, w.alloc (.cells #[.slice (some ⟨g1, 0, none⟩) q.m.length q.m.length, .slice (some ⟨g2, 0, none⟩) q.rs.length q.rs.length] 26) = x := ⟨_, rfl⟩
  obtain ⟨g0, hg0⟩ : ∃ g, w.heap.size = g := ⟨_, rfl⟩
  rw [hw0] at x0 b0
  rw [hg0] at x0
  have z0 := b0.size
  have a0 : Apart B D w w0 := (Apart.refl B D w).below b0 (by omega)
  have l2 := l1.below b0 (by omega)
  have f2 := f1.below b0 hD
  obtain ⟨y0, y1, -⟩ := id x0.reads
  go_enter Try.func49, Try.ntmps49
  go_wp2_with fail
  refine (markObjectS_from B C g1 q.m 1 w0 l2 (by omega) hBC s2 s1 (by omega) (by omega)).mono ?_
  rintro e w2 ⟨k2, rfl, hk2, ha2⟩
  have a2 := a0.next ha2 (Nat.le_refl _) hCD
  have hg2 : C ≤ g0 := by omega
  have x2 : BlkQ w2 g0 26 (.slice (some ⟨g1, 0, none⟩) q.m.length q.m.length) (.slice (some ⟨g2, 0, none⟩) q.rs.length q.rs.length) := (ha2.2 g0 hg2 x0.lt).trans x0
  have f3 : FilA w2 C g2 q.rs q.rs.length D := by
    obtain ⟨xs, L, hm, hL, hO, hx⟩ := f2
    have hCg := hm.lt.1
    refine ⟨xs, L, ha2.mineN hm (Nat.le_refl _), hL, hO, fun j hj hjk => ?_⟩
    obtain ⟨g', h0, h1, h2, h3⟩ := hx j hj hjk
    have := (hL j (by omega)).1
    have keep : ∀ {e : TypeId} {sz g n : Nat} {ys : List Value}, Mine w0 (L j) e sz g n ys → Mine w2 (L j) e sz g n ys := fun hm => ha2.mineN hm (by omega)
    obtain ⟨ys, q1, q2⟩ := h2
    refine ⟨g', h0, h1, ⟨ys, keep q1, fun i hi hik => ?_⟩, h3.apart ha2 (.inr (by omega))⟩
    obtain ⟨g4, p0, p1, p2, p3⟩ := q2 i hi hik
    exact ⟨g4, p0, p1, p2, keep p3⟩
  have z2 := ha2.1.size
  clear x0 b0 a0 l1 l2 f1 f2 hw0 hg0 y0 y1 ha2
  obtain ⟨y0, y1, -⟩ := id x2.reads
  go_wp2_with fail
  refine (markAreaS_from C D g2 q.rs k2 w2 f3 (by omega) ⟨s3, s4⟩ (by omega) (by omega)).mono ?_
  rintro e w3 ⟨k3, rfl, hk3, ha3⟩
  have a3 := a2.next ha3 hBC (Nat.le_refl _)
  have HB : Hid (1 ≤ k3 ∧ k3 ≤ 2097154) := ⟨by omega, by omega⟩
  clear hk3 hk2
  go_wp2
  go_ret
  exact ⟨k3, rfl, HB.out, a3⟩
end Go.Proofs.Ytblknnifccmpkaa
