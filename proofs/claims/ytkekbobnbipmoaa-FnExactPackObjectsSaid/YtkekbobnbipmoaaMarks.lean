/-
  Walks: marks in objects and in lists of objects.
-/
import Derived.Test.YtkekbobnbipmoaaMark
namespace Go.Proofs.Ytkekbobnbipmoaa
open Go.RowKit Wo Pu

/-- Behind it: marked. -/
def Marked (B : Nat) (A : Option Addr) (c n : Nat) (k : Int) (w : World) (e : Ending) (w' : World) : Prop :=
  e = .returned (.int .i64 (k + n)) ∧ Own w' B (.slice A n c) (marks k n) ∧ w.grownBy w' (Value.slice A n c).ownBlock

set_option maxHeartbeats 1000000 in
theorem markInts_any (B : Nat) (A : Option Addr) (c : Nat) (zs : List Int) (k : Int) (w : World) (ho : Own w B (.slice A zs.length c) zs) (hn : zs.length ≤ 1048576) (h0 : 0 ≤ k) (h1 : k ≤ 4503599627370496) :
    Calls Try.prog 57 #[.slice A zs.length c, .int .i64 k] w (Marked B A c zs.length k w) := by
  have ho' := ho
  rcases ho.2 with ⟨hv, hz⟩ | ⟨g, cap, cur, hv, _⟩
  · injection hv with hA hl hc
    subst hA hc
    have hzs : zs = [] := List.length_eq_zero_iff.1 hl
    subst hzs
    go_enter Try.func57, Try.ntmps57
    go_wp2_with fail
    go_loopw [1, 5] (fun q i wr => i = .int .i64 0 ∧ q = .int .i64 k ∧ wr = w) (fun _ _ _ => 0)
    case atStart => exact ⟨rfl, rfl, rfl⟩
    case round =>
      obtain ⟨rfl, rfl, rfl⟩ := hrel
      go_wp2
      go_ret
      exact ⟨by simp, ho', World.grownBy.refl _ _⟩
  · injection hv with hA _ hc
    subst hA hc
    refine (markIntS_own B g zs.length _ k _ w ho hn h0 h1).mono ?_
    rintro e w' ⟨rfl, h2, h3⟩
    refine ⟨rfl, ?_, h2.1⟩
    show w'.ownsRow B 3 1 _ (marks k zs.length).length _
    rw [marks_length]
    exact h3

/-- A list of objects of the call's own, all of whose memory lies from B up to C. -/
def Lists (w : World) (B C g : Nat) (os : List Ob) : Prop :=
  ∃ xs, Mine w B 42 3 g os.length xs ∧ g < C ∧ ∀ j (hj : j < os.length), ∃ gj ys, xs[j * 3 + 1]? = some (.slice (some ⟨gj, 0, none⟩) os[j].zs.length os[j].zs.length) ∧ Mine w B 3 1 gj os[j].zs.length ys ∧ gj < C
theorem Filled.lists {w : World} {B g : Nat} {os : List Ob} (h : Filled w B g os os.length) : Lists w B w.heap.size g os := by
  obtain ⟨xs, h1, h2⟩ := h
  refine ⟨xs, h1, h1.lt.2, fun j hj => ?_⟩
  obtain ⟨g', _, q1, _, q3⟩ := h2 j hj hj
  exact ⟨g', _, q1, q3, q3.lt.2⟩
theorem Lists.below {w w' : World} {B C D g : Nat} {os : List Ob} (h : Lists w B C g os) (hb : Below D w w') (hD : C ≤ D) : Lists w' B C g os := by
  obtain ⟨xs, h1, h2, h3⟩ := h
  refine ⟨xs, h1.below hb (by omega), h2, fun j hj => ?_⟩
  obtain ⟨gj, ys, q1, q2, q3⟩ := h3 j hj
  exact ⟨gj, ys, q1, q2.below hb (by omega), q3⟩
theorem Lists.set_ {w : World} {B C g : Nat} {os : List Ob} (h : Lists w B C g os) (k d : Nat) (hd : d = 0 ∨ d = 2) (u : Value) : Lists (w.setCell ⟨g, k * 3 + d, none⟩ u) B C g os := by
  obtain ⟨xs, h1, h2, h3⟩ := h
  refine ⟨_, h1.set_ (k * 3 + d) u, h2, fun j hj => ?_⟩
  obtain ⟨gj, ys, q1, q2, q3⟩ := h3 j hj
  refine ⟨gj, ys, ?_, q2.far (q2.type_ne h1 (by decide)) _, q3⟩
  rw [List.getElem?_set_ne (by omega)]
  exact q1
theorem Lists.wrote {w w' : World} {B C g gj n : Nat} {os : List Ob} {ys : List Value} (h : Lists w B C g os) (hm : Mine w B 3 1 gj n ys) (hw : Wrote gj w w') : Lists w' B C g os := by
  obtain ⟨xs, h1, h2, h3⟩ := h
  have hne := hm.type_ne h1 (by decide)
  refine ⟨xs, World.ownsRow.kept h1 hw.1 (.inr (fun e => hne (by injection e with e; exact e.symm))), h2, fun j hj => ?_⟩
  obtain ⟨gj', ys', q1, q2, q3⟩ := h3 j hj
  obtain ⟨ys2, q4⟩ := hw.own q2
  exact ⟨gj', ys2, q1, q4, q3⟩
theorem Lists.cells3 {w : World} {B C g k : Nat} {os : List Ob} (h : Lists w B C g os) (hk : k < os.length) :
    ∃ v0 v2 gj ys, w.cell? ⟨g, k * 3, none⟩ = some v0 ∧ w.cell? ⟨g, k * 3 + 1, none⟩ = some (.slice (some ⟨gj, 0, none⟩) os[k].zs.length os[k].zs.length) ∧ w.cell? ⟨g, k * 3 + 2, none⟩ = some v2 ∧
      Mine w B 3 1 gj os[k].zs.length ys ∧ gj < C ∧ B ≤ g ∧ g < C ∧ ∀ o, w.frozen? ⟨g, o, none⟩ = false := by
  obtain ⟨xs, h1, h2, h3⟩ := h
  obtain ⟨gj, ys, q1, q2, q3⟩ := h3 k hk
  have hlen := h1.len
  have rd : ∀ j, j < os.length * 3 → w.cell? ⟨g, j, none⟩ = xs[j]? := fun j hj => World.ownsRow.cellAt h1 j hj
  exact ⟨xs[k * 3]'(by omega), xs[k * 3 + 2]'(by omega), gj, ys, (rd _ (by omega)).trans (List.getElem?_eq_getElem (by omega)), (rd _ (by omega)).trans q1, (rd _ (by omega)).trans (List.getElem?_eq_getElem (by omega)), q2, q3, h1.lt.1, h2, fun o => World.ownsRow.frozenAt h1 o⟩

/-- What lies below B or from C on is as it was. -/
def Apart (B C : Nat) (w w' : World) : Prop := Below B w w' ∧ ∀ i, C ≤ i → i < w.heap.size → w'.heap[i]? = w.heap[i]?
theorem Apart.refl (B C : Nat) (w : World) : Apart B C w w := ⟨Below.refl _ _, fun _ _ _ => rfl⟩
theorem Apart.below {B C : Nat} {w w1 w2 : World} (h : Apart B C w w1) (hb : Below w1.heap.size w1 w2) (hB : B ≤ w1.heap.size) : Apart B C w w2 := by
  refine ⟨h.1.trans (hb.mono hB), fun i hi hl => ?_⟩
  have := h.1.size
  rw [hb.block i (by omega)]
  exact h.2 i hi hl
theorem Apart.set_ {B C g : Nat} {w w1 : World} (h : Apart B C w w1) (hB : B ≤ g) (hC : g < C) (j : Nat) (u : Value) : Apart B C w (w1.setCell ⟨g, j, none⟩ u) := by
  refine ⟨h.1.setCell (p := ⟨g, j, none⟩) hB u, fun i hi hl => ?_⟩
  rw [Below.heap_setCell _ _ _ _ (by show i ≠ g; omega)]
  exact h.2 i hi hl
theorem Apart.wrote {B C g : Nat} {w w1 w2 : World} (h : Apart B C w w1) (hw : Wrote g w1 w2) (hB : B ≤ g) (hC : g < C) (hz : B ≤ w1.heap.size) : Apart B C w w2 := by
  refine ⟨h.1.grown hw.1 (by omega) (fun k hk => by injection hk with hk; omega), fun i hi hl => ?_⟩
  have := h.1.size
  rw [hw.1.block i (by omega) (fun e => by injection e with e; omega)]
  exact h.2 i hi hl

set_option maxHeartbeats 2000000 in
theorem markObjectS_any (B C g : Nat) (os : List Ob) (w : World) (h : Lists w B C g os) (hC : C ≤ w.heap.size) (hB : B ≤ C) (hn : os.length ≤ 1048576) (hs : ∀ o ∈ os, o.zs.length ≤ 1048576) :
    Calls Try.prog 28 #[.slice (some ⟨g, 0, none⟩) os.length os.length, .int .i64 1] w (fun e w' => ∃ k : Int, e = .returned (.int .i64 k) ∧ (0 ≤ k ∧ k ≤ 4503599627370496) ∧ Apart B C w w') := by
  go_enter Try.func28, Try.ntmps28
  go_wp2_with fail
  go_loopw [1, 5] (fun q i wr => ∃ (m : Nat) (k : Int), m ≤ os.length ∧ i = .int .i64 m ∧ q = .int .i64 k ∧ 1 ≤ k ∧ k ≤ 1 + (m : Int) * 1048578 ∧ Lists wr B C g os ∧ Apart B C w wr) (fun _ i _ => os.length - (intOf i).toNat)
  case atStart => exact ⟨0, 1, Nat.zero_le _, rfl, rfl, by omega, by omega, h, Apart.refl _ _ _⟩
  case round =>
    obtain ⟨m, k, hm, rfl, rfl, k0, k1, hl, ha⟩ := hrel
    clear h
    by_cases hlt : m < os.length
    · have hsm := hs _ (List.getElem_mem hlt)
      have hz := ha.1.size
      obtain ⟨v0, v2, gj, ys, c0, c1, c2, hm1, hgj, hgB, hgC, hf⟩ := hl.cells3 hlt
      have f0 := hf (m * 3)
      have f2 := hf (m * 3 + 2)
      have l2 : Lists (wr.setCell ⟨g, m * 3, none⟩ (.int .i64 k)) B C g os := hl.set_ m 0 (.inl rfl) (.int .i64 k)
      have a2 := ha.set_ hgB hgC (m * 3) (.int .i64 k)
      have m2 := hm1.far (p := ⟨g, m * 3, none⟩) (by obtain ⟨xs, hx, _⟩ := hl; exact hm1.type_ne hx (by decide)) (.int .i64 k)
      have z2 : C ≤ (wr.setCell ⟨g, m * 3, none⟩ (.int .i64 k)).heap.size := by simp; omega
      clear hl ha hm1 hf
      generalize hnn : os[m].zs.length = n at *
      clear hnn
      have K1 : k ≤ 4503599627370000 := by omega
      go_wp2_with fail
      refine (markIntS_own B gj n n (k + 1) ys _ m2 hsm (by omega) (by omega)).mono ?_
      rintro e w2 ⟨rfl, hw, _⟩
      have l3 := l2.wrote m2 hw
      have a3 := a2.wrote hw m2.lt.1 hgj (by omega)
      have z3 : C ≤ w2.heap.size := by rw [hw.2.1]; exact z2
      clear l2 a2 m2 hw z2 c0 c1 c2 f0 f2
      go_wp2_with fail
      refine (markText_any (k + 1 + n) _ (by omega) (by omega)).mono ?_
      rintro e w3 ⟨s, rfl, hb3⟩
      have l4 := l3.below hb3 z3
      have a4 := a3.below hb3 (by omega)
      have z4 := hb3.size
      clear l3 a3 hb3
      obtain ⟨v0', v2', gj', ys', c0, c1, c2, _, _, _, _, hf⟩ := l4.cells3 hlt
      have f2 := hf (m * 3 + 2)
      have l5 := l4.set_ m 2 (.inr rfl) (.string s)
      have a5 := a4.set_ hgB hgC (m * 3 + 2) (.string s)
      clear l4 a4 hf
      go_wp2_with fail
      go_roundw
      case rel => exact ⟨m + 1, k + 1 + n + 1, by omega, by go_num, rfl, by omega, by omega, l5, a5⟩
      case measure => simp [intOf]; omega
    · have hm' : m = os.length := by omega
      subst hm'
      go_wp2
      go_ret
      exact ⟨k, rfl, ⟨by omega, by omega⟩, ha⟩
end Go.Proofs.Ytkekbobnbipmoaa
