/-
  Walk: the program's copy of a list of objects.
-/
import Derived.Test.YtjniemimdjpibaaGets
import Derived.Test.YtjniemimdjpibaaToObs
namespace Go.Proofs.Ytjniemimdjpibaa
open Go.RowKit Wo Pu

/-- The new list so far. -/
def FilledO (w : World) (B g : Nat) (os : List Ob) (k : Nat) : Prop := ∃ xs, Mine w B 26 3 g os.length xs ∧ ∀ j (hj : j < os.length), j < k → ObIs w B xs j os[j]
theorem FilledO.below {w w' : World} {B g k : Nat} {os : List Ob} (h : FilledO w B g os k) (hb : Below w.heap.size w w') : FilledO w' B g os k := by
  obtain ⟨xs, hm, hx⟩ := h
  refine ⟨xs, hm.below hb hm.lt.2, fun j hj hjk => ?_⟩
  obtain ⟨A, c, h0, h1, h2, h3⟩ := hx j hj hjk
  exact ⟨A, c, h0, h1, h2, h3.below hb (Nat.le_refl _)⟩
theorem FilledO.cells3 {w : World} {B g k k' : Nat} {os : List Ob} (h : FilledO w B g os k') (hk : k < os.length) :
    (∃ v, w.cell? ⟨g, k * 3, none⟩ = some v) ∧ (∃ v, w.cell? ⟨g, k * 3 + 1, none⟩ = some v) ∧ (∃ v, w.cell? ⟨g, k * 3 + 2, none⟩ = some v) ∧ ∀ o, w.frozen? ⟨g, o, none⟩ = false := by
  obtain ⟨xs, hm, _⟩ := h
  have hlen := hm.len
  have rd : ∀ j, j < os.length * 3 → ∃ v, w.cell? ⟨g, j, none⟩ = some v := fun j hj =>
    ⟨_, (World.ownsRow.cellAt hm j hj).trans (List.getElem?_eq_getElem (by omega))⟩
  exact ⟨rd _ (by omega), rd _ (by omega), rd _ (by omega), fun o => World.ownsRow.frozenAt hm o⟩
theorem Own.off {w : World} {B g n : Nat} {v : Value} {zs : List Int} {ys : List Value} (h : Own w B v zs) (hm : Mine w B 26 3 g n ys) (j : Nat) (u : Value) : Own (w.setCell ⟨g, j, none⟩ u) B v zs := by
  refine World.ownsRow.kept h (World.ownsRow.stored hm j u).2 ?_
  rcases hu : v.ownBlock with _ | k
  · exact .inl rfl
  · refine .inr (fun e => ?_)
    injection e with e
    subst e
    rcases h.2 with ⟨rfl, _⟩ | ⟨g1, _, cur, rfl, _, hh, _⟩
    · cases hu
    · have hk : g1 = k := by simpa [Value.ownBlock] using hu
      subst hk
      rcases hm.2 with ⟨h1, _⟩ | ⟨g2, _, cur2, hv2, _, hh2, _⟩
      · cases h1
      · have hk : g2 = g1 := by injection hv2 with e1; injection e1 with e1; injection e1 with e1; exact e1.symm
        subst hk
        rw [hh] at hh2
        injection hh2 with h3
        injection h3 with _ h3
        exact absurd h3 (by decide)
theorem FilledO.step {w : World} {B g k c : Nat} {A : Option Addr} {os : List Ob} (h : FilledO w B g os k) (hk : k < os.length) (hl : Own w B (.slice A os[k].zs.length c) os[k].zs) :
    FilledO (((w.setCell ⟨g, k * 3, none⟩ (.int .i64 os[k].kd)).setCell ⟨g, k * 3 + 1, none⟩ (.slice A os[k].zs.length c)).setCell ⟨g, k * 3 + 2, none⟩ (.string os[k].s)) B g os (k + 1) := by
  obtain ⟨xs, hm, hx⟩ := h
  have hlen := hm.len
  have hlt : k * 3 + 2 < xs.length := by omega
  have hm1 := hm.set_ (k * 3) (.int .i64 os[k].kd)
  have hm2 := hm1.set_ (k * 3 + 1) (.slice A os[k].zs.length c)
  refine ⟨((xs.set (k * 3) (.int .i64 os[k].kd)).set (k * 3 + 1) (.slice A os[k].zs.length c)).set (k * 3 + 2) (.string os[k].s), hm2.set_ _ _, fun j hj hjk => ?_⟩
  by_cases e : j = k
  · subst e
    refine ⟨A, c, ?_, ?_, ?_, ((hl.off hm _ _).off hm1 _ _).off hm2 _ _⟩ <;> simp [List.getElem?_set] <;> omega
  · obtain ⟨A2, c2, h0, h1, h2, h3⟩ := hx j hj (by omega)
    have t : ∀ d, d < 3 → (((xs.set (k * 3) (.int .i64 os[k].kd)).set (k * 3 + 1) (.slice A os[k].zs.length c)).set (k * 3 + 2) (.string os[k].s))[j * 3 + d]? = xs[j * 3 + d]? := fun d hd => by
      rw [List.getElem?_set_ne (by omega), List.getElem?_set_ne (by omega), List.getElem?_set_ne (by omega)]
    exact ⟨A2, c2, by rw [show j * 3 = j * 3 + 0 from rfl, t 0 (by omega)]; exact h0, by rw [t 1 (by omega)]; exact h1, by rw [t 2 (by omega)]; exact h2, ((h3.off hm _ _).off hm1 _ _).off hm2 _ _⟩

/-- Behind it: a full list of objects of the call's own. -/
def NewFull (os : List Ob) (w : World) (e : Ending) (w' : World) : Prop := ∃ g, e = .returned (.slice (some ⟨g, 0, none⟩) os.length os.length) ∧ OwnObs w' w.heap.size (.slice (some ⟨g, 0, none⟩) os.length os.length) os ∧ Below w.heap.size w w'
set_option maxHeartbeats 2000000 in
theorem copyObjects_any (A : Option Addr) (c : Nat) (os : List Ob) (w : World) (h : Objs w w.heap.size A os) (hn : os.length ≤ 1048576) (hs : ∀ o ∈ os, o.zs.length ≤ 1048576) :
    Calls Try.prog 32 #[.slice A os.length c] w (NewFull os w) := by
  obtain ⟨i0, hi, hz0, hz1, hz2⟩ := info_of info_ob
  go_enter Try.func32, Try.ntmps32
  go_wp2_with (at_make; go_must (refine wpList_make_full _ rfl (.tmp 7) (.tmp 7) 23 rfl w.heap.size 26 i0 (.agg #[.int .i64 0, .slice none 0 0, .string ⟨#[]⟩]) 3 Try.underlying23 hi hz0 hz1 .i64 .i64 os.length os.length os.length rfl rfl rfl rfl (by rw [hz2]; omega) (by unfold maxLen; omega) (Nat.le_refl _) ?_); intro w1 hown hg)
  have hb1 : Below w.heap.size w w1 := (Below.refl _ _).grown hg (Nat.le_refl _) (by simp)
  have f1 : FilledO w1 w.heap.size w.heap.size os 0 := ⟨_, hown, fun j _ hj => absurd hj (by omega)⟩
  clear hown hg
  go_loopw [11] (fun i wr => ∃ k : Nat, k ≤ os.length ∧ i = .int .i64 k ∧ FilledO wr w.heap.size w.heap.size os k ∧ Below w.heap.size w wr) (fun i _ => os.length - (intOf i).toNat)
  case atStart => exact ⟨0, Nat.zero_le _, rfl, f1, hb1⟩
  case round =>
    clear f1 hb1
    obtain ⟨k, hk, rfl, hf, hb⟩ := hrel
    by_cases hlt : k < os.length
    · obtain ⟨ad, A', c', rfl, _, g0, g1, g2, g3⟩ := (h.below hb (Nat.le_refl _)).at_ hlt
      have hz := hb.size
      go_wp2_with fail
      have al := (Below.refl wr.heap.size wr).alloc (Nat.le_refl _) (.cells #[.int .i64 os[k].kd, .slice A' os[k].zs.length c', .string os[k].s] 26)
      refine (copied_any w.heap.size A' c' os[k] _ (g3.alloc hz _) (by simp; omega) (hs _ (List.getElem_mem hlt))).mono ?_
      rintro e w2 ⟨A2, c2, rfl, hl, hb2⟩
      unfold ob
      have z2 : wr.heap.size ≤ (wr.alloc (.cells #[.int .i64 os[k].kd, .slice A' os[k].zs.length c', .string os[k].s] 26)).heap.size := al.size
      have hb3 := al.trans (hb2.mono z2)
      have hf2 := hf.below hb3
      have hb4 := hb.trans (hb3.mono hz)
      have hl2 := hl.base (Nat.le_trans hz z2)
      clear hf hb2 hl g0 g1 g2 g3 al hb3 z2
      obtain ⟨q0, q1, q2, qf⟩ := hf2.cells3 hlt
      have qf0 := qf (k * 3)
      have qf1 := qf (k * 3 + 1)
      have qf2 := qf (k * 3 + 2)
      clear qf
      obtain ⟨y0, q0⟩ := q0
      obtain ⟨y1, q1⟩ := q1
      obtain ⟨y2, q2⟩ := q2
      go_wp2_with fail
      go_roundw
      case rel => exact ⟨k + 1, by omega, by go_num, hf2.step hlt hl2, ((hb4.setCell (Nat.le_refl _) _).setCell (Nat.le_refl _) _).setCell (Nat.le_refl _) _⟩
      case measure => simp [intOf]; omega
    · have hk' : k = os.length := by omega
      subst hk'
      go_wp2
      go_ret
      obtain ⟨xs, hm, hx⟩ := hf
      exact ⟨_, rfl, ⟨xs, hm, fun j hj => hx j hj hj⟩, hb⟩
end Go.Proofs.Ytjniemimdjpibaa
