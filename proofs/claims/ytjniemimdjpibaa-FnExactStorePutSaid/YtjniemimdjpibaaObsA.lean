/-
  Lists of objects that a call has made, whose links lie in blocks of their own; the program's copy of such a list.
-/
import Derived.Test.YtjniemimdjpibaaCopyObs
namespace Go.Proofs.Ytjniemimdjpibaa
open Go.RowKit Wo Pu

/-- Two slices do not lie in one block. -/
def Ap2 (v u : Value) : Prop := ∀ g, v.ownBlock = some g → u.ownBlock ≠ some g
theorem Ap2.symm {v u : Value} (h : Ap2 v u) : Ap2 u v := fun g h1 h2 => h g h2 h1
/-- The links of the first n objects lie apart. -/
def Apt (xs : List Value) (n : Nat) : Prop := ∀ i j v u, i < n → j < n → i ≠ j → xs[i * 3 + 1]? = some v → xs[j * 3 + 1]? = some u → Ap2 v u
/-- The links of the first n objects lie below block N. -/
def Bel (xs : List Value) (n N : Nat) : Prop := ∀ i v g, i < n → xs[i * 3 + 1]? = some v → v.ownBlock = some g → g < N
/-- The slice v, of the call's own, holds the objects os; their links lie apart. -/
def OwnObsF (w : World) (B : Nat) (v : Value) (os : List Ob) : Prop :=
  ∃ xs, w.ownsRow B 26 3 v os.length xs ∧ (∀ j (hj : j < os.length), ObIs w B xs j os[j]) ∧ Apt xs os.length
/-- The same; the links lie below block N. -/
def OwnObsN (w : World) (B N : Nat) (v : Value) (os : List Ob) : Prop :=
  ∃ xs, w.ownsRow B 26 3 v os.length xs ∧ (∀ j (hj : j < os.length), ObIs w B xs j os[j]) ∧ Apt xs os.length ∧ Bel xs os.length N
theorem OwnObsN.toF {w : World} {B N : Nat} {v : Value} {os : List Ob} (h : OwnObsN w B N v os) : OwnObsF w B v os := by
  obtain ⟨xs, h1, h2, h3, _⟩ := h
  exact ⟨xs, h1, h2, h3⟩
theorem OwnObsF.own {w : World} {B : Nat} {v : Value} {os : List Ob} (h : OwnObsF w B v os) : OwnObs w B v os := by
  obtain ⟨xs, h1, h2, _⟩ := h
  exact ⟨xs, h1, h2⟩
theorem OwnObsF.below {w w' : World} {B : Nat} {v : Value} {os : List Ob} (h : OwnObsF w B v os) (hb : Below w.heap.size w w') : OwnObsF w' B v os := by
  obtain ⟨xs, h1, h2, h3⟩ := h
  refine ⟨xs, own_below h1 hb (Nat.le_refl _), fun j hj => ?_, h3⟩
  obtain ⟨A, c, q0, q1, q2, q3⟩ := h2 j hj
  exact ⟨A, c, q0, q1, q2, q3.below hb (Nat.le_refl _)⟩
theorem OwnObsN.below {w w' : World} {B N : Nat} {v : Value} {os : List Ob} (h : OwnObsN w B N v os) (hb : Below w.heap.size w w') : OwnObsN w' B N v os := by
  obtain ⟨xs, h1, h2, h3, h4⟩ := h
  refine ⟨xs, own_below h1 hb (Nat.le_refl _), fun j hj => ?_, h3, h4⟩
  obtain ⟨A, c, q0, q1, q2, q3⟩ := h2 j hj
  exact ⟨A, c, q0, q1, q2, q3.below hb (Nat.le_refl _)⟩
theorem row_base {w : World} {B B' n sz : Nat} {e : TypeId} {v : Value} {xs : List Value} (h : w.ownsRow B e sz v n xs) (hB : B' ≤ B) : w.ownsRow B' e sz v n xs := by
  obtain ⟨h1, h2⟩ := h
  refine ⟨h1, ?_⟩
  rcases h2 with h2 | ⟨g', cap, cur, hv, hb, hr⟩
  · exact .inl h2
  · exact .inr ⟨g', cap, cur, hv, by omega, hr⟩
theorem OwnObsF.base {w : World} {B B' : Nat} {v : Value} {os : List Ob} (h : OwnObsF w B v os) (hB : B' ≤ B) : OwnObsF w B' v os := by
  obtain ⟨xs, h1, h2, h3⟩ := h
  refine ⟨xs, row_base h1 hB, fun j hj => ?_, h3⟩
  obtain ⟨A, c, q0, q1, q2, q3⟩ := h2 j hj
  exact ⟨A, c, q0, q1, q2, q3.base hB⟩
theorem OwnObsF.nil_new {w : World} {B : Nat} (hB : B ≤ w.heap.size) : OwnObsF (w.alloc (.cells #[] 26)) B (.slice (some ⟨w.heap.size, 0, none⟩) 0 0) [] :=
  ⟨[], nil_own hB _ _, (fun j hj => by simp at hj), fun i _ _ _ hi => absurd hi (by simp)⟩
theorem Own.bel {w : World} {B : Nat} {v : Value} {zs : List Int} (h : Own w B v zs) : ∀ g, v.ownBlock = some g → B ≤ g ∧ g < w.heap.size := World.ownsRow.lt h
/-- One object laid in between. -/
theorem laid_link {ys : List Value} {n r j : Nat} {a V b : Value} (hl : ys.length = n * 3) (hr : r ≤ n) : (ys.take (r * 3) ++ [a, V, b] ++ ys.drop (r * 3))[j * 3 + 1]? = if j < r then ys[j * 3 + 1]? else if j = r then some V else ys[(j - 1) * 3 + 1]? := by
  have hyl : (ys.take (r * 3)).length = r * 3 := by rw [List.length_take]; omega
  by_cases e : j < r
  · rw [if_pos e, List.append_assoc, List.getElem?_append_left (by omega), List.getElem?_take, if_pos (by omega)]
  · rw [if_neg e]
    by_cases e2 : j = r
    · subst e2
      rw [if_pos rfl, List.append_assoc, List.getElem?_append_right (by omega), hyl, show j * 3 + 1 - j * 3 = 1 from by omega]
      rfl
    · rw [if_neg e2, List.getElem?_append_right (by simp only [List.length_append, hyl, List.length_cons, List.length_nil]; omega), List.getElem?_drop]
      congr 1
      simp only [List.length_append, hyl, List.length_cons, List.length_nil]
      omega
theorem Apt.laid {ys : List Value} {n N r : Nat} {a V b : Value} (h : Apt ys n) (hb : Bel ys n N) (hl : ys.length = n * 3) (hr : r ≤ n) (hV : ∀ g, V.ownBlock = some g → N ≤ g) : Apt (ys.take (r * 3) ++ [a, V, b] ++ ys.drop (r * 3)) (n + 1) := by
  intro i j v u hi hj hij hv hu
  rw [laid_link hl hr] at hv hu
  have new : ∀ k x, k < n → ys[k * 3 + 1]? = some x → Ap2 x V := fun k x hk hx g h1 h2 => by
    have := hb k x g hk hx h1
    have := hV g h2
    omega
  by_cases i1 : i < r
  · rw [if_pos i1] at hv
    by_cases j1 : j < r
    · rw [if_pos j1] at hu
      exact h i j v u (by omega) (by omega) hij hv hu
    · rw [if_neg j1] at hu
      by_cases j2 : j = r
      · rw [if_pos j2] at hu
        injection hu with hu
        subst hu
        exact new i v (by omega) hv
      · rw [if_neg j2] at hu
        exact h i (j - 1) v u (by omega) (by omega) (by omega) hv hu
  · rw [if_neg i1] at hv
    by_cases i2 : i = r
    · rw [if_pos i2] at hv
      injection hv with hv
      subst hv
      by_cases j1 : j < r
      · rw [if_pos j1] at hu
        exact (new j u (by omega) hu).symm
      · rw [if_neg j1, if_neg (by omega)] at hu
        exact (new (j - 1) u (by omega) hu).symm
    · rw [if_neg i2] at hv
      by_cases j1 : j < r
      · rw [if_pos j1] at hu
        exact h (i - 1) j v u (by omega) (by omega) (by omega) hv hu
      · rw [if_neg j1] at hu
        by_cases j2 : j = r
        · rw [if_pos j2] at hu
          injection hu with hu
          subst hu
          exact new (i - 1) v (by omega) hv
        · rw [if_neg j2] at hu
          exact h (i - 1) (j - 1) v u (by omega) (by omega) (by omega) hv hu

/-- The new list so far. -/
def FilledA (w : World) (B g : Nat) (os : List Ob) (k N : Nat) : Prop := ∃ xs, Mine w B 26 3 g os.length xs ∧ (∀ j (hj : j < os.length), j < k → ObIs w B xs j os[j]) ∧ Apt xs k ∧ Bel xs k N
theorem FilledA.below {w w' : World} {B g k N : Nat} {os : List Ob} (h : FilledA w B g os k N) (hb : Below w.heap.size w w') : FilledA w' B g os k N := by
  obtain ⟨xs, hm, hx, h3⟩ := h
  refine ⟨xs, hm.below hb hm.lt.2, fun j hj hjk => ?_, h3⟩
  obtain ⟨A, c, h0, h1, h2, h3⟩ := hx j hj hjk
  exact ⟨A, c, h0, h1, h2, h3.below hb (Nat.le_refl _)⟩
theorem FilledA.o {w : World} {B g k N : Nat} {os : List Ob} (h : FilledA w B g os k N) : FilledO w B g os k := by
  obtain ⟨xs, hm, hx, _⟩ := h
  exact ⟨xs, hm, hx⟩
theorem FilledA.step {w : World} {B g k c N M : Nat} {A : Option Addr} {os : List Ob} (h : FilledA w B g os k N) (hk : k < os.length) (hl : Own w M (.slice A os[k].zs.length c) os[k].zs) (hN : N ≤ M) (hB : B ≤ M) (hNw : N ≤ w.heap.size) :
    FilledA (((w.setCell ⟨g, k * 3, none⟩ (.int .i64 os[k].kd)).setCell ⟨g, k * 3 + 1, none⟩ (.slice A os[k].zs.length c)).setCell ⟨g, k * 3 + 2, none⟩ (.string os[k].s)) B g os (k + 1) w.heap.size := by
  obtain ⟨xs, hm, hx, ha, hb⟩ := h
  have hlen := hm.len
  have hlt : k * 3 + 2 < xs.length := by omega
  have hm1 := hm.set_ (k * 3) (.int .i64 os[k].kd)
  have hm2 := hm1.set_ (k * 3 + 1) (.slice A os[k].zs.length c)
  have lk : ∀ j, j < os.length → (((xs.set (k * 3) (.int .i64 os[k].kd)).set (k * 3 + 1) (.slice A os[k].zs.length c)).set (k * 3 + 2) (.string os[k].s))[j * 3 + 1]? = if j = k then some (.slice A os[k].zs.length c) else xs[j * 3 + 1]? := fun j hj => by
    by_cases e : j = k
    · subst e
      rw [if_pos rfl, List.getElem?_set_ne (by omega), List.getElem?_set_self (by simp; omega)]
    · rw [if_neg e, List.getElem?_set_ne (by omega), List.getElem?_set_ne (by omega), List.getElem?_set_ne (by omega)]
  refine ⟨((xs.set (k * 3) (.int .i64 os[k].kd)).set (k * 3 + 1) (.slice A os[k].zs.length c)).set (k * 3 + 2) (.string os[k].s), hm2.set_ _ _, fun j hj hjk => ?_, ?_, ?_⟩
  · have hl' := hl.base hB
    by_cases e : j = k
    · subst e
      refine ⟨A, c, ?_, ?_, ?_, ((hl'.off hm _ _).off hm1 _ _).off hm2 _ _⟩ <;> simp [List.getElem?_set] <;> omega
    · obtain ⟨A2, c2, h0, h1, h2, h3⟩ := hx j hj (by omega)
      have t : ∀ d, d < 3 → (((xs.set (k * 3) (.int .i64 os[k].kd)).set (k * 3 + 1) (.slice A os[k].zs.length c)).set (k * 3 + 2) (.string os[k].s))[j * 3 + d]? = xs[j * 3 + d]? := fun d hd => by
        rw [List.getElem?_set_ne (by omega), List.getElem?_set_ne (by omega), List.getElem?_set_ne (by omega)]
      exact ⟨A2, c2, by rw [show j * 3 = j * 3 + 0 from rfl, t 0 (by omega)]; exact h0, by rw [t 1 (by omega)]; exact h1, by rw [t 2 (by omega)]; exact h2, ((h3.off hm _ _).off hm1 _ _).off hm2 _ _⟩
  · intro i j v u hi hj hij hv hu
    rw [lk i (by omega)] at hv
    rw [lk j (by omega)] at hu
    have new : ∀ i' x, i' < k → xs[i' * 3 + 1]? = some x → Ap2 x (.slice A os[k].zs.length c) := fun i' x hk' hx' gg h1 h2 => by
      have := hb i' x gg hk' hx' h1
      have := (hl.bel gg h2).1
      omega
    by_cases ei : i = k
    · rw [if_pos ei] at hv
      injection hv with hv
      subst hv
      rw [if_neg (by omega)] at hu
      exact (new j u (by omega) hu).symm
    · rw [if_neg ei] at hv
      by_cases ej : j = k
      · rw [if_pos ej] at hu
        injection hu with hu
        subst hu
        exact new i v (by omega) hv
      · rw [if_neg ej] at hu
        exact ha i j v u (by omega) (by omega) hij hv hu
  · intro i v gg hi hv hg
    rw [lk i (by omega)] at hv
    by_cases ei : i = k
    · rw [if_pos ei] at hv
      injection hv with hv
      subst hv
      exact (hl.bel gg hg).2
    · rw [if_neg ei] at hv
      have := hb i v gg (by omega) hv hg
      omega

/-- Behind it: a full list of objects of the call's own. -/
def NewFullA (os : List Ob) (w : World) (e : Ending) (w' : World) : Prop := ∃ g, e = .returned (.slice (some ⟨g, 0, none⟩) os.length os.length) ∧ OwnObsN w' w.heap.size w'.heap.size (.slice (some ⟨g, 0, none⟩) os.length os.length) os ∧ Below w.heap.size w w'
set_option maxHeartbeats 2000000 in
theorem copyObjectsA_any (A : Option Addr) (c : Nat) (os : List Ob) (w : World) (h : Objs w w.heap.size A os) (hn : os.length ≤ 1048576) (hs : ∀ o ∈ os, o.zs.length ≤ 1048576) :
    Calls Try.prog 32 #[.slice A os.length c] w (NewFullA os w) := by
  obtain ⟨i0, hi, hz0, hz1, hz2⟩ := info_of info_ob
  go_enter Try.func32, Try.ntmps32
  go_wp2_with (at_make; go_must (refine wpList_make_full _ rfl (.tmp 7) (.tmp 7) 23 rfl w.heap.size 26 i0 (.agg #[.int .i64 0, .slice none 0 0, .string ⟨#[]⟩]) 3 Try.underlying23 hi hz0 hz1 .i64 .i64 os.length os.length os.length rfl rfl rfl rfl (by rw [hz2]; omega) (by unfold maxLen; omega) (Nat.le_refl _) ?_); intro w1 hown hg)
  have hb1 : Below w.heap.size w w1 := (Below.refl _ _).grown hg (Nat.le_refl _) (by simp)
  have f1 : FilledA w1 w.heap.size w.heap.size os 0 w1.heap.size := ⟨_, hown, (fun j _ hj => absurd hj (by omega)), (fun i _ _ _ hi => absurd hi (by omega)), fun i _ _ hi => absurd hi (by omega)⟩
  clear hown hg
  go_loopw [11] (fun i wr => ∃ k : Nat, k ≤ os.length ∧ i = .int .i64 k ∧ FilledA wr w.heap.size w.heap.size os k wr.heap.size ∧ Below w.heap.size w wr) (fun i _ => os.length - (intOf i).toNat)
  case atStart => exact ⟨0, Nat.zero_le _, rfl, f1, hb1⟩
  case round =>
    clear f1 hb1
    obtain ⟨k, hk, rfl, hf, hb⟩ := hrel
    by_cases hlt : k < os.length
    · obtain ⟨ad, A', c', rfl, _, g0, g1, g2, g3⟩ := (h.below hb (Nat.le_refl _)).at_ hlt
      have hz := hb.size
      go_wp2_with fail
      have al := (Below.refl wr.heap.size wr).alloc (Nat.le_refl _) (.cells #[.int .i64 os[k].kd, .slice A' os[k].zs.length c', .string os[k].s] 26)
      refine (copied_any w.heap.size A' c' os[k] _ (g3.alloc hz _) (by simp; omega) (hs _ (List.getElem_mem hlt))).mono ?_
      rintro e w2 ⟨A2, c2, rfl, hl, hb2⟩
      unfold ob
      have z2 : wr.heap.size ≤ (wr.alloc (.cells #[.int .i64 os[k].kd, .slice A' os[k].zs.length c', .string os[k].s] 26)).heap.size := al.size
      have hb3 := al.trans (hb2.mono z2)
      have hf2 := hf.below hb3
      have hb4 := hb.trans (hb3.mono hz)
      have hl2 := hl.base z2
      have z3 := hb3.size
      clear hf hb2 hl g0 g1 g2 g3 al hb3 z2
      obtain ⟨q0, q1, q2, qf⟩ := hf2.o.cells3 hlt
      have qf0 := qf (k * 3)
      have qf1 := qf (k * 3 + 1)
      have qf2 := qf (k * 3 + 2)
      clear qf
      obtain ⟨y0, q0⟩ := q0
      obtain ⟨y1, q1⟩ := q1
      obtain ⟨y2, q2⟩ := q2
      go_wp2_with fail
      go_roundw
      case rel => exact ⟨k + 1, by omega, by go_num, by simpa [World.setCell] using hf2.step hlt hl2 (Nat.le_refl _) hz z3, ((hb4.setCell (Nat.le_refl _) _).setCell (Nat.le_refl _) _).setCell (Nat.le_refl _) _⟩
      case measure => simp [intOf]; omega
    · have hk' : k = os.length := by omega
      subst hk'
      go_wp2
      go_ret
      obtain ⟨xs, hm, hx, h3, h4⟩ := hf
      exact ⟨_, rfl, ⟨xs, hm, fun j hj => hx j hj hj, h3, h4⟩, hb⟩
end Go.Proofs.Ytjniemimdjpibaa
