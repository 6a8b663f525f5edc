/-
  Walks: marks written from any number on into lists of objects that lie apart from other lists, told apart by colours of blocks; and read again.
-/
import Derived.Test.YtblknnifccmpkaaG5C
namespace Go.Proofs.Ytblknnifccmpkaa
open Go.RowKit Wo Pu

/-! ### Blocks of one kind are written. -/
structure Only (S : Nat → Prop) (w w' : World) : Prop where
  os : w'.os = w.os
  tape : w'.tape = w.tape
  output : w'.output = w.output
  size : w.heap.size ≤ w'.heap.size
  block : ∀ k, k < w.heap.size → ¬ S k → w'.heap[k]? = w.heap[k]?
/-- The blocks of a colour. -/
def Hue (col : Nat → Nat) (c : Nat) : Nat → Prop := fun k => col k = c
section
variable {S T : Nat → Prop} {w w1 w2 : World}
theorem Only.refl (S : Nat → Prop) (w : World) : Only S w w := ⟨rfl, rfl, rfl, Nat.le_refl _, fun _ _ _ => rfl⟩
theorem Only.trans (h : Only S w w1) (k : Only S w1 w2) : Only S w w2 :=
  ⟨k.os.trans h.os, k.tape.trans h.tape, k.output.trans h.output, Nat.le_trans h.size k.size, fun i hi hc => (k.block i (Nat.lt_of_lt_of_le hi h.size) hc).trans (h.block i hi hc)⟩
theorem Only.mono (h : Only S w w1) (hs : ∀ k, S k → T k) : Only T w w1 := ⟨h.os, h.tape, h.output, h.size, fun i hi hc => h.block i hi fun e => hc (hs i e)⟩
theorem Only.later (h : Only S w w1) (k : Below w1.heap.size w1 w2) : Only S w w2 := h.trans ⟨k.os, k.tape, k.output, k.size, fun i hi _ => k.block i hi⟩
theorem Only.set_ (h : Only S w w1) {g : Nat} (hg : S g) (j : Nat) (u : Value) : Only S w (w1.setCell ⟨g, j, none⟩ u) :=
  h.trans ⟨rfl, rfl, rfl, by simp [World.setCell], fun i _ hc => Below.heap_setCell _ _ _ _ (fun e => hc (by rw [e]; exact hg))⟩
theorem Only.grown {row : Option Nat} (h : Only S w w1) (hg : w1.grownBy w2 row) (hr : ∀ k, row = some k → S k) : Only S w w2 :=
  h.trans ⟨hg.os, hg.tape, hg.output, hg.size, fun i hi hc => hg.block i hi (fun e => hc (hr i e.symm))⟩
theorem Only.below {B : Nat} (h : Only S w w1) (hB : B ≤ w.heap.size) (hc : ∀ k, k < B → ¬ S k) : Below B w w1 := ⟨h.os, h.tape, h.output, h.size, fun k hk => h.block k (by omega) (hc k hk)⟩
theorem Only.of_below (h : Below w.heap.size w w1) : Only S w w1 := ⟨h.os, h.tape, h.output, h.size, fun k hk _ => h.block k hk⟩
end
theorem row_same {w w' : World} {B n sz : Nat} {e : TypeId} {v : Value} {xs : List Value} (h : w.ownsRow B e sz v n xs) (hk : ∀ g, v.ownBlock = some g → w'.heap[g]? = w.heap[g]?) : w'.ownsRow B e sz v n xs := by
  refine ⟨h.1, ?_⟩
  rcases h.2 with ⟨h1, h2⟩ | ⟨g, cap, cur, hv, hB, hh, hr⟩
  · exact .inl ⟨h1, h2⟩
  · refine .inr ⟨g, cap, cur, hv, hB, ?_, hr⟩
    rw [hk g (by rw [hv]; rfl)]
    exact hh

/-! ### Lists of one colour. -/
def ColX (col : Nat → Nat) (c : Nat) (xs : List Value) (n : Nat) : Prop := ∀ i v g, i < n → xs[i * 3 + 1]? = some v → v.ownBlock = some g → col g = c
/-- A list of objects whose links lie apart, all in blocks of the colour c. -/
def OwnC (col : Nat → Nat) (c : Nat) (w : World) (B : Nat) (v : Value) (os : List Ob) : Prop :=
  ∃ xs, w.ownsRow B 38 3 v os.length xs ∧ (∀ j (hj : j < os.length), ObIs w B xs j os[j]) ∧ Apt xs os.length ∧ ColX col c xs os.length ∧ ∀ g, v.ownBlock = some g → col g = c
theorem OwnC.own {col : Nat → Nat} {c : Nat} {w : World} {B : Nat} {v : Value} {os : List Ob} (h : OwnC col c w B v os) : OwnObs w B v os := by
  obtain ⟨xs, h1, h2, _⟩ := h
  exact ⟨xs, h1, h2⟩
theorem OwnC.below {col : Nat → Nat} {c : Nat} {w w' : World} {B : Nat} {v : Value} {os : List Ob} (h : OwnC col c w B v os) (hb : Below w.heap.size w w') : OwnC col c w' B v os := by
  obtain ⟨xs, h1, h2, h3, h4, h5⟩ := h
  refine ⟨xs, own_below h1 hb (Nat.le_refl _), fun j hj => ?_, h3, h4, h5⟩
  obtain ⟨A, c', q0, q1, q2, q3⟩ := h2 j hj
  exact ⟨A, c', q0, q1, q2, q3.below hb (Nat.le_refl _)⟩
/-- Another colour is written. -/
theorem OwnC.other {col : Nat → Nat} {c : Nat} {S : Nat → Prop} {w w' : World} {B : Nat} {v : Value} {os : List Ob} (h : OwnC col c w B v os) (hb : Only S w w') (hne : ∀ k, col k = c → ¬ S k) : OwnC col c w' B v os := by
  obtain ⟨xs, h1, h2, h3, h4, h5⟩ := h
  have keep : ∀ {e : TypeId} {sz n : Nat} {u : Value} {ys : List Value}, w.ownsRow B e sz u n ys → (∀ g, u.ownBlock = some g → col g = c) → w'.ownsRow B e sz u n ys := fun hr hcu =>
    row_same hr fun g hg => hb.block g (World.ownsRow.lt hr g hg).2 (hne g (hcu g hg))
  refine ⟨xs, keep h1 h5, fun j hj => ?_, h3, h4, h5⟩
  obtain ⟨A, cc, q0, q1, q2, q3⟩ := h2 j hj
  exact ⟨A, cc, q0, q1, q2, keep q3 fun g hg => h4 j _ g hj q1 hg⟩
theorem OwnC.base {col : Nat → Nat} {c : Nat} {w : World} {B B' : Nat} {v : Value} {os : List Ob} (h : OwnC col c w B v os) (hB : B' ≤ B) : OwnC col c w B' v os := by
  obtain ⟨xs, h1, h2, h3, h4, h5⟩ := h
  refine ⟨xs, row_base h1 hB, fun j hj => ?_, h3, h4, h5⟩
  obtain ⟨A, cc, q0, q1, q2, q3⟩ := h2 j hj
  exact ⟨A, cc, q0, q1, q2, row_base q3 hB⟩
/-- Other colours, the same on the list's blocks. -/
theorem OwnC.recol {col col' : Nat → Nat} {c c' : Nat} {w : World} {B : Nat} {v : Value} {os : List Ob} (h : OwnC col c w B v os) (hc : ∀ g, g < w.heap.size → B ≤ g → col g = c → col' g = c') : OwnC col' c' w B v os := by
  obtain ⟨xs, h1, h2, h3, h4, h5⟩ := h
  refine ⟨xs, h1, h2, h3, fun i v g hi hv hg => ?_, fun g hg => ?_⟩
  · obtain ⟨A, cc, q0, q1, q2, q3⟩ := h2 i hi
    rw [q1] at hv
    injection hv with hv
    subst hv
    have := World.ownsRow.lt q3 g hg
    exact hc g this.2 this.1 (h4 i _ g hi q1 hg)
  · have := World.ownsRow.lt h1 g hg
    exact hc g this.2 this.1 (h5 g hg)
/-- A list of the call's own whose links lie apart: all of it lies from B up to the end. -/
theorem OwnObsF.col {w : World} {B : Nat} {v : Value} {os : List Ob} (h : OwnObsF w B v os) {col : Nat → Nat} {c : Nat} (hc : ∀ g, B ≤ g → g < w.heap.size → col g = c) : OwnC col c w B v os := by
  obtain ⟨xs, h1, h2, h3⟩ := h
  refine ⟨xs, h1, h2, h3, fun i u g hi hv hg => ?_, fun g hg => ?_⟩
  · obtain ⟨A, cc, q0, q1, q2, q3⟩ := h2 i hi
    rw [q1] at hv
    injection hv with hv
    subst hv
    have := World.ownsRow.lt q3 g hg
    exact hc g this.1 this.2
  · have := World.ownsRow.lt h1 g hg
    exact hc g this.1 this.2

/-! ### Marks from k0 on. -/
def kF (k0 : Nat) (os : List Ob) (m : Nat) : Nat := k0 + ((os.take m).map fun o => o.zs.length + 2).sum
theorem kF_zero (k0 : Nat) (os : List Ob) : kF k0 os 0 = k0 := rfl
theorem kF_succ {k0 : Nat} {os : List Ob} {m : Nat} (hm : m < os.length) : kF k0 os (m + 1) = kF k0 os m + (os[m].zs.length + 2) := by
  unfold kF
  rw [List.take_succ_eq_append_getElem hm, List.map_append, List.sum_append]
  simp
  omega
theorem kF_le {k0 : Nat} {os : List Ob} (hs : ∀ o ∈ os, o.zs.length ≤ 8) : ∀ m, m ≤ os.length → kF k0 os m ≤ k0 + 10 * m := by
  intro m
  induction m with
  | zero => intro _; rw [kF_zero]; omega
  | succ m ih =>
    intro h
    have := ih (by omega)
    have h2 := hs _ (List.getElem_mem (show m < os.length by omega))
    rw [kF_succ (by omega)]
    omega
theorem kF_ge (k0 : Nat) (os : List Ob) (m : Nat) : k0 ≤ kF k0 os m := by unfold kF; omega
def mkF (k0 : Nat) (os : List Ob) (j : Nat) (h : j < os.length) : Ob := mkAt (kF k0 os j) os[j]
def mkFs (k0 : Nat) (os : List Ob) : List Ob := (List.finRange os.length).map fun j => mkF k0 os j.1 j.2
theorem mkFs_length (k0 : Nat) (os : List Ob) : (mkFs k0 os).length = os.length := by simp [mkFs]
theorem mkFs_get {k0 : Nat} {os : List Ob} {j : Nat} (h : j < os.length) : (mkFs k0 os)[j]'(by rw [mkFs_length]; exact h) = mkF k0 os j h := by simp [mkFs]
/-- The list, the first m objects of it marked. -/
def MixF (col : Nat → Nat) (co k0 : Nat) (w : World) (B g c : Nat) (os : List Ob) (m : Nat) : Prop :=
  ∃ xs, w.ownsRow B 38 3 (.slice (some ⟨g, 0, none⟩) os.length c) os.length xs ∧ (∀ j (hj : j < os.length), ObIs w B xs j (if j < m then mkF k0 os j hj else os[j])) ∧ Apt xs os.length ∧ ColX col co xs os.length
/-- In the midst of object m: its number and its links are marked, its text is not. -/
def MidF (col : Nat → Nat) (co k0 : Nat) (w : World) (B g c : Nat) (os : List Ob) (m : Nat) : Prop :=
  ∃ xs, w.ownsRow B 38 3 (.slice (some ⟨g, 0, none⟩) os.length c) os.length xs ∧ (∀ j (hj : j < os.length), j ≠ m → ObIs w B xs j (if j < m then mkF k0 os j hj else os[j])) ∧
    (∀ hm : m < os.length, ∃ A c', xs[m * 3]? = some (.int .i64 (kF k0 os m : Nat)) ∧ xs[m * 3 + 1]? = some (.slice A os[m].zs.length c') ∧ Own w B (.slice A os[m].zs.length c') (marks ((kF k0 os m : Nat) + 1) os[m].zs.length)) ∧ Apt xs os.length ∧ ColX col co xs os.length
section
variable {col : Nat → Nat} {co k0 : Nat} {w w' : World} {B g c m : Nat} {os : List Ob}
theorem MidF.below (h : MidF col co k0 w B g c os m) (hb : Below w.heap.size w w') : MidF col co k0 w' B g c os m := by
  obtain ⟨xs, h1, h2, h3, h4⟩ := h
  refine ⟨xs, own_below h1 hb (Nat.le_refl _), fun j hj hne => ?_, fun hm => ?_, h4⟩
  · obtain ⟨A, c, q0, q1, q2, q3⟩ := h2 j hj hne
    exact ⟨A, c, q0, q1, q2, q3.below hb (Nat.le_refl _)⟩
  · obtain ⟨A, c, q0, q1, q2⟩ := h3 hm
    exact ⟨A, c, q0, q1, q2.below hb (Nat.le_refl _)⟩
theorem MidF.cell (h : MidF col co k0 w B g c os m) (hm : m < os.length) : (∃ v, w.cell? ⟨g, m * 3 + 2, none⟩ = some v) ∧ w.frozen? ⟨g, m * 3 + 2, none⟩ = false := by
  obtain ⟨xs, h1, _⟩ := h
  have hl := h1.1
  exact ⟨⟨_, (World.ownsRow.cellAt h1 (m * 3 + 2) (by omega)).trans (List.getElem?_eq_getElem (by omega))⟩, World.ownsRow.frozenAt h1 _⟩
theorem MidF.text (h : MidF col co k0 w B g c os m) (hm : m < os.length) (t : ByteArray) (ht : t = mtext (kF k0 os m + 1 + os[m].zs.length)) : MixF col co k0 (w.setCell ⟨g, m * 3 + 2, none⟩ (.string t)) B g c os (m + 1) := by
  obtain ⟨xs, h1, h2, h3, h4, h5⟩ := h
  have hl := h1.1
  have t1 : ∀ j d, j < os.length → d < 2 → (xs.set (m * 3 + 2) (.string t))[j * 3 + d]? = xs[j * 3 + d]? := fun j d hj hd => by rw [List.getElem?_set_ne (by omega)]
  refine ⟨xs.set (m * 3 + 2) (.string t), (World.ownsRow.stored h1 (m * 3 + 2) (.string t)).1, fun j hj => ?_, fun i j v u hi hj hij hv hu => ?_, fun i v k hi hv hk => ?_⟩
  · by_cases e : j = m
    · subst e
      obtain ⟨A, c', q0, q1, q3⟩ := h3 hj
      rw [if_pos (Nat.lt_succ_self _)]
      refine ⟨A, c', ?_, ?_, ?_, ?_⟩
      · rw [show j * 3 = j * 3 + 0 from rfl, t1 j 0 hj (by omega)]; exact q0
      · rw [t1 j 1 hj (by omega)]
        have e2 : (mkF k0 os j hj).zs.length = os[j].zs.length := marks_length _ _
        rw [e2]; exact q1
      · rw [List.getElem?_set_self (by omega), ht]; rfl
      · have e2 : (mkF k0 os j hj).zs.length = os[j].zs.length := marks_length _ _
        rw [e2]
        exact q3.offR h1 _ _
    · obtain ⟨A, c', q0, q1, q2, q3⟩ := h2 j hj e
      have e3 : (if j < m + 1 then mkF k0 os j hj else os[j]) = (if j < m then mkF k0 os j hj else os[j]) := by
        by_cases hjm : j < m
        · rw [if_pos hjm, if_pos (by omega)]
        · rw [if_neg hjm, if_neg (by omega)]
      rw [e3]
      refine ⟨A, c', ?_, ?_, ?_, q3.offR h1 _ _⟩
      · rw [show j * 3 = j * 3 + 0 from rfl, t1 j 0 hj (by omega)]; exact q0
      · rw [t1 j 1 hj (by omega)]; exact q1
      · rw [List.getElem?_set_ne (by omega)]; exact q2
  · rw [t1 i 1 hi (by omega)] at hv
    rw [t1 j 1 hj (by omega)] at hu
    exact h4 i j v u hi hj hij hv hu
  · rw [t1 i 1 hi (by omega)] at hv
    exact h5 i v k hi hv hk
/-- What the round at object m finds. -/
theorem MixF.begin_ (h : MixF col co k0 w B g c os m) (hm : m < os.length) : ∃ (A : Option Addr) (c' : Nat), (∃ v, w.cell? ⟨g, m * 3, none⟩ = some v) ∧ w.frozen? ⟨g, m * 3, none⟩ = false ∧ w.cell? ⟨g, m * 3 + 1, none⟩ = some (.slice A os[m].zs.length c') ∧
    Own (w.setCell ⟨g, m * 3, none⟩ (.int .i64 (kF k0 os m : Nat))) B (.slice A os[m].zs.length c') os[m].zs ∧ (∀ k, (Value.slice A os[m].zs.length c').ownBlock = some k → col k = co) ∧
    ∀ w2, (w.setCell ⟨g, m * 3, none⟩ (.int .i64 (kF k0 os m : Nat))).grownBy w2 (Value.slice A os[m].zs.length c').ownBlock → Own w2 B (.slice A os[m].zs.length c') (marks ((kF k0 os m : Nat) + 1) os[m].zs.length) → MidF col co k0 w2 B g c os m := by
  obtain ⟨xs, h1, h2, h3, h5⟩ := h
  have hl := h1.1
  obtain ⟨A, c', q0, q1, q2, q3⟩ := h2 m hm
  rw [if_neg (Nat.lt_irrefl m)] at q0 q1 q2 q3
  have o1 := q3.offR h1 (m * 3) (.int .i64 (kF k0 os m : Nat))
  have s1 := (World.ownsRow.stored h1 (m * 3) (.int .i64 (kF k0 os m : Nat))).1
  refine ⟨A, c', ⟨_, (World.ownsRow.cellAt h1 (m * 3) (by omega)).trans (List.getElem?_eq_getElem (by omega))⟩, World.ownsRow.frozenAt h1 _, (World.ownsRow.cellAt h1 (m * 3 + 1) (by omega)).trans q1, o1, fun k hk => h5 m _ k hm q1 hk, fun w2 hg hmk => ?_⟩
  have t1 : ∀ j d, j < os.length → 0 < d → d < 3 → (xs.set (m * 3) (.int .i64 (kF k0 os m : Nat)))[j * 3 + d]? = xs[j * 3 + d]? := fun j d hj hd hd2 => by rw [List.getElem?_set_ne (by omega)]
  refine ⟨xs.set (m * 3) (.int .i64 (kF k0 os m : Nat)), World.ownsRow.kept s1 hg (.inr (fun e => o1.neR s1 e.symm)), fun j hj hne => ?_, fun _ => ⟨A, c', ?_, ?_, hmk⟩, fun i j v u hi hj hij hv hu => ?_, fun i v k hi hv hk => ?_⟩
  · obtain ⟨A2, c2, r0, r1, r2, r3⟩ := h2 j hj
    have r4 := r3.offR h1 (m * 3) (.int .i64 (kF k0 os m : Nat))
    refine ⟨A2, c2, ?_, ?_, ?_, ?_⟩
    · rw [List.getElem?_set_ne (by omega)]; exact r0
    · rw [t1 j 1 hj (by omega) (by omega)]; exact r1
    · rw [t1 j 2 hj (by omega) (by omega)]; exact r2
    · have hap := h3 j m _ _ hj hm hne r1 q1
      refine World.ownsRow.kept r4 hg ?_
      rcases hu : (Value.slice A2 (if j < m then mkF k0 os j hj else os[j]).zs.length c2).ownBlock with _ | k
      · exact .inl rfl
      · exact .inr (fun e => hap k hu e.symm)
  · rw [List.getElem?_set_self (by omega)]
  · rw [t1 m 1 hm (by omega) (by omega)]; exact q1
  · rw [t1 i 1 hi (by omega) (by omega)] at hv
    rw [t1 j 1 hj (by omega) (by omega)] at hu
    exact h3 i j v u hi hj hij hv hu
  · rw [t1 i 1 hi (by omega) (by omega)] at hv
    exact h5 i v k hi hv hk
end
set_option maxHeartbeats 2000000 in
theorem markObjectS_F (col : Nat → Nat) (co k0 : Nat) (B g c : Nat) (os : List Ob) (w : World) (hm0 : MixF col co k0 w B g c os 0) (hco : col g = co) (hB : B ≤ w.heap.size) (hn : os.length ≤ 16) (hs : ∀ o ∈ os, o.zs.length ≤ 8) (hk0 : 1 ≤ k0) (hk : k0 + 10 * os.length ≤ 1000) :
    Calls Try.prog 50 #[.slice (some ⟨g, 0, none⟩) os.length c, .int .i64 (k0 : Nat)] w (fun e w' => e = .returned (.int .i64 (kF k0 os os.length : Nat)) ∧ MixF col co k0 w' B g c os os.length ∧ Only (Hue col co) w w' ∧ Below B w w') := by
  have HS := hid hs
  have HK0 := hid hk0
  have HKB : Hid (∀ m, m ≤ os.length → kF k0 os m ≤ 1000) := fun m hm => by have := kF_le (k0 := k0) hs m hm; omega
  go_enter Try.func50, Try.ntmps50
  go_wp2_with fail
  go_loopw [1, 5] (fun q i wr => ∃ m K : Nat, m ≤ os.length ∧ i = .int .i64 m ∧ q = .int .i64 (K : Nat) ∧ K ≤ 1000 ∧ Hid (K = kF k0 os m) ∧ MixF col co k0 wr B g c os m ∧ Only (Hue col co) w wr ∧ Below B w wr) (fun _ i _ => os.length - (intOf i).toNat)
  case atStart => exact ⟨0, k0, Nat.zero_le _, rfl, rfl, by omega, rfl, hm0, Only.refl _ _, Below.refl _ _⟩
  case round =>
    clear hm0 hs hk0 hk
    obtain ⟨m, K, hm, rfl, rfl, hK, HK, hl, hy, hb⟩ := hrel
    by_cases hlt : m < os.length
    · have hk1 := kF_succ (k0 := k0) hlt
      have hk2 := HKB.out (m + 1) (by omega)
      have hk3 : 1 ≤ K := by have := kF_ge k0 os m; have := HK0.out; rw [HK.out]; omega
      have hsm := HS.out _ (List.getElem_mem hlt)
      obtain ⟨A, c', ⟨v0, q0⟩, f0, q1, o1, oc, hmid⟩ := hl.begin_ hlt
      rw [← HK.out] at hk1 o1 hmid
      have HK1 := hid hk1
      have HT : Hid (∀ t, t = mtext (K + 1 + os[m].zs.length) → t = mtext (kF k0 os m + 1 + os[m].zs.length)) := fun t ht => by rw [← HK.out]; exact ht
      obtain ⟨n, hnn⟩ : ∃ n, os[m].zs.length = n := ⟨_, rfl⟩
      have hzz : ∃ zs : List Int, os[m].zs = zs ∧ zs.length = n := ⟨_, rfl, hnn⟩
      obtain ⟨zs, hz1, hz2⟩ := hzz
      rw [hnn] at q1 o1 oc hmid hsm hk1
      rw [hz1] at o1
      have HMID := hid hmid
      have HNN := hid hnn
      have hz := hb.size
      have b1 := hb.setCell (p := ⟨g, m * 3, none⟩) (by obtain ⟨xs, hx, _⟩ := hl; exact (World.ownsRow.lt hx g rfl).1) (.int .i64 (K : Nat))
      have y1 := hy.set_ hco (m * 3) (.int .i64 (K : Nat))
      have z1 : B ≤ (wr.setCell ⟨g, m * 3, none⟩ (.int .i64 (K : Nat))).heap.size := by simp [World.setCell]; omega
      clear hl hmid hz1 hnn hb hy
      have hcm := markInts_any B A c' zs ((K : Int) + 1) (wr.setCell ⟨g, m * 3, none⟩ (.int .i64 (K : Nat))) (by rw [hz2]; exact o1) (by omega) (by omega) (by omega)
      rw [hz2] at hcm
      have olt := World.ownsRow.lt o1
      clear o1
      go_wp2_with fail
      refine hcm.mono ?_
      rintro e w2 ⟨rfl, h2, h3⟩
      have hmd := HMID.out w2 h3 h2
      have b2 : Below B w w2 := b1.grown h3 z1 (fun k hk => (olt k hk).1)
      have y2 := y1.grown h3 oc
      clear hcm h2 h3 b1 y1 olt oc q0 q1 f0
      have z2 := Nat.le_trans hB b2.size
      go_wp2_with fail
      refine (markText_at _ (K + 1 + n) w2 (by omega) (by omega) (by omega)).mono ?_
      rintro e w3 ⟨rfl, b3⟩
      have hmd3 := hmd.below b3
      have b4 := b2.trans (b3.mono z2)
      have y4 := y2.later b3
      obtain ⟨⟨v2, q2⟩, f2⟩ := hmd3.cell hlt
      have hmx := hmd3.text hlt (mtext (K + 1 + n)) (HT.out _ (by rw [HNN.out]))
      have b5 := b4.setCell (p := ⟨g, m * 3 + 2, none⟩) (by obtain ⟨xs, hx, _⟩ := hmd3; exact (World.ownsRow.lt hx g rfl).1) (.string (mtext (K + 1 + n)))
      have y5 := y4.set_ hco (m * 3 + 2) (.string (mtext (K + 1 + n)))
      have HK2 : Hid (K + 1 + n + 1 = kF k0 os (m + 1)) := by show _ = _; rw [HK1.out, HNN.out]; omega
      have hK2 : K + 1 + n + 1 ≤ 1000 := by rw [HK2.out]; exact hk2
      clear hmd hmd3 b2 b3 b4 y2 y4 hk1 hk2 hk3
      go_wp2_with fail
      go_roundw
      case rel => exact ⟨m + 1, K + 1 + n + 1, by omega, by go_num, by go_num, hK2, HK2.out, hmx, y5, b5⟩
      case measure => simp [intOf]; omega
    · have hm' : m = os.length := by omega
      subst hm'
      go_wp2
      go_ret
      have hKe := HK.out
      subst hKe
      exact ⟨rfl, hl, hy, hb⟩
theorem markObjectS_nil (c : Nat) (A : Option Addr) (k0 : Nat) (w : World) : Calls Try.prog 50 #[.slice A 0 c, .int .i64 (k0 : Nat)] w (Same (.int .i64 (k0 : Nat)) w) := by
  go_enter Try.func50, Try.ntmps50
  go_wp2_with fail
  go_loopw [1, 5] (fun q i wr => i = .int .i64 0 ∧ q = .int .i64 (k0 : Nat) ∧ w = wr) (fun _ i _ => 0)
  case atStart => exact ⟨rfl, rfl, rfl⟩
  case round =>
    obtain ⟨rfl, rfl, rfl⟩ := hrel
    go_wp2
    go_ret
    exact ⟨rfl, rfl⟩
/-- Behind it: the list marked from k0 on, and no other colour. -/
def MarkedC (col : Nat → Nat) (co k0 B : Nat) (v : Value) (os : List Ob) (w : World) (e : Ending) (w' : World) : Prop :=
  e = .returned (.int .i64 (kF k0 os os.length : Nat)) ∧ OwnC col co w' B v (mkFs k0 os) ∧ Only (Hue col co) w w' ∧ Below B w w'
theorem MixF.full {col : Nat → Nat} {co k0 : Nat} {w : World} {B g c : Nat} {os : List Ob} (h : MixF col co k0 w B g c os os.length) (hco : col g = co) : OwnC col co w B (.slice (some ⟨g, 0, none⟩) os.length c) (mkFs k0 os) := by
  obtain ⟨xs, h1, h2, h3, h4⟩ := h
  refine ⟨xs, by rw [mkFs_length]; exact h1, fun j hj => ?_, by rw [mkFs_length]; exact h3, by rw [mkFs_length]; exact h4, fun k hk => ?_⟩
  · have hj' : j < os.length := by rw [mkFs_length] at hj; exact hj
    have := h2 j hj'
    rw [if_pos hj'] at this
    rw [mkFs_get hj']
    exact this
  · have : g = k := by simpa [Value.ownBlock] using hk
    rw [← this]; exact hco
theorem markObjectS_C (col : Nat → Nat) (co k0 B : Nat) (A : Option Addr) (c : Nat) (os : List Ob) (w : World) (h : OwnC col co w B (.slice A os.length c) os) (hB : B ≤ w.heap.size) (hn : os.length ≤ 16) (hs : ∀ o ∈ os, o.zs.length ≤ 8) (hk0 : 1 ≤ k0) (hk : k0 + 10 * os.length ≤ 1000) :
    Calls Try.prog 50 #[.slice A os.length c, .int .i64 (k0 : Nat)] w (MarkedC col co k0 B (.slice A os.length c) os w) := by
  rcases Nat.eq_zero_or_pos os.length with h0 | h0
  · have e : os = [] := List.eq_nil_of_length_eq_zero h0
    subst e
    refine (markObjectS_nil c A k0 w).mono ?_
    rintro e w' ⟨rfl, rfl⟩
    exact ⟨rfl, h, Only.refl _ _, Below.refl _ _⟩
  · obtain ⟨xs, h1, h2, h3, h4, h5⟩ := h
    obtain ⟨g, cap, e, -, -⟩ := World.ownsRow.form h1 h0
    injection e with e1 _ e3
    subst e1
    refine (markObjectS_F col co k0 B g c os w ⟨xs, h1, fun j hj => by rw [if_neg (Nat.not_lt_zero j)]; exact h2 j hj, h3, h4⟩ (h5 g rfl) hB hn hs hk0 hk).mono ?_
    rintro e w' ⟨rfl, q1, q2, q3⟩
    exact ⟨rfl, q1.full (h5 g rfl), q2, q3⟩

set_option maxHeartbeats 4000000 in
theorem heldObjectS_C (k0 : Nat) (A : Option Addr) (c : Nat) (os : List Ob) (w : World) (h : Objs w w.heap.size A (mkFs k0 os)) (hn : os.length ≤ 16) (hs : ∀ o ∈ os, o.zs.length ≤ 8) (hk0 : 1 ≤ k0) (hk : k0 + 10 * os.length ≤ 1000) :
    Calls Try.prog 93 #[.slice A os.length c, .int .i64 (k0 : Nat)] w (Ret (.int .i64 (kF k0 os os.length : Nat)) w) := by
  have HS := hid hs
  have HKB : Hid (∀ m, m ≤ os.length → kF k0 os m ≤ 1000) := fun m hm => by have := kF_le (k0 := k0) hs m hm; omega
  have HK0 := hid hk0
  have hk0' : k0 ≤ 1000 := by omega
  clear hs hk hk0
  go_enter Try.func93, Try.ntmps93
  go_wp2_with fail
  go_loopw [1, 5] (fun q i wr => ∃ m K : Nat, m ≤ os.length ∧ i = .int .i64 m ∧ q = .int .i64 (K : Nat) ∧ K ≤ 1000 ∧ Hid (K = kF k0 os m) ∧ Below w.heap.size w wr) (fun _ i _ => os.length - (intOf i).toNat)
  case atStart => exact ⟨0, k0, Nat.zero_le _, rfl, rfl, hk0', rfl, Below.refl _ _⟩
  case round =>
    obtain ⟨m, K, hm, rfl, rfl, hK, HK, hb⟩ := hrel
    by_cases hlt : m < os.length
    · have hk1 := kF_succ (k0 := k0) hlt
      have hk2 := HKB.out (m + 1) (by omega)
      have hsm := HS.out _ (List.getElem_mem hlt)
      obtain ⟨o, ad, A1, c1, ho, rfl, ha, g0, g1, g2, g3⟩ := (h.below hb (Nat.le_refl _)).obj (k := m) (by rw [mkFs_length]; exact hlt)
      rw [mkFs_get hlt] at ho
      subst ho
      obtain ⟨n, hnn⟩ : ∃ n, os[m].zs.length = n := ⟨_, rfl⟩
      have eO : mkF k0 os m hlt = ⟨(K : Int), marks ((K : Int) + 1) n, mtext (K + 1 + n)⟩ := by unfold mkF mkAt; rw [hnn, ← HK.out]
      rw [eO] at g0 g1 g2 g3
      simp only [marks_length] at g0 g1 g2 g3
      rw [← HK.out, hnn] at hk1
      rw [hnn] at hsm
      have HK2 : Hid (K + 1 + n + 1 = kF k0 os (m + 1)) := by show _ = _; rw [hk1]; omega
      have hK2 : K + 1 + n + 1 ≤ 1000 := by rw [HK2.out]; exact hk2
      have hz := hb.size
      have G2 := Later.cell (p := ⟨(ad.add (m * 3)).block, (ad.add (m * 3)).off + 2, none⟩) g2 (Nat.lt_of_lt_of_le ha hz)
      have hxx : Hid ((K : Int) + 1 + (n : Int) = ((K + 1 + n : Nat) : Int)) := by show _ = _; omega
      have hx1 : Hid (1 ≤ K + 1 + n ∧ K + 1 + n ≤ 100000) := by show _ ∧ _; omega
      have k0' : 0 ≤ (m : Int) := by omega
      have k1 : (m : Int) < (os.length : Int) := by omega
      clear hk1 hk2 eO hnn g2
      go_wp2_with fail
      refine (heldIntS_yes w.heap.size A1 c1 n ((K : Int) + 1) wr g3 (by omega) (by omega) (by omega)).mono ?_
      rintro e w2 ⟨rfl, rfl⟩
      go_wp2_with fail
      refine wp_region_later wr.heap.size (by kernel_rfl) (by kernel_rfl) ?_
      repeat (go_big_quiet_step ((go_at_call 92; exact Later.call (Nat.le_refl _) _ (markText_at _ (K + 1 + n) _ hxx.out hx1.out.1 hx1.out.2))))
      refine wpQuiet_nil ?_
      intro _ hw'
      obtain ⟨xx, hxx⟩ := hw'
      have hbx := xx.b
      subst hxx
      go_wp2
      go_roundw
      case rel => exact ⟨m + 1, K + 1 + n + 1, by omega, by go_num, by go_num, hK2, HK2.out, hb.trans (hbx.mono hz)⟩
      case measure => simp [intOf]; omega
    · have hm' : m = os.length := by omega
      subst hm'
      go_wp2
      go_ret
      have hKe := HK.out
      subst hKe
      exact .mk_ hb
end Go.Proofs.Ytblknnifccmpkaa
