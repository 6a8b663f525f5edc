/-
  Walks: marks written into a shard of the call's own, whose lists lie apart, and read again.
-/
import Derived.Test.YteeffchnbkkpfabDoorEqS
import Derived.Deep.Cut
namespace Go.Proofs.YteeffchnbkkpfabDoor
open Go.RowKit Wo Pu Rf Lk Sh

/-! ### Blocks from B up to D are written. -/
structure OnlyBD (B D : Nat) (w w' : World) : Prop where
  os : w'.os = w.os
  tape : w'.tape = w.tape
  output : w'.output = w.output
  size : w.heap.size ≤ w'.heap.size
  block : ∀ k, k < w.heap.size → ¬ (B ≤ k ∧ k < D) → w'.heap[k]? = w.heap[k]?
section
variable {B D : Nat} {w w1 w2 : World}
theorem OnlyBD.refl (B D : Nat) (w : World) : OnlyBD B D w w := ⟨rfl, rfl, rfl, Nat.le_refl _, fun _ _ _ => rfl⟩
theorem OnlyBD.trans (h : OnlyBD B D w w1) (k : OnlyBD B D w1 w2) : OnlyBD B D w w2 :=
  ⟨k.os.trans h.os, k.tape.trans h.tape, k.output.trans h.output, Nat.le_trans h.size k.size, fun i hi hc => (k.block i (Nat.lt_of_lt_of_le hi h.size) hc).trans (h.block i hi hc)⟩
theorem OnlyBD.of_but {R : Nat} (h : But R w w1) (hR : (B ≤ R ∧ R < D) ∨ w.heap.size ≤ R) : OnlyBD B D w w1 :=
  ⟨h.os, h.tape, h.output, h.size, fun k hk hc => h.block k hk (fun e => by injection e with e; omega)⟩
theorem OnlyBD.of_below (h : Below w.heap.size w w1) : OnlyBD B D w w1 := ⟨h.os, h.tape, h.output, h.size, fun k hk _ => h.block k hk⟩
theorem OnlyBD.below (h : OnlyBD B D w w1) (hB : B ≤ w.heap.size) : Below B w w1 := ⟨h.os, h.tape, h.output, h.size, fun k hk => h.block k (by omega) (by omega)⟩
theorem OnlyBD.row {C n sz : Nat} {e : TypeId} {v : Value} {xs : List Value} (h : OnlyBD B D w w1) (hr : w.ownsRow C e sz v n xs) (hD : D ≤ C) : w1.ownsRow C e sz v n xs := by
  have hl := World.ownsRow.lt hr
  refine ⟨hr.1, ?_⟩
  rcases hr.2 with ⟨h1, h2⟩ | ⟨g, cap, cur, hv, hB, hh, hr⟩
  · exact .inl ⟨h1, h2⟩
  · refine .inr ⟨g, cap, cur, hv, hB, ?_, hr⟩
    have := hl g (by rw [hv]; rfl)
    rw [h.block g this.2 (by omega)]
    exact hh
theorem OwnRecF.only {C : Nat} {v : Value} {rs : List Rec} (h : OwnRecF w C v rs) (k : OnlyBD B D w w1) (hD : D ≤ C) : OwnRecF w1 C v rs := by
  obtain ⟨xs, h1, h2, h3⟩ := h
  refine ⟨xs, k.row h1 hD, fun j hj => ?_, h3⟩
  obtain ⟨A, c, q0, q1, q2, q3, q4⟩ := h2 j hj
  exact ⟨A, c, q0, q1, q2, q3, k.row q4 hD⟩
theorem OwnShF.only {C : Nat} {v : Value} {rs : List Rec} (h : OwnShF w C v rs) (k : OnlyBD B D w w1) (hD : D ≤ C) : OwnShF w1 C v rs := by
  obtain ⟨A, c, e, h1, h2⟩ := h
  exact ⟨A, c, e, h1.only k hD, h2⟩
/-- Blocks from B on stay. -/
def Keeps (B : Nat) (w w' : World) : Prop := w.heap.size ≤ w'.heap.size ∧ ∀ k, B ≤ k → k < w.heap.size → w'.heap[k]? = w.heap[k]?
theorem Keeps.of_below (h : Below w.heap.size w w1) (B : Nat) : Keeps B w w1 := ⟨h.size, fun k _ hk => h.block k hk⟩
theorem Keeps.of_only {C : Nat} (h : OnlyBD B D w w1) (hD : D ≤ C) : Keeps C w w1 := ⟨h.size, fun k h1 h2 => h.block k h2 (by omega)⟩
theorem Keeps.trans (h : Keeps B w w1) (k : Keeps B w1 w2) : Keeps B w w2 := ⟨Nat.le_trans h.1 k.1, fun i h1 h2 => (k.2 i h1 (Nat.lt_of_lt_of_le h2 h.1)).trans (h.2 i h1 h2)⟩
theorem Keeps.row {n sz : Nat} {e : TypeId} {v : Value} {xs : List Value} (h : Keeps B w w1) (hr : w.ownsRow B e sz v n xs) : w1.ownsRow B e sz v n xs := by
  have hl := World.ownsRow.lt hr
  refine ⟨hr.1, ?_⟩
  rcases hr.2 with ⟨h1, h2⟩ | ⟨g, cap, cur, hv, hB, hh, hr⟩
  · exact .inl ⟨h1, h2⟩
  · refine .inr ⟨g, cap, cur, hv, hB, ?_, hr⟩
    have := hl g (by rw [hv]; rfl)
    rw [h.2 g this.1 this.2]
    exact hh
theorem OwnRecF.keep {v : Value} {rs : List Rec} (h : OwnRecF w B v rs) (k : Keeps B w w1) : OwnRecF w1 B v rs := by
  obtain ⟨xs, h1, h2, h3⟩ := h
  refine ⟨xs, k.row h1, fun j hj => ?_, h3⟩
  obtain ⟨A, c, q0, q1, q2, q3, q4⟩ := h2 j hj
  exact ⟨A, c, q0, q1, q2, q3, k.row q4⟩
theorem OwnShF.keep {v : Value} {rs : List Rec} (h : OwnShF w B v rs) (k : Keeps B w w1) : OwnShF w1 B v rs := by
  obtain ⟨A, c, e, h1, h2⟩ := h
  exact ⟨A, c, e, h1.keep k, h2⟩
theorem OwnI.only {C : Nat} {v : Value} {zs : List Int} (h : OwnI w C v zs) (k : OnlyBD B D w w1) (hD : D ≤ C) : OwnI w1 C v zs := k.row h hD
theorem Blk1.only {g : Nat} {t : TypeId} {v : Value} (h : Blk1 w g t v) (k : OnlyBD B D w w1) (hg : ¬ (B ≤ g ∧ g < D)) : Blk1 w1 g t v := (k.block g h.lt hg).trans h
theorem Blk2s.only {g : Nat} {t : TypeId} {v u : Value} (h : Blk2s w g t v u) (k : OnlyBD B D w w1) (hg : ¬ (B ≤ g ∧ g < D)) : Blk2s w1 g t v u := (k.block g h.lt hg).trans h
end

/-! ### Marks from k0 on. -/
def kR (k0 : Nat) (rs : List Rec) (m : Nat) : Nat := k0 + ((rs.take m).map fun r => 2 + 3 * r.us.length).sum
theorem kR_zero (k0 : Nat) (rs : List Rec) : kR k0 rs 0 = k0 := rfl
theorem kR_succ {k0 : Nat} {rs : List Rec} {m : Nat} (hm : m < rs.length) : kR k0 rs (m + 1) = kR k0 rs m + (2 + 3 * rs[m].us.length) := by
  unfold kR
  rw [List.take_succ_eq_append_getElem hm, List.map_append, List.sum_append]
  simp
  omega
theorem kR_eq (k0 : Nat) (rs : List Rec) : ∀ m, m ≤ rs.length → kR k0 rs m = k0 + 2 * m + 3 * partSzR rs m := by
  intro m
  induction m with
  | zero => intro _; rfl
  | succ m ih =>
    intro h
    rw [kR_succ (by omega), ih (by omega), partSzR_succ (by omega)]
    omega
theorem kR_mono {k0 : Nat} {rs : List Rec} {m : Nat} (hm : m ≤ rs.length) : kR k0 rs m ≤ kR k0 rs rs.length := by
  have hp : ∀ k, m ≤ k → k ≤ rs.length → partSzR rs m ≤ partSzR rs k := by
    intro k
    induction k with
    | zero => intro h _; rw [show m = 0 by omega]; exact Nat.le_refl _
    | succ k ih =>
      intro a b
      rcases Nat.lt_or_ge k m with e | e
      · rw [show m = k + 1 by omega]; exact Nat.le_refl _
      · have := ih e (by omega)
        rw [partSzR_succ (by omega)]
        omega
  rw [kR_eq k0 rs m hm, kR_eq k0 rs rs.length (Nat.le_refl _)]
  have := hp rs.length hm (Nat.le_refl _)
  omega
theorem kR_le {k0 : Nat} {rs : List Rec} : kR k0 rs rs.length ≤ k0 + 3 * allSzR rs := by
  rw [kR_eq k0 rs rs.length (Nat.le_refl _)]
  unfold allSzR
  omega
def mkR (k : Nat) (r : Rec) : Rec := ⟨(k : Int), ((k + 1 : Nat) : Int), mksU (k + 2) r.us.length⟩
def mkRs (k0 : Nat) (rs : List Rec) : List Rec := (List.finRange rs.length).map fun j => mkR (kR k0 rs j.1) rs[j.1]
theorem mkRs_length (k0 : Nat) (rs : List Rec) : (mkRs k0 rs).length = rs.length := by simp [mkRs]
theorem mkRs_get {k0 : Nat} {rs : List Rec} {j : Nat} (h : j < rs.length) : (mkRs k0 rs)[j]'(by rw [mkRs_length]; exact h) = mkR (kR k0 rs j) rs[j] := by simp [mkRs]
/-- The updates of the first n records lie below D. -/
def BelR (xs : List Value) (n D : Nat) : Prop := ∀ i v q, i < n → xs[i * 3 + 2]? = some v → v.ownBlock = some q → q < D
/-- The list, the first m records of it marked. -/
def MixR (k0 : Nat) (w : World) (B D g c : Nat) (rs : List Rec) (m : Nat) : Prop :=
  ∃ xs, w.ownsRow B 33 3 (.slice (some ⟨g, 0, none⟩) rs.length c) rs.length xs ∧ (∀ j (hj : j < rs.length), RecIs w B xs j (if j < m then mkR (kR k0 rs j) rs[j] else rs[j])) ∧ AptR xs rs.length ∧ BelR xs rs.length D ∧ g < D
theorem MixR.begin_ {w : World} {B g c k0 : Nat} {rs : List Rec} (h : OwnRecF w B (.slice (some ⟨g, 0, none⟩) rs.length c) rs) : MixR k0 w B w.heap.size g c rs 0 := by
  obtain ⟨xs, h1, h2, h3⟩ := h
  exact ⟨xs, h1, fun j hj => by rw [if_neg (Nat.not_lt_zero _)]; exact h2 j hj, h3, fun i v q hi hv hq => ((h2 i hi).lt v q hv hq).2, (World.ownsRow.lt h1 g rfl).2⟩
theorem MixR.end_ {w : World} {B D g c k0 : Nat} {rs : List Rec} (h : MixR k0 w B D g c rs rs.length) : OwnRecF w B (.slice (some ⟨g, 0, none⟩) rs.length c) (mkRs k0 rs) := by
  obtain ⟨xs, h1, h2, h3, -, -⟩ := h
  have hl := mkRs_length k0 rs
  refine ⟨xs, by rw [hl]; exact h1, fun j hj => ?_, by rw [hl]; exact h3⟩
  rw [hl] at hj
  have := h2 j hj
  rw [if_pos hj] at this
  rw [mkRs_get hj]
  exact this
/-- What the round at record m finds. -/
theorem MixR.step {w : World} {B D g c k0 m : Nat} {rs : List Rec} (h : MixR k0 w B D g c rs m) (hm : m < rs.length) (K : Nat) (hK : K = kR k0 rs m) :
    ∃ (A : Option Addr) (c' : Nat), (∃ v, w.cell? ⟨g, m * 3, none⟩ = some v) ∧ (∃ v, w.cell? ⟨g, m * 3 + 1, none⟩ = some v) ∧ (∀ o, w.frozen? ⟨g, o, none⟩ = false) ∧ w.cell? ⟨g, m * 3 + 2, none⟩ = some (.slice A rs[m].us.length c') ∧ (B ≤ g ∧ g < D) ∧
      OwnUps ((w.setCell ⟨g, m * 3, none⟩ (.int .i64 (K : Nat))).setCell ⟨g, m * 3 + 1, none⟩ (.int .i64 ((K : Int) + 1))) B (.slice A rs[m].us.length c') rs[m].us ∧ (∀ q, (Value.slice A rs[m].us.length c').ownBlock = some q → B ≤ q ∧ q < D) ∧
      ∀ R w2, InB A R → (A = none → w.heap.size ≤ R) → But R ((w.setCell ⟨g, m * 3, none⟩ (.int .i64 (K : Nat))).setCell ⟨g, m * 3 + 1, none⟩ (.int .i64 ((K : Int) + 1))) w2 → OwnUps w2 B (.slice A rs[m].us.length c') (mksU (K + 2) rs[m].us.length) → MixR k0 w2 B D g c rs (m + 1) := by
  obtain ⟨xs, h1, h2, h3, h4, h5⟩ := h
  have hl := h1.1
  obtain ⟨A, c', q0, q1, q2, q3, q4⟩ := h2 m hm
  rw [if_neg (Nat.lt_irrefl m)] at q0 q1 q2 q3 q4
  have s1 := (World.ownsRow.stored h1 (m * 3) (.int .i64 (K : Nat))).1
  have s2 := (World.ownsRow.stored s1 (m * 3 + 1) (.int .i64 ((K : Int) + 1))).1
  have keep : ∀ {u : Value} {us : List Up}, OwnUps w B u us → OwnUps ((w.setCell ⟨g, m * 3, none⟩ (.int .i64 (K : Nat))).setCell ⟨g, m * 3 + 1, none⟩ (.int .i64 ((K : Int) + 1))) B u us := fun {u us} h =>
    (h.keptT (by decide) (but_set w g (m * 3) _) (fun q hq => row_typed h1 q (by injection hq with hq; rw [← hq]; rfl))).keptT (by decide) (but_set _ g (m * 3 + 1) _) (fun q hq => row_typed s1 q (by injection hq with hq; rw [← hq]; rfl))
  have rd : ∀ j, j < rs.length * 3 → w.cell? ⟨g, j, none⟩ = xs[j]? := fun j hj => World.ownsRow.cellAt h1 j hj
  have t : ∀ j d, j < rs.length → d < 3 → (j ≠ m ∨ d = 2) → ((xs.set (m * 3) (.int .i64 (K : Nat))).set (m * 3 + 1) (.int .i64 ((K : Int) + 1)))[j * 3 + d]? = xs[j * 3 + d]? := fun j d hj hd hne => by
    rw [List.getElem?_set_ne (by omega), List.getElem?_set_ne (by omega)]
  refine ⟨A, c', ⟨_, (rd _ (by omega)).trans (List.getElem?_eq_getElem (by omega))⟩, ⟨_, (rd _ (by omega)).trans (List.getElem?_eq_getElem (by omega))⟩, fun o => World.ownsRow.frozenAt h1 o, (rd _ (by omega)).trans q2, ⟨(World.ownsRow.lt h1 g rfl).1, h5⟩, keep q4, fun q hq => ⟨(World.ownsRow.lt q4 q hq).1, h4 m _ q hm q2 hq⟩, fun R w2 hR hN hb ho => ?_⟩
  have hty : ∀ q, some R = some q → A ≠ none → ∃ cur fr, ((w.setCell ⟨g, m * 3, none⟩ (.int .i64 (K : Nat))).setCell ⟨g, m * 3 + 1, none⟩ (.int .i64 ((K : Int) + 1))).heap[q]? = some (.cells cur 100 fr) := fun q hq hA => by
    injection hq with hq
    subst hq
    rcases A with _ | ad
    · exact absurd rfl hA
    · have := hR ad rfl
      have k4 := keep q4
      refine row_typed k4 R ?_
      rw [← this]
      rfl
  have big : A = none → ∀ {C n sz : Nat} {e : TypeId} {u : Value} {ys : List Value}, ((w.setCell ⟨g, m * 3, none⟩ (.int .i64 (K : Nat))).setCell ⟨g, m * 3 + 1, none⟩ (.int .i64 ((K : Int) + 1))).ownsRow C e sz u n ys → w2.ownsRow C e sz u n ys := fun hA {C n sz e u ys} hr => by
    refine World.ownsRow.kept hr hb ?_
    rcases hu : u.ownBlock with _ | q
    · exact .inl rfl
    · refine .inr fun e => ?_
      injection e with e
      have h1 := (World.ownsRow.lt hr q hu).2
      have h2 := hN hA
      simp [World.setCell] at h1
      omega
  refine ⟨(xs.set (m * 3) (.int .i64 (K : Nat))).set (m * 3 + 1) (.int .i64 ((K : Int) + 1)), ?_, fun j hj => ?_, fun i j a b hi hj hij ha hb' => ?_, fun i v q hi hv hq => ?_, h5⟩
  · rcases A with _ | ad
    · exact big rfl s2
    · exact row_far_type s2 (by decide) hb (fun q hq => hty q hq (by simp))
  · by_cases e : j = m
    · subst e
      rw [if_pos (Nat.lt_succ_self _)]
      have e2 : (mkR (kR k0 rs j) rs[j]).us.length = rs[j].us.length := mksU_length _ _
      refine ⟨A, c', ?_, ?_, ?_, ?_, ?_⟩
      · rw [List.getElem?_set_ne (by omega), List.getElem?_set_self (by omega), hK]; rfl
      · rw [List.getElem?_set_self (by simp; omega), hK]; rfl
      · rw [e2, t j 2 hj (by omega) (.inr rfl)]; exact q2
      · rw [e2]; exact q3
      · rw [e2]
        rw [hK] at ho
        exact ho
    · have e3 : (if j < m + 1 then mkR (kR k0 rs j) rs[j] else rs[j]) = (if j < m then mkR (kR k0 rs j) rs[j] else rs[j]) := by
        by_cases hjm : j < m
        · rw [if_pos hjm, if_pos (by omega)]
        · rw [if_neg hjm, if_neg (by omega)]
      rw [e3]
      obtain ⟨A2, c2, r0, r1, r2, r3, r4⟩ := h2 j hj
      refine ⟨A2, c2, by rw [show j * 3 = j * 3 + 0 from rfl, t j 0 hj (by omega) (.inl e)]; exact r0, by rw [t j 1 hj (by omega) (.inl e)]; exact r1, by rw [t j 2 hj (by omega) (.inl e)]; exact r2, r3, ?_⟩
      have k4 := keep r4
      rcases A with _ | ad
      · exact big rfl k4
      · refine World.ownsRow.kept k4 hb ?_
        rcases hu : (Value.slice A2 (if j < m then mkR (kR k0 rs j) rs[j] else rs[j]).us.length c2).ownBlock with _ | q
        · exact .inl rfl
        · refine .inr fun e9 => ?_
          injection e9 with e9
          have := h3 j m _ _ hj hm e r2 q2 q hu
          apply this
          show some ad.block = some q
          rw [hR ad rfl, e9]
  · rw [t i 2 hi (by omega) (.inr rfl)] at ha
    rw [t j 2 hj (by omega) (.inr rfl)] at hb'
    exact h3 i j a b hi hj hij ha hb'
  · rw [t i 2 hi (by omega) (.inr rfl)] at hv
    exact h4 i v q hi hv hq
set_option maxRecDepth 100000 in
set_option maxHeartbeats 4000000 in
theorem markRecordS_any (B D g c : Nat) (rs : List Rec) (w : World) (h0 : MixR 1 w B D g c rs 0) (_ : D ≤ w.heap.size) (hf : FitR rs) (hk : kR 1 rs rs.length ≤ 4000000) :
    Calls Tryd.prog 75 #[.slice (some ⟨g, 0, none⟩) rs.length c, .int .i64 1] w (fun e w' => e = .returned (.int .i64 (kR 1 rs rs.length : Nat)) ∧ MixR 1 w' B D g c rs rs.length ∧ OnlyBD B D w w') := by
  have hf1 := hf.1
  have HF := hid hf.2
  have HKM : Hid (∀ m, m ≤ rs.length → kR 1 rs m ≤ 4000000) := fun m hm => Nat.le_trans (kR_mono hm) hk
  go_enter Tryd.func75, Tryd.ntmps75
  go_wp2_with fail
  go_loopw [1, 5] (fun q i wr => ∃ m K : Nat, m ≤ rs.length ∧ i = .int .i64 m ∧ q = .int .i64 (K : Nat) ∧ K ≤ 4000000 ∧ 1 ≤ K ∧ Hid (K = kR 1 rs m) ∧ MixR 1 wr B D g c rs m ∧ OnlyBD B D w wr) (fun _ i _ => rs.length - (intOf i).toNat)
  case atStart => exact ⟨0, 1, Nat.zero_le _, rfl, rfl, by omega, Nat.le_refl _, rfl, h0, OnlyBD.refl _ _ _⟩
  case round =>
    obtain ⟨m, K, hm, rfl, rfl, hK1, hK2, HK, hX, hO⟩ := hrel
    clear h0
    by_cases hlt : m < rs.length
    · obtain ⟨A, c', ⟨v0, c0⟩, ⟨v1, c1⟩, cf, c2, hgB, ou, hq, HN⟩ := hX.step hlt K HK.out
      have hk2 := HKM.out (m + 1) (by omega)
      have hks := kR_succ (k0 := 1) hlt
      have hul := HF.out _ (List.getElem_mem hlt)
      obtain ⟨us, hus⟩ : ∃ us, rs[m].us = us := ⟨_, rfl⟩
      rw [hus] at c2 ou hq HN hks hul
      rw [← HK.out] at hks
      have HKS := hid hks
      rw [hks] at hk2
      have hz := hO.size
      have f0 := cf (m * 3)
      have f1 := cf (m * 3 + 1)
      obtain ⟨R, hR1, hR2⟩ := inB_of A wr.heap.size
      have k0 : 0 ≤ (m : Int) := by omega
      have k1 : (m : Int) < (rs.length : Int) := by omega
      have HOS : Hid (OnlyBD B D w ((wr.setCell ⟨g, m * 3, none⟩ (.int .i64 (K : Nat))).setCell ⟨g, m * 3 + 1, none⟩ (.int .i64 ((K : Int) + 1)))) := (hO.trans (OnlyBD.of_but (but_set wr g (m * 3) _) (.inl hgB))).trans (OnlyBD.of_but (but_set _ g (m * 3 + 1) _) (.inl hgB))
      have HNN := hid HN
      have HRR : Hid ((B ≤ R ∧ R < D) ∨ wr.heap.size ≤ R) := by
        show _ ∨ _
        rcases A with _ | ad
        · exact .inr (by rw [hR2 rfl]; exact Nat.le_refl _)
        · have := hR1 ad rfl
          exact .inl (hq R (by rw [← this]; rfl))
      have e2 : ((K + 2 : Nat) : Int) = (K : Int) + 2 := by omega
      have HMU : Hid (∀ x : World, OwnUps x B (.slice A us.length c') us → Calls Tryd.prog 45 #[.slice A us.length c', .int .i64 ((K : Int) + 2)] x (UpsMarked ((K : Int) + 2 + 3 * (us.length : Int)) (.slice A us.length c') (K + 2) us.length R B x)) := fun x ho => by
        have := markUps_to ((K : Int) + 2 + 3 * (us.length : Int)) (K + 2) R B A c' us x ho hR1 hul (by omega) (by omega) (by omega)
        rwa [e2] at this
      have HOU := hid ou
      clear HN hX hO hks cf hq hus e2 ou
      go_wp2_with fail
      refine (HMU.out _ HOU.out).mono ?_
      rintro e w2 ⟨rfl, ho2, hb2⟩
      have X2 := HNN.out R w2 hR1 (fun e => by rw [hR2 e]; exact Nat.le_refl _) hb2 ho2
      have O2 := HOS.out.trans (OnlyBD.of_but hb2 (HRR.out.imp id (fun e => by simpa [World.setCell] using e)))
      have HK3 : Hid (K + 2 + 3 * us.length = kR 1 rs (m + 1)) := by show _ = _; rw [HKS.out]; omega
      clear HMU HNN HOS HOU ho2 hb2
      go_wp2_with fail
      go_roundw
      case rel => exact ⟨m + 1, K + 2 + 3 * us.length, by omega, by go_num, by congr 1, by omega, by omega, HK3, X2, O2⟩
      case measure => simp [intOf]; omega
    · have hm' : m = rs.length := by omega
      subst hm'
      go_wp2
      go_ret
      exact ⟨by rw [HK.out]; rfl, hX, hO⟩
set_option maxRecDepth 100000 in
set_option maxHeartbeats 4000000 in
theorem markShard_D (B : Nat) (v : Value) (rs : List Rec) (wx w : World) (h : OwnShF wx B v rs) (hb : Keeps B wx w) (hf : FitR rs) (hk : allSzR rs ≤ 1048577) :
    Calls Tryd.prog 39 #[v, .int .i64 1] w (fun e w' => e = .returned (.int .i64 (kR 1 rs rs.length : Nat)) ∧ OwnShF w' B v (mkRs 1 rs) ∧ OnlyBD B wx.heap.size w w') := by
  obtain ⟨A, c, rfl, h0, hc⟩ := h
  have hkk : kR 1 rs rs.length ≤ 4000000 := Nat.le_trans kR_le (by omega)
  unfold shV
  have al := (Below.refl w.heap.size w).alloc (Nat.le_refl _) (.cells #[.slice A rs.length c] 25)
  have x0 := Blk1.new_ w 25 (.slice A rs.length c)
  obtain ⟨w1, hw1⟩ : ∃ x, w.alloc (.cells #[.slice A rs.length c] 25) = x := ⟨_, rfl⟩
  rw [hw1] at al x0
  obtain ⟨y0, -⟩ := id x0.reads
  have hl := mkRs_length 1 rs
  obtain ⟨xs, h1, h2, h3⟩ := id h0
  rcases h1.2 with ⟨hv, hz⟩ | ⟨g, cap, cur, hv, -⟩
  · injection hv with e1 e2 e3
    subst e1
    subst e3
    have hrs : rs = [] := List.eq_nil_of_length_eq_zero hz
    subst hrs
    have hO : OnlyBD B wx.heap.size w w1 := OnlyBD.of_below al
    have hN : OwnShF w1 B (.agg #[.slice none 0 0]) (mkRs 1 []) := OwnShF.mk_ (OwnRecF.nil_none w1 B)
    clear h0 h1 h2 h3 hz hf hk e2 hl
    go_enter Tryd.func39, Tryd.ntmps39
    go_upto_region 1 with fail
    have hw2 : w.alloc (.cells #[.slice none 0 0] 25) = w1 := hw1
    rw [hw2]
    clear hw1 hw2
    go_wp2_with fail
    have CM : Calls Tryd.prog 75 #[.slice none 0 0, .int .i64 1] w1 (Same (.int .i64 1) w1) := by
      clear hO hN y0 x0 al
      go_enter Tryd.func75, Tryd.ntmps75
      go_wp2_with fail
      go_loopw [1, 5] (fun q i wr => i = .int .i64 0 ∧ q = .int .i64 1 ∧ w1 = wr) (fun _ _ _ => 0)
      case atStart => exact ⟨rfl, rfl, rfl⟩
      case round =>
        obtain ⟨rfl, rfl, rfl⟩ := hrel
        go_wp2
        go_ret
        exact ⟨rfl, rfl⟩
    refine CM.mono ?_
    rintro e w2 ⟨rfl, rfl⟩
    go_wp2
    go_ret
    exact ⟨rfl, hN, hO⟩
  · injection hv with e1 e2 e3
    subst e1
    subst e3
    have hX : MixR 1 w1 B wx.heap.size g c rs 0 := by
      have alx := hb.trans (Keeps.of_below al B)
      have hbm := MixR.begin_ (k0 := 1) h0
      obtain ⟨ys, k1, k2, k3, k4, k5⟩ := hbm
      refine ⟨ys, alx.row k1, fun j hj => ?_, k3, k4, k5⟩
      obtain ⟨A, c, q0, q1, q2, q3, q4⟩ := k2 j hj
      exact ⟨A, c, q0, q1, q2, q3, alx.row q4⟩
    have HM := hid (markRecordS_any B wx.heap.size g c rs w1 hX (Nat.le_trans hb.1 al.size) hf hkk)
    clear h0 h1 h2 h3 hX hf hk
    go_enter Tryd.func39, Tryd.ntmps39
    go_upto_region 1 with fail
    clear hw1
    go_wp2_with fail
    refine HM.out.mono ?_
    rintro e w2 ⟨rfl, hX2, hO2⟩
    have hO : OnlyBD B wx.heap.size w w2 := (OnlyBD.of_below al).trans hO2
    have hE := hX2.end_
    have hN : OwnShF w2 B (.agg #[.slice (some ⟨g, 0, none⟩) rs.length c]) (mkRs 1 rs) := ⟨some ⟨g, 0, none⟩, c, by rw [hl]; rfl, by rw [hl]; exact hE, by rw [hl]; exact hc⟩
    clear hX2 hE hO2 HM y0 hl
    go_wp2
    go_ret
    exact ⟨rfl, hN, hO⟩
set_option maxRecDepth 100000 in
set_option maxHeartbeats 4000000 in
theorem heldRecordS_any (A : Option Addr) (c : Nat) (rs : List Rec) (w : World) (h : Recs w w.heap.size A (mkRs 1 rs)) (hf : FitR rs) (hk : kR 1 rs rs.length ≤ 4000000) :
    Calls Tryd.prog 78 #[.slice A rs.length c, .int .i64 1] w (Ret (.int .i64 (kR 1 rs rs.length : Nat)) w) := by
  have hf1 := hf.1
  have HF := hid hf.2
  have HKM : Hid (∀ m, m ≤ rs.length → kR 1 rs m ≤ 4000000) := fun m hm => Nat.le_trans (kR_mono hm) hk
  go_enter Tryd.func78, Tryd.ntmps78
  go_wp2_with fail
  go_loopw [1, 5] (fun q i wr => ∃ m K : Nat, m ≤ rs.length ∧ i = .int .i64 m ∧ q = .int .i64 (K : Nat) ∧ K ≤ 4000000 ∧ 1 ≤ K ∧ Hid (K = kR 1 rs m) ∧ Below w.heap.size w wr) (fun _ i _ => rs.length - (intOf i).toNat)
  case atStart => exact ⟨0, 1, Nat.zero_le _, rfl, rfl, by omega, Nat.le_refl _, rfl, Below.refl _ _⟩
  case round =>
    obtain ⟨m, K, hm, rfl, rfl, hK1, hK2, HK, hb⟩ := hrel
    by_cases hlt : m < rs.length
    · obtain ⟨o, ad, A1, c1, ho, rfl, ha, g0, g1, g2, -, g4⟩ := (h.on hb).rec (k := m) (by rw [mkRs_length]; exact hlt)
      rw [mkRs_get hlt] at ho
      have hk2 := HKM.out (m + 1) (by omega)
      have hks := kR_succ (k0 := 1) hlt
      have hul := HF.out _ (List.getElem_mem hlt)
      obtain ⟨us, hus⟩ : ∃ us, rs[m].us = us := ⟨_, rfl⟩
      have eo : o = ⟨(K : Int), (K : Int) + 1, mksU (K + 2) us.length⟩ := by rw [← ho, ← HK.out]; unfold mkR; rw [hus]; rfl
      rw [hus] at hks hul
      rw [← HK.out] at hks
      rw [hks] at hk2
      subst eo
      simp only [mksU_length] at g0 g1 g2 g4
      have k0 : 0 ≤ (m : Int) := by omega
      have k1 : (m : Int) < (rs.length : Int) := by omega
      have e2 : ((K + 2 : Nat) : Int) = (K : Int) + 2 := by omega
      have HH : Hid (Calls Tryd.prog 94 #[.slice A1 us.length c1, .int .i64 ((K : Int) + 2)] wr (Ret (.int .i64 ((K : Int) + 2 + 3 * (us.length : Int))) wr)) := by
        have := heldUps_to ((K : Int) + 2 + 3 * (us.length : Int)) (K + 2) A1 c1 us.length wr g4 hul (by omega) (by omega)
        rwa [e2] at this
      have HK3 : Hid (K + 2 + 3 * us.length = kR 1 rs (m + 1)) := by show _ = _; rw [hks]; omega
      have hneg : ¬ ((K : Int) + 2 + 3 * (us.length : Int) < 0) := by omega
      clear hks hus ho e2 g4
      go_wp2_with fail
      refine HH.out.mono ?_
      rintro e w2 ⟨rfl, d2⟩
      have hb2 := hb.trans (d2.mono hb.size)
      clear HH
      go_wp2_with fail
      go_roundw
      case rel => exact ⟨m + 1, K + 2 + 3 * us.length, by omega, by go_num, by congr 1, by omega, by omega, HK3, hb2⟩
      case measure => simp [intOf]; omega
    · have hm' : m = rs.length := by omega
      subst hm'
      go_wp2
      go_ret
      exact ⟨by rw [HK.out]; rfl, hb⟩
set_option maxHeartbeats 2000000 in
theorem heldShard_F (v : Value) (rs : List Rec) (w : World) (h : Shd w w.heap.size v (mkRs 1 rs)) (hf : FitR rs) (hk : allSzR rs ≤ 1048577) :
    Calls Tryd.prog 46 #[v, .int .i64 1] w (Ret (.int .i64 (kR 1 rs rs.length : Nat)) w) := by
  obtain ⟨A, c, rfl, h0, hc⟩ := h
  have hkk : kR 1 rs rs.length ≤ 4000000 := Nat.le_trans kR_le (by omega)
  rw [mkRs_length] at *
  unfold shV
  have al := (Below.refl w.heap.size w).alloc (Nat.le_refl _) (.cells #[.slice A rs.length c] 25)
  have HM := hid (heldRecordS_any A c rs _ (h0.on al) hf hkk)
  obtain ⟨K, hK⟩ : ∃ K, kR 1 rs rs.length = K := ⟨_, rfl⟩
  rw [hK] at HM hkk ⊢
  have hneg : ¬ ((K : Int) < 0) := by omega
  clear h0 hf hk hK
  go_enter Tryd.func46, Tryd.ntmps46
  go_wp2_with fail
  refine HM.out.mono ?_
  rintro e w2 ⟨rfl, d2⟩
  clear HM
  go_wp2
  go_ret
  exact ⟨rfl, al.trans (d2.mono al.size)⟩
end Go.Proofs.YteeffchnbkkpfabDoor
