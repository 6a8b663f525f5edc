/-
  Walks: marks written into areas and quarantines whose parts lie apart, and read again.
-/
import Derived.Test.YtblknnifccmpkaaMarkC
import Derived.Test.YtblknnifccmpkaaG7C
namespace Go.Proofs.Ytblknnifccmpkaa
open Go.RowKit Wo Pu Qu

/-- Among the cells xs the j-th area is a; its objects lie apart, in blocks of the colour c. -/
def ArC (col : Nat → Nat) (c : Nat) (w : World) (B : Nat) (xs : List Value) (j : Nat) (a : Ar) : Prop :=
  ∃ (A : Option Addr) (cc : Nat), xs[j * 2]? = some (.int .i64 a.t) ∧ xs[j * 2 + 1]? = some (.slice A a.os.length cc) ∧ a.os.length ≤ cc ∧ OwnC col c w B (.slice A a.os.length cc) a.os
/-- Areas that lie apart: the list in blocks of the colour 1, the objects of the j-th in those of the colour j + 2. -/
def OwnArsC (col : Nat → Nat) (w : World) (B : Nat) (v : Value) (rs : List Ar) : Prop :=
  ∃ xs, w.ownsRow B 84 2 v rs.length xs ∧ (∀ j (hj : j < rs.length), ArC col (j + 2) w B xs j rs[j]) ∧ ∀ g, v.ownBlock = some g → col g = 1
/-- A quarantine that lies apart: the store in blocks of the colour 0. -/
def OwnQC (col : Nat → Nat) (w : World) (B : Nat) (v : Value) (q : Qr) : Prop := ∃ A c A2 c2, v = qv A q.m.length c A2 q.rs.length c2 ∧ OwnC col 0 w B (.slice A q.m.length c) q.m ∧ q.m.length ≤ c ∧ OwnArsC col w B (.slice A2 q.rs.length c2) q.rs ∧ q.rs.length ≤ c2
theorem OwnArsC.own {col : Nat → Nat} {w : World} {B : Nat} {v : Value} {rs : List Ar} (h : OwnArsC col w B v rs) : OwnArs w B v rs := by
  obtain ⟨xs, h1, h2, _⟩ := h
  refine ⟨xs, h1, fun j hj => ?_⟩
  obtain ⟨A, c, q0, q1, q2, q3⟩ := h2 j hj
  exact ⟨A, c, q0, q1, q2, q3.own⟩
theorem OwnQC.own {col : Nat → Nat} {w : World} {B : Nat} {v : Value} {q : Qr} (h : OwnQC col w B v q) : OwnQ w B v q := by
  obtain ⟨A, c, A2, c2, e, h1, h2, h3, h4⟩ := h
  exact ⟨A, c, A2, c2, e, h1.own, h2, h3.own, h4⟩
theorem OwnArsC.below {col : Nat → Nat} {w w' : World} {B : Nat} {v : Value} {rs : List Ar} (h : OwnArsC col w B v rs) (hb : Below w.heap.size w w') : OwnArsC col w' B v rs := by
  obtain ⟨xs, h1, h2, h3⟩ := h
  refine ⟨xs, own_below h1 hb (Nat.le_refl _), fun j hj => ?_, h3⟩
  obtain ⟨A, c, q0, q1, q2, q3⟩ := h2 j hj
  exact ⟨A, c, q0, q1, q2, q3.below hb⟩
theorem OwnQC.below {col : Nat → Nat} {w w' : World} {B : Nat} {v : Value} {q : Qr} (h : OwnQC col w B v q) (hb : Below w.heap.size w w') : OwnQC col w' B v q := by
  obtain ⟨A, c, A2, c2, e, h1, h2, h3, h4⟩ := h
  exact ⟨A, c, A2, c2, e, h1.below hb, h2, h3.below hb, h4⟩
theorem OwnArsC.other {col : Nat → Nat} {S : Nat → Prop} {w w' : World} {B : Nat} {v : Value} {rs : List Ar} (h : OwnArsC col w B v rs) (hb : Only S w w') (hne : ∀ k, 1 ≤ col k → ¬ S k) : OwnArsC col w' B v rs := by
  obtain ⟨xs, h1, h2, h3⟩ := h
  refine ⟨xs, row_same h1 fun g hg => hb.block g (World.ownsRow.lt h1 g hg).2 (hne g (by rw [h3 g hg]; omega)), fun j hj => ?_, h3⟩
  obtain ⟨A, c, q0, q1, q2, q3⟩ := h2 j hj
  exact ⟨A, c, q0, q1, q2, q3.other hb fun k hk => hne k (by omega)⟩
theorem OwnQC.other {col : Nat → Nat} {S : Nat → Prop} {w w' : World} {B : Nat} {v : Value} {q : Qr} (h : OwnQC col w B v q) (hb : Only S w w') (hne : ∀ k, B ≤ k → k < w.heap.size → ¬ S k) : OwnQC col w' B v q := by
  obtain ⟨A, c, A2, c2, e, h1, h2, h3, h4⟩ := h
  have keep : ∀ {e : TypeId} {sz n : Nat} {u : Value} {ys : List Value}, w.ownsRow B e sz u n ys → w'.ownsRow B e sz u n ys := fun hr =>
    row_same hr fun g hg => hb.block g (World.ownsRow.lt hr g hg).2 (hne g (World.ownsRow.lt hr g hg).1 (World.ownsRow.lt hr g hg).2)
  have keepC : ∀ {c : Nat} {u : Value} {os : List Ob}, OwnC col c w B u os → OwnC col c w' B u os := fun ⟨xs, q1, q2, q3, q4, q5⟩ => by
    refine ⟨xs, keep q1, fun j hj => ?_, q3, q4, q5⟩
    obtain ⟨A, cc, r0, r1, r2, r3⟩ := q2 j hj
    exact ⟨A, cc, r0, r1, r2, keep r3⟩
  obtain ⟨xs, q1, q2, q3⟩ := h3
  refine ⟨A, c, A2, c2, e, keepC h1, h2, ⟨xs, keep q1, fun j hj => ?_, q3⟩, h4⟩
  obtain ⟨A, cc, r0, r1, r2, r3⟩ := q2 j hj
  exact ⟨A, cc, r0, r1, r2, keepC r3⟩

theorem OwnQC.recol {col col' : Nat → Nat} {w : World} {B : Nat} {v : Value} {q : Qr} (h : OwnQC col w B v q) (hc : ∀ g, g < w.heap.size → col' g = col g) : OwnQC col' w B v q := by
  obtain ⟨A, c, A2, c2, e, h1, h2, ⟨xs, q1, q2, q3⟩, h4⟩ := h
  refine ⟨A, c, A2, c2, e, h1.recol fun g hg _ e => by rw [hc g hg]; exact e, h2, ⟨xs, q1, fun j hj => ?_, fun g hg => ?_⟩, h4⟩
  · obtain ⟨A, cc, r0, r1, r2, r3⟩ := q2 j hj
    exact ⟨A, cc, r0, r1, r2, r3.recol fun g hg _ e => by rw [hc g hg]; exact e⟩
  · rw [hc g (World.ownsRow.lt q1 g hg).2]
    exact q3 g hg

/-! ### Marks. -/
def kA (k0 : Nat) (rs : List Ar) (m : Nat) : Nat := k0 + ((rs.take m).map fun a => 1 + (a.os.map fun o => o.zs.length + 2).sum).sum
theorem kA_zero (k0 : Nat) (rs : List Ar) : kA k0 rs 0 = k0 := rfl
theorem kA_succ {k0 : Nat} {rs : List Ar} {m : Nat} (hm : m < rs.length) : kA k0 rs (m + 1) = kF (kA k0 rs m + 1) rs[m].os rs[m].os.length := by
  unfold kA kF
  rw [List.take_succ_eq_append_getElem hm, List.map_append, List.sum_append, List.take_length]
  simp
  omega
theorem kA_ge (k0 : Nat) (rs : List Ar) (m : Nat) : k0 ≤ kA k0 rs m := by unfold kA; omega
/-- Sizes that the marks can bear. -/
def FewA (rs : List Ar) : Prop := rs.length ≤ 4 ∧ ∀ a ∈ rs, a.os.length ≤ 16 ∧ ∀ o ∈ a.os, o.zs.length ≤ 8
theorem kA_le {k0 : Nat} {rs : List Ar} (h : FewA rs) : ∀ m, m ≤ rs.length → kA k0 rs m ≤ k0 + 161 * m := by
  intro m
  induction m with
  | zero => intro _; rw [kA_zero]; omega
  | succ m ih =>
    intro hm
    have h1 := ih (by omega)
    have h2 := h.2 _ (List.getElem_mem (show m < rs.length by omega))
    have h3 := kF_le (k0 := kA k0 rs m + 1) h2.2 rs[m].os.length (Nat.le_refl _)
    rw [kA_succ (by omega)]
    omega
def mkA (k : Nat) (a : Ar) : Ar := ⟨(k : Int), mkFs (k + 1) a.os⟩
def mkAj (k0 : Nat) (rs : List Ar) (j : Nat) (h : j < rs.length) : Ar := mkA (kA k0 rs j) rs[j]
def mkAs (k0 : Nat) (rs : List Ar) : List Ar := (List.finRange rs.length).map fun j => mkAj k0 rs j.1 j.2
theorem mkAs_length (k0 : Nat) (rs : List Ar) : (mkAs k0 rs).length = rs.length := by simp [mkAs]
theorem mkAs_get {k0 : Nat} {rs : List Ar} {j : Nat} (h : j < rs.length) : (mkAs k0 rs)[j]'(by rw [mkAs_length]; exact h) = mkAj k0 rs j h := by simp [mkAs]
/-- The areas, the first m of them marked. -/
def MixA (col : Nat → Nat) (k0 : Nat) (w : World) (B g c : Nat) (rs : List Ar) (m : Nat) : Prop :=
  ∃ xs, w.ownsRow B 84 2 (.slice (some ⟨g, 0, none⟩) rs.length c) rs.length xs ∧ (∀ j (hj : j < rs.length), ArC col (j + 2) w B xs j (if j < m then mkAj k0 rs j hj else rs[j]))
theorem MixA.begin_ {col : Nat → Nat} {k0 : Nat} {w : World} {B g c m : Nat} {rs : List Ar} (h : MixA col k0 w B g c rs m) (hm : m < rs.length) (hcg : col g = 1) : ∃ (A : Option Addr) (c' : Nat), (∃ v, w.cell? ⟨g, m * 2, none⟩ = some v) ∧ w.frozen? ⟨g, m * 2, none⟩ = false ∧ w.cell? ⟨g, m * 2 + 1, none⟩ = some (.slice A rs[m].os.length c') ∧ B ≤ g ∧
    OwnC col (m + 2) (w.setCell ⟨g, m * 2, none⟩ (.int .i64 (kA k0 rs m : Nat))) B (.slice A rs[m].os.length c') rs[m].os ∧
    ∀ w2, Only (Hue col (m + 2)) (w.setCell ⟨g, m * 2, none⟩ (.int .i64 (kA k0 rs m : Nat))) w2 → OwnC col (m + 2) w2 B (.slice A rs[m].os.length c') (mkFs (kA k0 rs m + 1) rs[m].os) → MixA col k0 w2 B g c rs (m + 1) := by
  obtain ⟨xs, h1, h2⟩ := h
  have hl := h1.1
  obtain ⟨A, c', q0, q1, q2, q3⟩ := h2 m hm
  rw [if_neg (Nat.lt_irrefl m)] at q0 q1 q2 q3
  have hst := World.ownsRow.stored h1 (m * 2) (.int .i64 (kA k0 rs m : Nat))
  have hon : Only (Hue col 1) w (w.setCell ⟨g, m * 2, none⟩ (.int .i64 (kA k0 rs m : Nat))) := (Only.refl _ w).set_ (show Hue col 1 g from hcg) _ _
  refine ⟨A, c', ⟨_, (World.ownsRow.cellAt h1 (m * 2) (by omega)).trans (List.getElem?_eq_getElem (by omega))⟩, World.ownsRow.frozenAt h1 _, (World.ownsRow.cellAt h1 (m * 2 + 1) (by omega)).trans q1, (World.ownsRow.lt h1 g rfl).1, q3.other hon fun k hk e => by have : col k = 1 := e; omega, fun w2 hy hmk => ?_⟩
  refine ⟨xs.set (m * 2) (.int .i64 (kA k0 rs m : Nat)), row_same hst.1 fun k hk => hy.block k (World.ownsRow.lt hst.1 k hk).2 (fun e => ?_), fun j hj => ?_⟩
  · have e1 : g = k := by simpa [Value.ownBlock] using hk
    have e2 : col k = m + 2 := e
    rw [← e1, hcg] at e2
    omega
  · by_cases e : j = m
    · subst e
      rw [if_pos (Nat.lt_succ_self _)]
      have e2 : (mkAj k0 rs j hj).os.length = rs[j].os.length := mkFs_length _ _
      refine ⟨A, c', ?_, ?_, by rw [e2]; exact q2, by rw [e2]; exact hmk⟩
      · rw [List.getElem?_set_self (by omega)]; rfl
      · rw [List.getElem?_set_ne (by omega), e2]; exact q1
    · obtain ⟨A2, c2, r0, r1, r2, r3⟩ := h2 j hj
      have e3 : (if j < m + 1 then mkAj k0 rs j hj else rs[j]) = (if j < m then mkAj k0 rs j hj else rs[j]) := by
        by_cases hjm : j < m
        · rw [if_pos hjm, if_pos (by omega)]
        · rw [if_neg hjm, if_neg (by omega)]
      rw [e3]
      refine ⟨A2, c2, by rw [List.getElem?_set_ne (by omega)]; exact r0, by rw [List.getElem?_set_ne (by omega)]; exact r1, r2, (r3.other hon fun k hk e => by have : col k = 1 := e; omega).other hy fun k hk e => by have : col k = m + 2 := e; omega⟩
/-- Behind it: the areas marked from k0 on, and nothing of the colour 0. -/
def MarkedA (col : Nat → Nat) (k0 B : Nat) (v : Value) (rs : List Ar) (w : World) (e : Ending) (w' : World) : Prop :=
  e = .returned (.int .i64 (kA k0 rs rs.length : Nat)) ∧ OwnArsC col w' B v (mkAs k0 rs) ∧ Only (fun k => 1 ≤ col k ∧ col k ≤ 50) w w' ∧ Below B w w'
set_option maxHeartbeats 4000000 in
theorem markAreaS_F (col : Nat → Nat) (k0 : Nat) (B g c : Nat) (rs : List Ar) (w : World) (hm0 : MixA col k0 w B g c rs 0) (hco : col g = 1) (hB : B ≤ w.heap.size) (hs : FewA rs) (hk0 : 1 ≤ k0) (hk : k0 ≤ 200) :
    Calls Try.prog 91 #[.slice (some ⟨g, 0, none⟩) rs.length c, .int .i64 (k0 : Nat)] w (fun e w' => e = .returned (.int .i64 (kA k0 rs rs.length : Nat)) ∧ MixA col k0 w' B g c rs rs.length ∧ Only (fun k => 1 ≤ col k ∧ col k ≤ 50) w w' ∧ Below B w w') := by
  have HS := hid hs
  have HK0 := hid hk0
  have hn : rs.length ≤ 4 := hs.1
  have HKB : Hid (∀ m, m ≤ rs.length → kA k0 rs m + 161 ≤ 1010 ∧ (m < rs.length → kA k0 rs m ≤ 690)) := fun m hm => by have := kA_le (k0 := k0) hs m hm; omega
  go_enter Try.func91, Try.ntmps91
  go_wp2_with fail
  go_loopw [1, 5] (fun q i wr => ∃ m K : Nat, m ≤ rs.length ∧ i = .int .i64 m ∧ q = .int .i64 (K : Nat) ∧ K ≤ 1000 ∧ Hid (K = kA k0 rs m) ∧ MixA col k0 wr B g c rs m ∧ Only (fun k => 1 ≤ col k ∧ col k ≤ 50) w wr ∧ Below B w wr) (fun _ i _ => rs.length - (intOf i).toNat)
  case atStart => exact ⟨0, k0, Nat.zero_le _, rfl, rfl, by omega, rfl, hm0, Only.refl _ _, Below.refl _ _⟩
  case round =>
    clear hm0 hs hk0 hk
    obtain ⟨m, K, hm, rfl, rfl, hK, HK, hl, hy, hb⟩ := hrel
    by_cases hlt : m < rs.length
    · have hk1 := kA_succ (k0 := k0) hlt
      have hk2 := (HKB.out m (by omega)).2 hlt
      have hk3 : 1 ≤ K := by have := kA_ge k0 rs m; have := HK0.out; rw [HK.out]; omega
      have hk4 := (HKB.out (m + 1) (by omega)).1
      obtain ⟨A, c', ⟨v0, q0⟩, f0, q1, hg1, o1, hmid⟩ := hl.begin_ hlt hco
      have hfa := HS.out.2 _ (List.getElem_mem hlt)
      rw [← HK.out] at hk1 o1 hmid hk2
      obtain ⟨a, ha⟩ : ∃ a, rs[m] = a := ⟨_, rfl⟩
      rw [ha] at q1 o1 hmid hk1 hfa
      have HMID := hid hmid
      have HK1 := hid hk1
      have hz := hb.size
      have b1 := hb.setCell (p := ⟨g, m * 2, none⟩) hg1 (.int .i64 (K : Nat))
      have y1 : Only (fun k => 1 ≤ col k ∧ col k ≤ 50) w (wr.setCell ⟨g, m * 2, none⟩ (.int .i64 (K : Nat))) := hy.set_ (show 1 ≤ col g ∧ col g ≤ 50 by omega) (m * 2) (.int .i64 (K : Nat))
      have z1 : B ≤ (wr.setCell ⟨g, m * 2, none⟩ (.int .i64 (K : Nat))).heap.size := by simp [World.setCell]; omega
      have CM := hid (markObjectS_C col (m + 2) (K + 1) B A c' a.os _ o1 z1 hfa.1 hfa.2 (by omega) (by have := hfa.1; omega))
      have HKE : Hid (((K + 1 : Nat) : Int) = (K : Int) + 1) := by show _ = _; omega
      rw [HKE.out] at CM
      clear hl hmid hb hy ha o1
      go_wp2_with fail
      refine CM.out.mono ?_
      rintro e w2 ⟨rfl, h2, h3, h4⟩
      have hmx := HMID.out w2 h3 h2
      have b2 := b1.trans h4
      have y2 := y1.trans (h3.mono fun k hk => by have : col k = m + 2 := hk; show 1 ≤ col k ∧ col k ≤ 50; omega)
      have hK2 : kF (K + 1) a.os a.os.length ≤ 1000 := by rw [← HK1.out]; omega
      have HK2 : Hid (kF (K + 1) a.os a.os.length = kA k0 rs (m + 1)) := HK1.out.symm
      clear h2 h3 h4 b1 y1 q0 q1 f0 CM hk1 hk4
      go_wp2_with fail
      go_roundw
      case rel => exact ⟨m + 1, kF (K + 1) a.os a.os.length, by omega, by go_num, rfl, hK2, HK2.out, hmx, y2, b2⟩
      case measure => simp [intOf]; omega
    · have hm' : m = rs.length := by omega
      subst hm'
      go_wp2
      go_ret
      have hKe := HK.out
      subst hKe
      exact ⟨rfl, hl, hy, hb⟩
theorem markAreaS_nil (c : Nat) (A : Option Addr) (k0 : Nat) (w : World) : Calls Try.prog 91 #[.slice A 0 c, .int .i64 (k0 : Nat)] w (Same (.int .i64 (k0 : Nat)) w) := by
  go_enter Try.func91, Try.ntmps91
  go_wp2_with fail
  go_loopw [1, 5] (fun q i wr => i = .int .i64 0 ∧ q = .int .i64 (k0 : Nat) ∧ w = wr) (fun _ i _ => 0)
  case atStart => exact ⟨rfl, rfl, rfl⟩
  case round =>
    obtain ⟨rfl, rfl, rfl⟩ := hrel
    go_wp2
    go_ret
    exact ⟨rfl, rfl⟩
theorem markAreaS_C (col : Nat → Nat) (k0 B : Nat) (A : Option Addr) (c : Nat) (rs : List Ar) (w : World) (h : OwnArsC col w B (.slice A rs.length c) rs) (hB : B ≤ w.heap.size) (hs : FewA rs) (hk0 : 1 ≤ k0) (hk : k0 ≤ 200) :
    Calls Try.prog 91 #[.slice A rs.length c, .int .i64 (k0 : Nat)] w (MarkedA col k0 B (.slice A rs.length c) rs w) := by
  rcases Nat.eq_zero_or_pos rs.length with h0 | h0
  · have e : rs = [] := List.eq_nil_of_length_eq_zero h0
    subst e
    refine (markAreaS_nil c A k0 w).mono ?_
    rintro e w' ⟨rfl, rfl⟩
    exact ⟨rfl, h, Only.refl _ _, Below.refl _ _⟩
  · obtain ⟨xs, h1, h2, h3⟩ := h
    obtain ⟨g, cap, e, -, -⟩ := World.ownsRow.form h1 h0
    injection e with e1 _ e3
    subst e1
    have hg : col g = 1 := h3 g rfl
    refine (markAreaS_F col k0 B g c rs w ⟨xs, h1, fun j hj => by rw [if_neg (Nat.not_lt_zero j)]; exact h2 j hj⟩ hg hB hs hk0 hk).mono ?_
    rintro e w' ⟨rfl, ⟨ys, q1, q2⟩, q3, q4⟩
    refine ⟨rfl, ⟨ys, by rw [mkAs_length]; exact q1, fun j hj => ?_, h3⟩, q3, q4⟩
    have hj' : j < rs.length := by rw [mkAs_length] at hj; exact hj
    have := q2 j hj'
    rw [if_pos hj'] at this
    rw [mkAs_get hj']
    exact this
def mkQ (k0 : Nat) (q : Qr) : Qr := ⟨mkFs k0 q.m, mkAs (kF k0 q.m q.m.length) q.rs⟩
def kQ (k0 : Nat) (q : Qr) : Nat := kA (kF k0 q.m q.m.length) q.rs q.rs.length
def FewQ (q : Qr) : Prop := (q.m.length ≤ 16 ∧ ∀ o ∈ q.m, o.zs.length ≤ 8) ∧ FewA q.rs
theorem QV.few {q : Qr} (h : QV q) : FewQ q := by
  obtain ⟨h1, h2, h3⟩ := h
  have h4 := store_small h1
  refine ⟨⟨h4.2, fun o ho => by have := (h4.1 o ho).1; omega⟩, h3, fun a ha => ?_⟩
  have h5 := store_small (h2.mem a ha).2.2.1
  exact ⟨h5.2, fun o ho => by have := (h5.1 o ho).1; omega⟩
set_option maxHeartbeats 2000000 in
theorem markQuarantine_C (col0 : Nat → Nat) (B : Nat) (v : Value) (q : Qr) (w : World) (h0 : OwnQC col0 w B v q) (hB : B ≤ w.heap.size) (hs : FewQ q) :
    Calls Try.prog 49 #[v, .int .i64 1] w (fun e w' => e = .returned (.int .i64 (kQ 1 q : Nat)) ∧ OwnQ w' B v (mkQ 1 q) ∧ Below B w w' ∧ Only (fun k => col0 k ≤ 50) w w') := by
  obtain ⟨col, hcol⟩ : ∃ col : Nat → Nat, ∀ g, col g = if g < w.heap.size then col0 g else 100 := ⟨_, fun _ => rfl⟩
  have h := h0.recol (col' := col) fun g hg => by rw [hcol, if_pos hg]
  have hcw : col w.heap.size = 100 := by rw [hcol, if_neg (Nat.lt_irrefl _)]
  have HCL : Hid (∀ g, g < w.heap.size → col g = col0 g) := fun g hg => by rw [hcol, if_pos hg]
  clear h0 hcol
  obtain ⟨A, c, A2, c2, rfl, h1, h2, h3, h4⟩ := h
  have hk1 := kF_le (k0 := 1) hs.1.2 q.m.length (Nat.le_refl _)
  have hk2 := kF_ge 1 q.m q.m.length
  have hk3 : kF 1 q.m q.m.length ≤ 200 := by have := hs.1.1; omega
  have hsm := hs.1
  have hsa := hs.2
  unfold qv
  go_enter Try.func49, Try.ntmps49
  obtain ⟨w1, hw1⟩ : ∃ w1, w.alloc (.cells #[.slice A q.m.length c, .slice A2 q.rs.length c2] 26) = w1 := ⟨_, rfl⟩
  have b1 := (Below.refl w.heap.size w).alloc (Nat.le_refl _) (.cells #[.slice A q.m.length c, .slice A2 q.rs.length c2] 26)
  have x1 := BlkQ.new_ w 26 (.slice A q.m.length c) (.slice A2 q.rs.length c2)
  rw [hw1] at b1 x1
  have m1 := h1.below b1
  have a1 := h3.below b1
  have z1 := b1.size
  have CM : Hid (Calls Try.prog 50 #[.slice A q.m.length c, .int .i64 1] w1 (MarkedC col 0 1 B (.slice A q.m.length c) q.m w1)) := markObjectS_C col 0 1 B A c q.m w1 m1 (by omega) hsm.1 hsm.2 (Nat.le_refl _) (by have := hsm.1; omega)
  obtain ⟨K, hK⟩ : ∃ K, kF 1 q.m q.m.length = K := ⟨_, rfl⟩
  unfold MarkedC at CM
  rw [hK] at CM hk1 hk2 hk3
  have HK := hid hK
  obtain ⟨y0, y1, -⟩ := id x1.reads
  clear hs h1 h3 hK
  go_wp2_with fail
  refine CM.out.mono ?_
  rintro e w2 ⟨rfl, m2, o2, d2⟩
  clear hw1
  have x2 : BlkQ w2 w.heap.size 26 (.slice A q.m.length c) (.slice A2 q.rs.length c2) := (o2.block _ x1.lt fun e => by have : col w.heap.size = 0 := e; omega).trans x1
  have a2 := a1.other o2 fun k hk e => by have : col k = 0 := e; omega
  have b2 : Below B w w2 := (b1.mono hB).trans d2
  have n2 : Only (fun k => col k ≤ 50) w w2 := (Only.of_below b1).trans (o2.mono fun k e => by have : col k = 0 := e; omega)
  have z2 := o2.size
  have CA := hid (markAreaS_C col K B A2 c2 q.rs w2 a2 (by omega) hsa hk2 hk3)
  obtain ⟨r0, r1, -⟩ := id x2.reads
  clear x1 m1 a1 y0 y1 CM d2 o2 b1
  go_wp2_with fail
  refine CA.out.mono ?_
  rintro e w3 ⟨rfl, a3, o3, d3⟩
  have m3 := m2.other o3 fun k hk e => by have : 1 ≤ col k ∧ _ := e; omega
  have n3 := n2.trans (o3.mono fun k e => e.2)
  go_wp2
  go_ret
  have e1 : (mkQ 1 q).m.length = q.m.length := mkFs_length _ _
  have e2 : (mkQ 1 q).rs.length = q.rs.length := mkAs_length _ _
  refine ⟨?_, ⟨A, c, A2, c2, by unfold qv; rw [e1, e2], by rw [e1]; exact m3.own, by rw [e1]; exact h2, ?_, by rw [e2]; exact h4⟩, b2.trans d3, n3.os, n3.tape, n3.output, n3.size, fun k hk hc => n3.block k hk fun e => hc (by rw [← HCL.out k hk]; exact e)⟩
  · show Ending.returned (.int .i64 (kA K q.rs q.rs.length : Nat)) = _
    unfold kQ
    rw [HK.out]
  · rw [e2]
    show OwnArs w3 B _ (mkAs (kF 1 q.m q.m.length) q.rs)
    rw [HK.out]
    exact a3.own
set_option maxHeartbeats 4000000 in
theorem heldAreaS_C (k0 : Nat) (A : Option Addr) (c : Nat) (rs : List Ar) (w : World) (h : Ars w w.heap.size A (mkAs k0 rs)) (hs : FewA rs) (hk0 : 1 ≤ k0) (hk : k0 ≤ 200) :
    Calls Try.prog 94 #[.slice A rs.length c, .int .i64 (k0 : Nat)] w (Ret (.int .i64 (kA k0 rs rs.length : Nat)) w) := by
  have HS := hid hs
  have HK0 := hid hk0
  have hn : rs.length ≤ 4 := hs.1
  have HKB : Hid (∀ m, m ≤ rs.length → kA k0 rs m + 161 ≤ 1010 ∧ (m < rs.length → kA k0 rs m ≤ 690)) := fun m hm => by have := kA_le (k0 := k0) hs m hm; omega
  clear hs hk0
  go_enter Try.func94, Try.ntmps94
  go_wp2_with fail
  go_loopw [1, 5] (fun q i wr => ∃ m K : Nat, m ≤ rs.length ∧ i = .int .i64 m ∧ q = .int .i64 (K : Nat) ∧ K ≤ 1000 ∧ Hid (K = kA k0 rs m) ∧ Below w.heap.size w wr) (fun _ i _ => rs.length - (intOf i).toNat)
  case atStart => exact ⟨0, k0, Nat.zero_le _, rfl, rfl, by omega, rfl, Below.refl _ _⟩
  case round =>
    clear hk
    obtain ⟨m, K, hm, rfl, rfl, hK, HK, hb⟩ := hrel
    by_cases hlt : m < rs.length
    · have hk1 := kA_succ (k0 := k0) hlt
      have hk2 := (HKB.out m (by omega)).2 hlt
      have hk3 : 1 ≤ K := by have := kA_ge k0 rs m; have := HK0.out; rw [HK.out]; omega
      have hk4 := (HKB.out (m + 1) (by omega)).1
      have hfa := HS.out.2 _ (List.getElem_mem hlt)
      obtain ⟨b, ad, A1, c1, ho, rfl, ha, g0, g1, g2, g3⟩ := (h.below hb (Nat.le_refl _)).ar (k := m) (by rw [mkAs_length]; exact hlt)
      rw [mkAs_get hlt] at ho
      subst ho
      obtain ⟨a, hra⟩ : ∃ a, rs[m] = a := ⟨_, rfl⟩
      have eA : mkAj k0 rs m hlt = ⟨(K : Int), mkFs (K + 1) a.os⟩ := by unfold mkAj mkA; rw [hra, ← HK.out]
      rw [eA] at g0 g1 g2 g3
      simp only [mkFs_length] at g0 g1 g2 g3
      rw [← HK.out, hra] at hk1
      rw [← HK.out] at hk2
      rw [hra] at hfa
      have HK1 := hid hk1
      have hz := hb.size
      have CO := hid (heldObjectS_C (K + 1) A1 c1 a.os wr (g3.more hz) hfa.1 hfa.2 (by omega) (by have := hfa.1; omega))
      have HKE : Hid (((K + 1 : Nat) : Int) = (K : Int) + 1) := by show _ = _; omega
      rw [HKE.out] at CO
      have k0' : 0 ≤ (m : Int) := by omega
      have k1 : (m : Int) < (rs.length : Int) := by omega
      have hK2 : kF (K + 1) a.os a.os.length ≤ 1000 := by rw [← hk1]; omega
      have HK2 : Hid (kF (K + 1) a.os a.os.length = kA k0 rs (m + 1)) := HK1.out.symm
      clear hk1 hk4 eA hra g3
      go_wp2_with fail
      refine CO.out.mono ?_
      rintro e w2 ⟨rfl, d2⟩
      have kk : ¬ ((kF (K + 1) a.os a.os.length : Nat) : Int) < 0 := by omega
      go_wp2_with fail
      go_roundw
      case rel => exact ⟨m + 1, kF (K + 1) a.os a.os.length, by omega, by go_num, rfl, hK2, HK2.out, hb.trans (d2.mono hz)⟩
      case measure => simp [intOf]; omega
    · have hm' : m = rs.length := by omega
      subst hm'
      go_wp2
      go_ret
      have hKe := HK.out
      subst hKe
      exact .mk_ hb
set_option maxHeartbeats 2000000 in
theorem heldQuarantine_C (v : Value) (q : Qr) (w : World) (h : Quar w w.heap.size v (mkQ 1 q)) (hs : FewQ q) :
    Calls Try.prog 51 #[v, .int .i64 1] w (Ret (.int .i64 (kQ 1 q : Nat)) w) := by
  obtain ⟨A, c, A2, c2, rfl, h1, -, h3, -⟩ := h
  have hk1 := kF_le (k0 := 1) hs.1.2 q.m.length (Nat.le_refl _)
  have hk2 := kF_ge 1 q.m q.m.length
  have hk3 : kF 1 q.m q.m.length ≤ 200 := by have := hs.1.1; omega
  have hsm := hs.1
  have hsa := hs.2
  obtain ⟨K, hK⟩ : ∃ K, kF 1 q.m q.m.length = K := ⟨_, rfl⟩
  have HK := hid hK
  unfold mkQ at h1 h3 ⊢
  unfold qv kQ
  simp only [mkFs_length, mkAs_length] at h1 h3 ⊢
  rw [hK] at h3 hk1 hk2 hk3 ⊢
  go_enter Try.func51, Try.ntmps51
  obtain ⟨w1, hw1⟩ : ∃ w1, w.alloc (.cells #[.slice A q.m.length c, .slice A2 q.rs.length c2] 26) = w1 := ⟨_, rfl⟩
  have b1 := (Below.refl w.heap.size w).alloc (Nat.le_refl _) (.cells #[.slice A q.m.length c, .slice A2 q.rs.length c2] 26)
  have x1 := BlkQ.new_ w 26 (.slice A q.m.length c) (.slice A2 q.rs.length c2)
  rw [hw1] at b1 x1
  have z1 := b1.size
  have CM : Hid (Calls Try.prog 93 #[.slice A q.m.length c, .int .i64 1] w1 (Ret (.int .i64 (K : Nat)) w1)) := by
    have := heldObjectS_C 1 A c q.m w1 ((h1.below b1 (Nat.le_refl _)).more z1) hsm.1 hsm.2 (Nat.le_refl _) (by have := hsm.1; omega)
    rw [HK.out] at this
    exact this
  obtain ⟨y0, y1, -⟩ := id x1.reads
  have kk : ¬ ((K : Nat) : Int) < 0 := by omega
  clear h1 hK
  go_wp2_with fail
  refine CM.out.mono ?_
  rintro e w2 ⟨rfl, d2⟩
  clear hw1
  have b2 := b1.trans (d2.mono z1)
  have x2 := x1.later d2
  have CA := hid (heldAreaS_C K A2 c2 q.rs w2 ((h3.below b2 (Nat.le_refl _)).more b2.size) hsa hk2 hk3)
  obtain ⟨r0, r1, -⟩ := id x2.reads
  clear x1 y0 y1 CM d2 b1 h3
  obtain ⟨K2, hK2⟩ : ∃ K2, kA K q.rs q.rs.length = K2 := ⟨_, rfl⟩
  rw [hK2] at CA
  have HK2 := hid hK2
  have kk2 : ¬ ((K2 : Nat) : Int) < 0 := by omega
  clear hK2
  go_wp2_with fail
  refine CA.out.mono ?_
  rintro e w3 ⟨rfl, d3⟩
  go_wp2
  go_ret
  rw [HK2.out]
  exact .mk_ (b2.trans (d3.mono b2.size))
/-- Behind it: a quarantine that lies apart, and a word. -/
def NewQC (q : Qr) (b : Bool) (w : World) (e : Ending) (w' : World) : Prop := ∃ v col, e = .returned (.tuple #[v, .bool b]) ∧ OwnQC col w' w.heap.size v q ∧ Below w.heap.size w w'
def ChangedC (q : Qr) (y : QWay) (w : World) (e : Ending) (w' : World) : Prop := NewQC (y.q q) y.ok w e w'
theorem NewQC.plain {q : Qr} {b : Bool} {w w' : World} {e : Ending} (h : NewQC q b w e w') : NewQB q b w e w' := by
  obtain ⟨v, col, he, ho, hb⟩ := h
  exact ⟨v, he, ho.own, hb⟩
end Go.Proofs.Ytblknnifccmpkaa
