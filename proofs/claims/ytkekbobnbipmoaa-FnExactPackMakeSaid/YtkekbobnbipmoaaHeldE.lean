/-
  Walks: marks in lists of entries read again.
-/
import Derived.Test.YtkekbobnbipmoaaMarkE
namespace Go.Proofs.Ytkekbobnbipmoaa
open Go.RowKit Wo Pu

def mkEs (es : List Ent) : List Ent := (List.range es.length).map fun j => mkEn (eAt es j) (enAt es j)
theorem mkEs_length (es : List Ent) : (mkEs es).length = es.length := by simp [mkEs]
theorem mkEs_get {es : List Ent} {j : Nat} (h : j < (mkEs es).length) : (mkEs es)[j] = mkEn (eAt es j) (enAt es j) := by simp [mkEs]
theorem StE.ents {w : World} {B g c : Nat} {es : List Ent} {ps : List (Value × Value)} (h : StE w B g c es.length ps (mixE es es.length)) : Ents w w.heap.size (some ⟨g, 0, none⟩) (mkEs es) := by
  obtain ⟨xs, h1, h2⟩ := h
  rcases Nat.eq_zero_or_pos es.length with h0 | h0
  · exact .inl (List.eq_nil_of_length_eq_zero (by rw [mkEs_length]; exact h0))
  · refine .inr ⟨_, rfl, (World.ownsRow.lt h1 g rfl).2, fun i hi => ?_⟩
    have hi' : i < es.length := by rw [mkEs_length] at hi; exact hi
    rw [mkEs_get]
    obtain ⟨p, q0, q1, q2, q3, q4, q5, q6⟩ := h2 i hi'
    have hF : mixE es es.length i = mkEn (eAt es i) (enAt es i) := if_pos hi'
    rw [hF] at q1 q3 q5 q6
    obtain ⟨A1, c1, e1, r1⟩ := q5.form
    obtain ⟨A2, c2, e2, r2, _⟩ := q6.form
    rw [e1] at q2
    rw [e2] at q4
    have hc := World.ownsRow.cells h1 (g := g) rfl
    have e : ∀ d, (((⟨g, 0, none⟩ : Addr).add (i * 4)).add d) = (⟨g, 0, none⟩ : Addr).add (i * 4 + d) := fun d => add_add _ _ _
    exact ⟨A1, c1, A2, c2, hc _ _ q1, by rw [e]; exact hc _ _ q2, by rw [e]; exact hc _ _ q3, by rw [e]; exact hc _ _ q4, r1, r2⟩
theorem OwnEnts.st {w : World} {B M g c : Nat} {es : List Ent} (h : OwnEnts w B M (.slice (some ⟨g, 0, none⟩) es.length c) es) : ∃ ps, StE w B g c es.length ps (enAt es) ∧ Apl ps := by
  obtain ⟨xs, ps, h1, p1, p2, p3, _⟩ := h
  refine ⟨ps, ⟨xs, h1, fun j hj => ?_⟩, Apl.of_flat p3⟩
  obtain ⟨a, b, d, e, f, f2⟩ := p2 j hj (by omega)
  rw [enAt_get hj]
  exact ⟨ps[j]'(by omega), List.getElem?_eq_getElem (by omega), a, b, d, e, f, f2⟩
/-- Behind it: the list marked. -/
def MarkedE (B : Nat) (A : Option Addr) (es : List Ent) (w : World) (e : Ending) (w' : World) : Prop := e = .returned (.int .i64 (eAt es es.length : Nat)) ∧ Ents w' w'.heap.size A (mkEs es) ∧ Below B w w'
theorem markPackEntryS_none (c : Nat) (A : Option Addr) (w : World) : Calls Try.prog 27 #[.slice A 0 c, .int .i64 1] w (Same (.int .i64 1) w) := by
  go_enter Try.func27, Try.ntmps27
  go_wp2_with fail
  go_loopw [1, 5] (fun q i wr => i = .int .i64 0 ∧ q = .int .i64 1 ∧ w = wr) (fun _ i _ => 0)
  case atStart => exact ⟨rfl, rfl, rfl⟩
  case round =>
    obtain ⟨rfl, rfl, rfl⟩ := hrel
    go_wp2
    go_ret
    exact ⟨rfl, rfl⟩
theorem markPackEntryS_own (B M : Nat) (A : Option Addr) (c : Nat) (es : List Ent) (w : World) (h : OwnEnts w B M (.slice A es.length c) es) (hB : B ≤ w.heap.size) (hn : es.length ≤ 16) (hs : ∀ e ∈ es, e.zs.length ≤ 8 ∧ e.ops.length ≤ 8) :
    Calls Try.prog 27 #[.slice A es.length c, .int .i64 1] w (MarkedE B A es w) := by
  rcases Nat.eq_zero_or_pos es.length with h0 | h0
  · have e : es = [] := List.eq_nil_of_length_eq_zero h0
    subst e
    refine (markPackEntryS_none c A w).mono ?_
    rintro e w' ⟨rfl, rfl⟩
    exact ⟨rfl, .inl rfl, Below.refl _ _⟩
  · have h' := h
    obtain ⟨xs, ps, h1, _⟩ := h'
    obtain ⟨g, cap, e, -, -⟩ := World.ownsRow.form h1 h0
    injection e with e1 _ e3
    subst e1
    obtain ⟨ps, hst, hap⟩ := h.st
    refine (markPackEntryS_is B g c es ps w hst hap hB hn hs).mono ?_
    rintro e w' ⟨rfl, h2, h3⟩
    exact ⟨rfl, h2.ents, h3⟩

set_option maxRecDepth 100000 in
set_option maxHeartbeats 4000000 in
theorem heldPackEntryS_is (A : Option Addr) (c : Nat) (es : List Ent) (w : World) (h : Ents w w.heap.size A (mkEs es)) (hn : es.length ≤ 16) (hs : ∀ e ∈ es, e.zs.length ≤ 8 ∧ e.ops.length ≤ 8) :
    Calls Try.prog 32 #[.slice A es.length c, .int .i64 1] w (Ret (.int .i64 (eAt es es.length : Nat)) w) := by
  have HS := hid hs
  clear hs
  go_enter Try.func32, Try.ntmps32
  go_wp2_with fail
  go_loopw [1, 5] (fun q i wr => ∃ m K : Nat, m ≤ es.length ∧ i = .int .i64 m ∧ q = .int .i64 (K : Nat) ∧ K ≤ 1000 ∧ Hid (K = eAt es m) ∧ Below w.heap.size w wr) (fun _ i _ => es.length - (intOf i).toNat)
  case atStart => exact ⟨0, 1, Nat.zero_le _, rfl, rfl, by omega, rfl, Below.refl _ _⟩
  case round =>
    obtain ⟨m, K, hm, rfl, rfl, hK, HK, hb⟩ := hrel
    by_cases hlt : m < es.length
    · have hk1 := eAt_succ hlt
      have hk2 := eAt_le HS.out (m + 1) (by omega)
      obtain ⟨hz8, ho8⟩ := HS.out _ (List.getElem_mem hlt)
      have hen := enAt_get hlt
      obtain ⟨o, ad, A1, c1, A2, c2, ho, rfl, ha, g0, g1, g2, g3, r1, r2⟩ := (h.below hb (Nat.le_refl _)).ent (k := m) (by rw [mkEs_length]; exact hlt)
      rw [mkEs_get] at ho
      subst ho
      rw [← hen] at hk1 hz8 ho8
      obtain ⟨n, hnn⟩ : ∃ n, (enAt es m).zs.length = n := ⟨_, rfl⟩
      obtain ⟨mo, hmo⟩ : ∃ mo, (enAt es m).ops.length = mo := ⟨_, rfl⟩
      have eO : mkEn (eAt es m) (enAt es m) = ⟨(K : Int), marks ((K : Int) + 1) n, (K : Int) + 1 + n, opMs (K + 2 + n) mo⟩ := by unfold mkEn; rw [hnn, hmo, ← HK.out]
      rw [eO] at g0 g1 g2 g3 r1 r2
      simp only [marks_length, opMs_length] at g0 g1 g2 g3 r1 r2
      rw [← HK.out, hnn, hmo] at hk1
      rw [hnn] at hz8
      rw [hmo] at ho8
      have HK2 : Hid (K + 2 + n + 3 * mo = eAt es (m + 1)) := by show _ = _; rw [hk1]; omega
      have hK2 : K + 2 + n + 3 * mo ≤ 1000 := by rw [HK2.out]; omega
      have hz := hb.size
      have hxx : (K : Int) + 1 + n + 1 = (K : Int) + 2 + n := by omega
      have hx2 : ((K + 2 + n : Nat) : Int) = (K : Int) + 2 + n := by omega
      have hco := heldOpS_yes A2 c2 (K + 2 + n) mo wr (r2.more hz) ho8 (by omega) (by omega)
      rw [hx2] at hco
      clear hk1 hk2 eO hnn hmo hen hx2 r2
      go_wp2_with fail
      refine (heldIntS_yes w.heap.size A1 c1 n ((K : Int) + 1) wr r1 (by omega) (by omega) (by omega)).mono ?_
      rintro e w2 ⟨rfl, rfl⟩
      go_wp2_with fail
      refine hco.mono ?_
      rintro e w3 ⟨rfl, hb3⟩
      clear hco hxx g0 g1 g2 g3
      go_wp2_with fail
      go_roundw
      case rel => exact ⟨m + 1, K + 2 + n + 3 * mo, by omega, by go_num, rfl, hK2, HK2.out, hb.trans (hb3.mono hz)⟩
      case measure => simp [intOf]; omega
    · have hm' : m = es.length := by omega
      subst hm'
      go_wp2
      go_ret
      have hKe := HK.out
      subst hKe
      exact .mk_ hb
end Go.Proofs.Ytkekbobnbipmoaa
