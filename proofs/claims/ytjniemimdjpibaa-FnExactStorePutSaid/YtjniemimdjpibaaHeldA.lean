/-
  Walks: marks in lists of objects read again.
-/
import Derived.Test.YtjniemimdjpibaaMarkA
import Derived.BigQuiet
namespace Go.Proofs.Ytjniemimdjpibaa
open Go.RowKit Wo Pu

theorem MixO.ownObs {w : World} {B g c : Nat} {os : List Ob} (h : MixO w B g c os os.length) : OwnObs w B (.slice (some ⟨g, 0, none⟩) (mkOs os).length c) (mkOs os) := by
  obtain ⟨xs, h1, h2, _⟩ := h
  refine ⟨xs, by rw [mkOs_length]; exact h1, fun j hj => ?_⟩
  have hj' : j < os.length := by rw [mkOs_length] at hj; exact hj
  rw [mkOs_get hj']
  have := h2 j hj'
  rwa [if_pos hj'] at this
theorem MixO.objs {w : World} {B g c : Nat} {os : List Ob} (h : MixO w B g c os os.length) : Objs w w.heap.size (some ⟨g, 0, none⟩) (mkOs os) := by
  obtain ⟨A, c', e, ho⟩ := h.ownObs.form
  injection e with e1 _ _
  subst e1
  exact ho
/-- Behind it: the list marked. -/
def MarkedO (B : Nat) (A : Option Addr) (os : List Ob) (w : World) (e : Ending) (w' : World) : Prop := e = .returned (.int .i64 (kAt os os.length : Nat)) ∧ Objs w' w'.heap.size A (mkOs os) ∧ Below B w w'
theorem markObjectS_none (c : Nat) (A : Option Addr) (w : World) : Calls Try.prog 20 #[.slice A 0 c, .int .i64 1] w (Same (.int .i64 1) w) := by
  go_enter Try.func20, Try.ntmps20
  go_wp2_with fail
  go_loopw [1, 5] (fun q i wr => i = .int .i64 0 ∧ q = .int .i64 1 ∧ w = wr) (fun _ i _ => 0)
  case atStart => exact ⟨rfl, rfl, rfl⟩
  case round =>
    obtain ⟨rfl, rfl, rfl⟩ := hrel
    go_wp2
    go_ret
    exact ⟨rfl, rfl⟩
theorem markObjectS_own (B : Nat) (A : Option Addr) (c : Nat) (os : List Ob) (w : World) (h : OwnObsF w B (.slice A os.length c) os) (hB : B ≤ w.heap.size) (hn : os.length ≤ 16) (hs : ∀ o ∈ os, o.zs.length ≤ 8) :
    Calls Try.prog 20 #[.slice A os.length c, .int .i64 1] w (MarkedO B A os w) := by
  rcases Nat.eq_zero_or_pos os.length with h0 | h0
  · have e : os = [] := List.eq_nil_of_length_eq_zero h0
    subst e
    refine (markObjectS_none c A w).mono ?_
    rintro e w' ⟨rfl, rfl⟩
    exact ⟨rfl, .inl rfl, Below.refl _ _⟩
  · have h' := h
    obtain ⟨xs, h1, _⟩ := h'
    obtain ⟨g, cap, e, -, -⟩ := World.ownsRow.form h1 h0
    injection e with e1 _ e3
    subst e1
    refine (markObjectS_is B g c os w h hB hn hs).mono ?_
    rintro e w' ⟨rfl, h2, h3⟩
    exact ⟨rfl, h2.objs, h3⟩

set_option maxHeartbeats 4000000 in
theorem heldObjectS_is (A : Option Addr) (c : Nat) (os : List Ob) (w : World) (h : Objs w w.heap.size A (mkOs os)) (hn : os.length ≤ 16) (hs : ∀ o ∈ os, o.zs.length ≤ 8) :
    Calls Try.prog 22 #[.slice A os.length c, .int .i64 1] w (Ret (.int .i64 (kAt os os.length : Nat)) w) := by
  have HS := hid hs
  clear hs
  go_enter Try.func22, Try.ntmps22
  go_wp2_with fail
  go_loopw [1, 5] (fun q i wr => ∃ m K : Nat, m ≤ os.length ∧ i = .int .i64 m ∧ q = .int .i64 (K : Nat) ∧ K ≤ 1000 ∧ Hid (K = kAt os m) ∧ Below w.heap.size w wr) (fun _ i _ => os.length - (intOf i).toNat)
  case atStart => exact ⟨0, 1, Nat.zero_le _, rfl, rfl, by omega, rfl, Below.refl _ _⟩
  case round =>
    obtain ⟨m, K, hm, rfl, rfl, hK, HK, hb⟩ := hrel
    by_cases hlt : m < os.length
    · have hk1 := kAt_succ hlt
      have hk2 := kAt_le HS.out (m + 1) (by omega)
      have hsm := HS.out _ (List.getElem_mem hlt)
      obtain ⟨o, ad, A1, c1, ho, rfl, ha, g0, g1, g2, g3⟩ := (h.below hb (Nat.le_refl _)).obj (k := m) (by rw [mkOs_length]; exact hlt)
      rw [mkOs_get hlt] at ho
      subst ho
      obtain ⟨n, hnn⟩ : ∃ n, os[m].zs.length = n := ⟨_, rfl⟩
      have eO : mkO os m hlt = ⟨(K : Int), marks ((K : Int) + 1) n, mtext (K + 1 + n)⟩ := by unfold mkO mkAt; rw [hnn, ← HK.out]
      rw [eO] at g0 g1 g2 g3
      simp only [marks_length] at g0 g1 g2 g3
      rw [← HK.out, hnn] at hk1
      rw [hnn] at hsm
      have HK2 : Hid (K + 1 + n + 1 = kAt os (m + 1)) := by show _ = _; rw [hk1]; omega
      have hK2 : K + 1 + n + 1 ≤ 1000 := by rw [HK2.out]; omega
      have hz := hb.size
      have G2 := Later.cell (p := ⟨(ad.add (m * 3)).block, (ad.add (m * 3)).off + 2, none⟩) g2 (Nat.lt_of_lt_of_le ha hz)
      have hxx : Hid ((K : Int) + 1 + (n : Int) = ((K + 1 + n : Nat) : Int)) := by show _ = _; omega
      have hx1 : Hid (1 ≤ K + 1 + n ∧ K + 1 + n ≤ 100000) := by show _ ∧ _; omega
      have k0 : 0 ≤ (m : Int) := by omega
      have k1 : (m : Int) < (os.length : Int) := by omega
      clear hk1 hk2 eO hnn g2
      go_wp2_with fail
      refine (heldIntS_yes w.heap.size A1 c1 n ((K : Int) + 1) wr g3 (by omega) (by omega) (by omega)).mono ?_
      rintro e w2 ⟨rfl, rfl⟩
      go_wp2_with fail
      refine wp_region_later wr.heap.size (by kernel_rfl) (by kernel_rfl) ?_
      repeat (go_big_quiet_step ((go_at_call 46; exact Later.call (Nat.le_refl _) _ (markText_at _ (K + 1 + n) _ hxx.out hx1.out.1 hx1.out.2))))
      refine wpQuiet_nil ?_
      intro _ hw'
      obtain ⟨xx, hxx⟩ := hw'
      have hbx := xx.b
      subst hxx
      go_wp2
      go_roundw
      case rel => exact ⟨m + 1, K + 1 + n + 1, by omega, by go_num, by go_num, hK2, HK2.out, hb.trans (hbx.mono hz)⟩
      case measure => simp [intOf]; omega
    · have hm' : m = os.length := by omega
      subst hm'
      go_wp2
      go_ret
      have hKe := HK.out
      subst hKe
      exact .mk_ hb
end Go.Proofs.Ytjniemimdjpibaa
