/-
  Walks: the drawn arguments of StoreValid and of StoreGet.
-/
import Derived.Test.YtglcnlinfojflaaDrawSp
namespace Go.Proofs.Ytglcnlinfojflaa
open Go.RowKit Wo Pu

/-- A list of valid objects of the call's own. -/
def StMade (w : World) (e : Ending) (w' : World) : Prop :=
  ∃ v os, e = .returned v ∧ OwnObs w' w.heap.size v os ∧ os.length ≤ 22 ∧ (∀ p ∈ os, vOb p = true) ∧ Below w.heap.size w w'
/-- The same, and a number. -/
def SgMade (w : World) (e : Ending) (w' : World) : Prop :=
  ∃ v os x, e = .returned (.tuple #[v, .int .i64 x]) ∧ OwnObs w' w.heap.size v os ∧ os.length ≤ 22 ∧ (∀ p ∈ os, vOb p = true) ∧ -1 ≤ x ∧ x ≤ 999 ∧ Below w.heap.size w w'

set_option maxHeartbeats 4000000 in
theorem DrawStoreValid_any (A : Option Addr) (c : Nat) (bs : List Int) (w : World) (h : Code_ w A c bs) :
    Calls Try.prog 39 #[.slice A bs.length c] w (StMade w) := by
  go_enter Try.func39, Try.ntmps39
  go_wp2_with fail
  refine (l6Open_any A c bs w h).mono ?_
  rintro e w1 ⟨rfl, R1, b1⟩
  go_wp2_with fail
  refine (l91Spoilt_any w.heap.size 0 w1 R1 (by omega)).mono ?_
  rintro e w2 ⟨v, os, rfl, h2, hl, hv, R2, T2⟩
  go_wp2
  go_ret
  exact ⟨v, os, rfl, h2.base b1.size, hl, hv, b1.trans (T2.below b1.size (Nat.le_refl _))⟩

set_option maxHeartbeats 4000000 in
theorem DrawStoreGet_any (A : Option Addr) (c : Nat) (bs : List Int) (w : World) (h : Code_ w A c bs) :
    Calls Try.prog 37 #[.slice A bs.length c] w (SgMade w) := by
  go_enter Try.func37, Try.ntmps37
  go_wp2_with fail
  refine (l6Open_any A c bs w h).mono ?_
  rintro e w1 ⟨rfl, R1, b1⟩
  go_wp2_with fail
  refine (l91Spoilt_any w.heap.size 0 w1 R1 (by omega)).mono ?_
  rintro e w2 ⟨v, os, rfl, h2, hl, hv, R2, T2⟩
  have b2 := b1.trans (T2.below b1.size (Nat.le_refl _))
  have R1l := R1.lt
  obtain ⟨A3, c3, rfl, ho2, _⟩ := h2.form2
  clear T2
  by_cases h0 : os.length = 0
  · go_wp2_with fail
    refine (l91Id_any w.heap.size (0 + 50002) w2 R2 (by omega)).mono ?_
    rintro e w3 ⟨x, rfl, x0, x1, R3, T3⟩
    have h3 := h2.but T3 R1l
    have b3 := b2.trans (T3.below b2.size (Nat.le_refl _))
    go_wp2_with fail
    refine bodyPost_ret (v := .tuple #[.slice A3 os.length c3, .int .i64 x]) (by simp [results, Try.results37, go_sem, h0]) rfl ⟨_, os, x, rfl, h3.base b1.size, hl, hv, x0, x1, b3⟩
  · have l0 : (0 : Int) < (os.length : Int) := by omega
    go_wp2_with fail
    refine (pick_any w.heap.size (0 + 50002) 4 w2 R2 (by omega) (by omega) (by omega)).mono ?_
    rintro e w3 ⟨y, rfl, y0, y1, R3, T3⟩
    have h3 := h2.but T3 R1l
    have b3 := b2.trans (T3.below b2.size (Nat.le_refl _))
    clear h2 T3 b2 ho2
    by_cases hy : 0 < y
    · go_wp2_with fail
      refine (pick_any w.heap.size (0 + 50002 + 1) os.length w3 R3 (by omega) (by omega) (by omega)).mono ?_
      rintro e w4 ⟨z, rfl, z0, z1, R4, T4⟩
      have h4 := h3.but T4 R1l
      have b4 := b3.trans (T4.below b3.size (Nat.le_refl _))
      obtain ⟨j, rfl⟩ : ∃ j : Nat, z = (j : Int) := ⟨z.toNat, by omega⟩
      have hj : j < os.length := by omega
      obtain ⟨o, ad, A', c', ho, rfl, ha, g0, g1, g2, g3⟩ := (h4.objs).obj hj
      have hvo : vOb o = true := by rw [← ho]; exact hv _ (List.getElem_mem hj)
      clear ho
      go_wp2_with fail
      refine (l1Of_val _ w4.heap.size A' c' o w4 g3 (Nat.le_refl _) hvo rfl).mono ?_
      rintro e w5 ⟨rfl, hb5⟩
      have h5 := h4.below hb5
      have b5 := b4.trans (hb5.mono b4.size)
      have rng := iOb_range o
      go_wp2_with fail
      refine bodyPost_ret (v := .tuple #[.slice (some ad) os.length c3, .int .i64 (iOb o)]) (by simp [results, Try.results37, go_sem]) rfl ⟨_, os, iOb o, rfl, h5.base b1.size, hl, hv, rng.1, by omega, b5⟩
    · go_wp2_with fail
      refine (l91Id_any w.heap.size (0 + 50002 + 1) w3 R3 (by omega)).mono ?_
      rintro e w4 ⟨x, rfl, x0, x1, R4, T4⟩
      have h4 := h3.but T4 R1l
      have b4 := b3.trans (T4.below b3.size (Nat.le_refl _))
      go_wp2_with fail
      refine bodyPost_ret (v := .tuple #[.slice A3 os.length c3, .int .i64 x]) (by simp [results, Try.results37, go_sem]) rfl ⟨_, os, x, rfl, h4.base b1.size, hl, hv, x0, x1, b4⟩
end Go.Proofs.Ytglcnlinfojflaa
