/-
  Walks: the drawn arguments of StoreReach and StoreMissing.
-/
import Derived.Test.YtfdilnibhcnkgaaDrawPut
namespace Go.Proofs.Ytfdilnibhcnkgaa
open Go.RowKit Wo Pu

/-- A store, mostly, and ids. -/
def SreachMade (w : World) (e : Ending) (w' : World) : Prop :=
  ∃ A c os A' c' fr, e = .returned (.tuple #[.slice A (List.length os) c, .slice A' (List.length fr) c']) ∧ Objs w' w'.heap.size A os ∧ os.length ≤ c ∧ os.length ≤ 22 ∧ (∀ p ∈ os, vOb p = true) ∧
    Row w' w'.heap.size A' (ints fr) ∧ fr.length ≤ 992 ∧ Below w.heap.size w w'

set_option maxHeartbeats 2000000 in
theorem DrawStoreReach_any (A : Option Addr) (c : Nat) (bs : List Int) (w : World) (h : Code_ w A c bs) :
    Calls Try.prog 12 #[.slice A bs.length c] w (SreachMade w) := by
  go_enter Try.func12, Try.ntmps12
  go_wp2_with fail
  refine (l6Open_any A c bs _ h).mono ?_
  rintro e w1 ⟨rfl, R1, b1⟩
  go_wp2_with fail
  refine (l91Spoilt_any w.heap.size 0 w1 R1 (by omega)).mono ?_
  rintro e w2 ⟨v, os, rfl, h2, hl, hv, R2, T2⟩
  have hRl := R1.lt
  have b2 := b1.trans (T2.below b1.size (Nat.le_refl _))
  obtain ⟨A3, c3, rfl, ho2, hc3⟩ := h2.form2
  have HV := hid hv
  clear T2 R1 b1 hv ho2
  go_wp2_with fail
  refine (l91Ids_any w.heap.size _ A3 c3 os w2 R2 (by omega) (h2.base hRl) hl HV.out).mono ?_
  rintro e w3 ⟨AL, cL, L, rfl, o3, hL, R3, T3⟩
  have h3 := h2.but T3 (by omega)
  have b3 := b2.trans (T3.below b2.size (Nat.le_refl _))
  go_wp2_with fail
  refine bodyPost_ret (v := .tuple #[.slice A3 os.length c3, .slice AL L.length cL]) (by simp [results, Try.results12, go_sem]) rfl ?_
  exact ⟨A3, c3, os, AL, cL, L, rfl, h3.objs, hc3, hl, HV.out, o3.row, hL, b3⟩

theorem DrawStoreMissing_any (A : Option Addr) (c : Nat) (bs : List Int) (w : World) (h : Code_ w A c bs) :
    Calls Try.prog 19 #[.slice A bs.length c] w (SreachMade w) := by
  go_enter Try.func19, Try.ntmps19
  go_wp2_with fail
  refine (DrawStoreReach_any A c bs _ h).mono ?_
  rintro e w1 ⟨A1, c1, os, A2, c2, fr, rfl, h1⟩
  go_wp2_with fail
  refine bodyPost_ret (v := .tuple #[.slice A1 os.length c1, .slice A2 fr.length c2]) (by simp [results, Try.results19, go_sem]) rfl ⟨A1, c1, os, A2, c2, fr, rfl, h1⟩
end Go.Proofs.Ytfdilnibhcnkgaa
