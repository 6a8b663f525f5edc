/-
  Walks: the drawn arguments of DeltaApply, DeltaSize and DeltaMake.
-/
import Derived.Test.YtkflpgdbookdhabDrawOps
namespace Go.Proofs.Ytkflpgdbookdhab
open Go.RowKit Wo Pu

/-- A base and operations. -/
def DaMade (w : World) (e : Ending) (w' : World) : Prop :=
  ∃ s A c os, e = .returned (.tuple #[.string s, .slice A os.length c]) ∧ s.size ≤ 9 ∧ Row w' w'.heap.size A (opsV os) ∧ os.length ≤ c ∧ os.length ≤ 3 ∧ Tiny os ∧ Below w.heap.size w w'
/-- Operations. -/
def DsMade (w : World) (e : Ending) (w' : World) : Prop :=
  ∃ A c os, e = .returned (.slice A os.length c) ∧ Row w' w'.heap.size A (opsV os) ∧ os.length ≤ c ∧ os.length ≤ 3 ∧ Tiny os ∧ Below w.heap.size w w'
/-- Two texts. -/
def DmMade (w : World) (e : Ending) (w' : World) : Prop :=
  ∃ s t, e = .returned (.tuple #[.string s, .string t]) ∧ s.size ≤ 9 ∧ t.size ≤ 9 ∧ Below w.heap.size w w'

set_option maxHeartbeats 4000000 in
theorem DrawDeltaApply_any (A : Option Addr) (c : Nat) (bs : List Int) (w : World) (h : Code_ w A c bs) :
    Calls Try.prog 22 #[.slice A bs.length c] w (DaMade w) := by
  go_enter Try.func22, Try.ntmps22
  go_wp2_with fail
  refine (l6Open_any A c bs w h).mono ?_
  rintro e w1 ⟨rfl, R1, b1⟩
  go_wp2_with fail
  refine (l91Text_any w.heap.size 0 w1 R1 (by omega)).mono ?_
  rintro e w2 ⟨s, rfl, hs, R2, T2⟩
  go_wp2_with fail
  refine (l91Ops_any w.heap.size _ s w2 R2 (by omega) hs).mono ?_
  rintro e w3 ⟨v, os, rfl, h3, hl, hT, R3, T3⟩
  obtain ⟨A3, c3, rfl, hr, hc⟩ := h3.form
  go_wp2
  go_ret2
  exact ⟨s, A3, c3, os, rfl, hs, hr, hc, hl, hT, b1.trans ((T2.trans T3).below b1.size (Nat.le_refl _))⟩
set_option maxHeartbeats 4000000 in
theorem DrawDeltaSize_any (A : Option Addr) (c : Nat) (bs : List Int) (w : World) (h : Code_ w A c bs) :
    Calls Try.prog 24 #[.slice A bs.length c] w (DsMade w) := by
  go_enter Try.func24, Try.ntmps24
  go_wp2_with fail
  refine (l6Open_any A c bs w h).mono ?_
  rintro e w1 ⟨rfl, R1, b1⟩
  go_wp2_with fail
  refine (l91Text_any w.heap.size 0 w1 R1 (by omega)).mono ?_
  rintro e w2 ⟨s, rfl, hs, R2, T2⟩
  go_wp2_with fail
  refine (l91Ops_any w.heap.size _ s w2 R2 (by omega) hs).mono ?_
  rintro e w3 ⟨v, os, rfl, h3, hl, hT, R3, T3⟩
  obtain ⟨A3, c3, rfl, hr, hc⟩ := h3.form
  go_wp2
  go_ret
  exact ⟨A3, c3, os, rfl, hr, hc, hl, hT, b1.trans ((T2.trans T3).below b1.size (Nat.le_refl _))⟩
set_option maxHeartbeats 4000000 in
theorem DrawDeltaMake_any (A : Option Addr) (c : Nat) (bs : List Int) (w : World) (h : Code_ w A c bs) :
    Calls Try.prog 16 #[.slice A bs.length c] w (DmMade w) := by
  go_enter Try.func16, Try.ntmps16
  go_wp2_with fail
  refine (l6Open_any A c bs w h).mono ?_
  rintro e w1 ⟨rfl, R1, b1⟩
  go_wp2_with fail
  refine (l91Text_any w.heap.size 0 w1 R1 (by omega)).mono ?_
  rintro e w2 ⟨s, rfl, hs, R2, T2⟩
  go_wp2_with fail
  refine (l91Text_any w.heap.size _ w2 R2 (by omega)).mono ?_
  rintro e w3 ⟨t, rfl, ht, R3, T3⟩
  have b3 := b1.trans ((T2.trans T3).below b1.size (Nat.le_refl _))
  by_cases h2 : (s.size : Int) ≤ 2
  · go_wp2
    go_ret2
    exact ⟨s, t, rfl, hs, ht, b3⟩
  · go_wp2_with fail
    refine (pick_any w.heap.size _ 2 w3 R3 (by omega) (by omega) (by omega)).mono ?_
    rintro e w4 ⟨x, rfl, x0, x1, R4, T4⟩
    have b4 := b3.trans (T4.below b3.size (Nat.le_refl _))
    by_cases hx : x = 0
    · subst hx
      have hz : (s.extract 1 s.size ++ s.extract 0 1).size ≤ 9 := by rw [ByteArray.size_append, ByteArray.size_extract, ByteArray.size_extract]; omega
      have k1 : 1 ≤ s.size := by omega
      go_wp2_with fail
      go_quiet (fail)
      go_wp2
      go_ret2
      exact ⟨s, _, rfl, hs, hz, Wo.Below.drewN b4 _⟩
    · have e0 : (x == 0) = false := by rw [beq_eq_false_iff_ne]; exact hx
      go_wp2
      go_ret2
      exact ⟨s, t, rfl, hs, ht, b4⟩

theorem Wo.Row.cutA {w : World} {B : Nat} {A : Option Addr} {vs : List Value} (h : Row w B A vs) (n : Nat) : Row w B (A.map (·.add n)) (vs.drop n) := by
  rcases A with _ | ad
  · rcases h with rfl | ⟨ad', e, _⟩
    · exact .inl (by simp)
    · cases e
  · exact h.drop_ n
end Go.Proofs.Ytkflpgdbookdhab
