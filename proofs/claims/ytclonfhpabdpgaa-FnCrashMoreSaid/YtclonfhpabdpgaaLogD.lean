/-
  Walks: disks: their validity, of the program and of the model.
-/
import Derived.Test.YtclonfhpabdpgaaLogK
namespace Go.Proofs.Ytclonfhpabdpgaa
open Go.RowKit Wo Pu Lg

/-- A disk as a value. -/
def dk (s : ByteArray) (y : Int) : Value := .agg #[.string s, .int .i64 y]
/-- Block g is just these two cells. -/
def Blk2 (w : World) (g : Nat) (t : TypeId) (v0 v1 : Value) : Prop := w.heap[g]? = some (.cells #[v0, v1] t (0, 0))
section
variable {w w' : World} {g : Nat} {t : TypeId} {v0 v1 : Value}
theorem Blk2.lt (h : Blk2 w g t v0 v1) : g < w.heap.size := by
  rcases Nat.lt_or_ge g w.heap.size with h1 | h1
  · exact h1
  · unfold Blk2 at h; rw [Array.getElem?_eq_none h1] at h; cases h
theorem Blk2.reads (h : Blk2 w g t v0 v1) : w.cell? ⟨g, 0, none⟩ = some v0 ∧ w.cell? ⟨g, 1, none⟩ = some v1 ∧ ∀ o, w.frozen? ⟨g, o, none⟩ = false := by
  unfold Blk2 at h
  exact ⟨by simp [World.cell?, h], by simp [World.cell?, h], fun o => by simp [World.frozen?, h]⟩
theorem Blk2.new_ (w : World) (t : TypeId) (v0 v1 : Value) : Blk2 (w.alloc (.cells #[v0, v1] t)) w.heap.size t v0 v1 := heap_alloc_new w _
theorem Blk2.below {C : Nat} (h : Blk2 w g t v0 v1) (hb : Below C w w') (hC : g < C) : Blk2 w' g t v0 v1 := (hb.block g hC).trans h
theorem Blk2.later (h : Blk2 w g t v0 v1) (hb : Below w.heap.size w w') : Blk2 w' g t v0 v1 := h.below hb h.lt
theorem Blk2.alloc (h : Blk2 w g t v0 v1) (o : Obj) : Blk2 (w.alloc o) g t v0 v1 := h.later ((Below.refl _ _).alloc (Nat.le_refl _) o)
theorem Blk2.but {R : Nat} (h : Blk2 w g t v0 v1) (hb : But R w w') (hR : g ≠ R) : Blk2 w' g t v0 v1 := (hb.block g h.lt (fun e => hR (by injection e))).trans h
theorem Blk2.far (h : Blk2 w g t v0 v1) {p : Addr} (hp : g ≠ p.block) (u : Value) : Blk2 (w.setCell p u) g t v0 v1 := (Below.heap_setCell w p u g hp).trans h
theorem Blk2.set0 (h : Blk2 w g t v0 v1) (u : Value) : Blk2 (w.setCell ⟨g, 0, none⟩ u) g t u v1 := by unfold Blk2 at h ⊢; simp [World.setCell, Array.getElem?_modify, h]
theorem Blk2.set1 (h : Blk2 w g t v0 v1) (u : Value) : Blk2 (w.setCell ⟨g, 1, none⟩ u) g t v0 u := by unfold Blk2 at h ⊢; simp [World.setCell, Array.getElem?_modify, h]
end

/-- A valid disk. -/
def Vd (s : ByteArray) (y : Int) : Prop := s.size ≤ 120 ∧ 0 ≤ y ∧ y ≤ s.size
instance (s : ByteArray) (y : Int) : Decidable (Vd s y) := by unfold Vd; infer_instance

theorem implValid_yes (s : ByteArray) (y : Int) (w : World) (h : Vd s y) : Calls Try.prog 45 #[dk s y] w (Ret (.bool true) w) := by
  obtain ⟨h1, h2, h3⟩ := h
  unfold dk
  have e1 : decide ((s.size : Int) ≤ 120) = true := by simp; omega
  have e1' : decide (s.size ≤ 120) = true := by simp; omega
  have e2 : decide (0 ≤ y) = true := by simp; omega
  have e3 : decide (y ≤ (s.size : Int)) = true := by simp; omega
  go_enter Try.func45, Try.ntmps45
  go_wp2
  go_ret
  exact .mk_ ((Below.refl _ _).alloc (Nat.le_refl _) _)
theorem implValid_no (s : ByteArray) (y : Int) (w : World) (hs : s.size ≤ maxLen) (h : ¬ Vd s y) : Calls Try.prog 45 #[dk s y] w (Ret (.bool false) w) := by
  unfold maxLen at hs
  unfold dk
  unfold Vd at h
  by_cases h1 : s.size ≤ 120
  · have e1 : decide ((s.size : Int) ≤ 120) = true := by simp; omega
    have e1' : decide (s.size ≤ 120) = true := by simp; omega
    by_cases h2 : 0 ≤ y
    · have e2 : decide (0 ≤ y) = true := by simp; omega
      have e3 : decide (y ≤ (s.size : Int)) = false := by simp; omega
      clear h
      go_enter Try.func45, Try.ntmps45
      go_wp2
      go_ret
      exact .mk_ ((Below.refl _ _).alloc (Nat.le_refl _) _)
    · have e2 : decide (0 ≤ y) = false := by simp; omega
      clear h
      go_enter Try.func45, Try.ntmps45
      go_wp2
      go_ret
      exact .mk_ ((Below.refl _ _).alloc (Nat.le_refl _) _)
  · have e1 : decide ((s.size : Int) ≤ 120) = false := by simp; omega
    have e1' : decide (s.size ≤ 120) = false := by simp; omega
    clear h
    go_enter Try.func45, Try.ntmps45
    go_wp2
    go_ret
    exact .mk_ ((Below.refl _ _).alloc (Nat.le_refl _) _)
theorem implValid_is (b : Bool) (s : ByteArray) (y : Int) (w : World) (hs : s.size ≤ maxLen) (h : decide (Vd s y) = b) : Calls Try.prog 45 #[dk s y] w (Ret (.bool b) w) := by
  cases b
  · exact implValid_no s y w hs (of_decide_eq_false h)
  · exact implValid_yes s y w (of_decide_eq_true h)
theorem implDiskValid_is (b : Bool) (s : ByteArray) (y : Int) (w : World) (hs : s.size ≤ maxLen) (h : decide (Vd s y) = b) : Calls Try.prog 25 #[dk s y] w (Ret (.bool b) w) := by
  unfold dk
  go_enter Try.func25, Try.ntmps25
  go_wp2_with fail
  refine (implValid_is b s y _ hs h).mono ?_
  rintro e w1 ⟨rfl, hb⟩
  go_wp2
  go_ret
  exact .mk_ (((Below.refl _ _).alloc (Nat.le_refl _) _).trans (hb.mono (by simp)))

theorem specDiskValid_is (b : Bool) (s : ByteArray) (y : Int) (w : World) (hs : s.size ≤ maxLen) (h : decide (Vd s y) = b) : Calls Try.prog 26 #[dk s y] w (Ret (.bool b) w) := by
  unfold maxLen at hs
  unfold dk
  by_cases h1 : s.size ≤ 120
  · have e1 : decide ((s.size : Int) ≤ 120) = true := by simp; omega
    have e1' : decide (s.size ≤ 120) = true := by simp; omega
    by_cases h2 : 0 ≤ y ∧ y ≤ s.size
    · obtain ⟨h2, h3⟩ := h2
      obtain rfl : b = true := by rw [← h]; exact decide_eq_true ⟨h1, h2, h3⟩
      clear h
      go_enter Try.func26, Try.ntmps26
      go_wp2_with (go_at_call 38; refine (l6In_yes _ _ _ _ (by omega) (by omega)).mono ?_; rintro e w' ⟨rfl, rfl⟩)
      go_ret
      exact .mk_ ((Below.refl _ _).alloc (Nat.le_refl _) _)
    · obtain rfl : b = false := by rw [← h]; exact decide_eq_false (fun hv => h2 hv.2)
      clear h
      go_enter Try.func26, Try.ntmps26
      go_wp2_with (go_at_call 38; refine (l6In_no _ _ _ _ (by omega)).mono ?_; rintro e w' ⟨rfl, rfl⟩)
      go_ret
      exact .mk_ ((Below.refl _ _).alloc (Nat.le_refl _) _)
  · obtain rfl : b = false := by rw [← h]; exact decide_eq_false (fun hv => h1 hv.1)
    have e1 : decide ((s.size : Int) ≤ 120) = false := by simp; omega
    have e1' : decide (s.size ≤ 120) = false := by simp; omega
    clear h
    go_enter Try.func26, Try.ntmps26
    go_wp2
    go_ret
    exact .mk_ ((Below.refl _ _).alloc (Nat.le_refl _) _)
end Go.Proofs.Ytclonfhpabdpgaa
