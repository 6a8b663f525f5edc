/-
  Blocks of four cells.
-/
import Derived.Test.YtjplondblkkpmaaG0C
namespace Go.Proofs.Ytjplondblkkpmaa
open Go.RowKit Wo Pu Rf

/-! ### Blocks of four cells. -/
def Blk4s (w : World) (g : Nat) (t : TypeId) (v0 v1 v2 v3 : Value) : Prop := w.heap[g]? = some (.cells #[v0, v1, v2, v3] t (0, 0))
section
variable {w w' : World} {g : Nat} {t : TypeId} {v0 v1 v2 v3 : Value}
theorem Blk4s.lt (h : Blk4s w g t v0 v1 v2 v3) : g < w.heap.size := blk_lt h
theorem Blk4s.reads (h : Blk4s w g t v0 v1 v2 v3) : w.cell? ⟨g, 0, none⟩ = some v0 ∧ w.cell? ⟨g, 1, none⟩ = some v1 ∧ w.cell? ⟨g, 2, none⟩ = some v2 ∧ w.cell? ⟨g, 3, none⟩ = some v3 ∧ ∀ o, w.frozen? ⟨g, o, none⟩ = false := by
  unfold Blk4s at h
  exact ⟨by simp [World.cell?, h], by simp [World.cell?, h], by simp [World.cell?, h], by simp [World.cell?, h], fun o => by simp [World.frozen?, h]⟩
theorem Blk4s.new_ (w : World) (t : TypeId) (v0 v1 v2 v3 : Value) : Blk4s (w.alloc (.cells #[v0, v1, v2, v3] t)) w.heap.size t v0 v1 v2 v3 := heap_alloc_new w _
theorem Blk4s.below {C : Nat} (h : Blk4s w g t v0 v1 v2 v3) (hb : Below C w w') (hC : g < C) : Blk4s w' g t v0 v1 v2 v3 := (hb.block g hC).trans h
theorem Blk4s.later (h : Blk4s w g t v0 v1 v2 v3) (hb : Below w.heap.size w w') : Blk4s w' g t v0 v1 v2 v3 := h.below hb h.lt
theorem Blk4s.alloc (h : Blk4s w g t v0 v1 v2 v3) (o : Obj) : Blk4s (w.alloc o) g t v0 v1 v2 v3 := h.later ((Below.refl _ _).alloc (Nat.le_refl _) o)
theorem Blk4s.far (h : Blk4s w g t v0 v1 v2 v3) {p : Addr} (hp : g ≠ p.block) (u : Value) : Blk4s (w.setCell p u) g t v0 v1 v2 v3 := (Below.heap_setCell w p u g hp).trans h
theorem Blk4s.set0 (h : Blk4s w g t v0 v1 v2 v3) (u : Value) : Blk4s (w.setCell ⟨g, 0, none⟩ u) g t u v1 v2 v3 := by unfold Blk4s at h ⊢; simp [World.setCell, Array.getElem?_modify, h]
theorem Blk4s.set1 (h : Blk4s w g t v0 v1 v2 v3) (u : Value) : Blk4s (w.setCell ⟨g, 1, none⟩ u) g t v0 u v2 v3 := by unfold Blk4s at h ⊢; simp [World.setCell, Array.getElem?_modify, h]
theorem Blk4s.set2 (h : Blk4s w g t v0 v1 v2 v3) (u : Value) : Blk4s (w.setCell ⟨g, 2, none⟩ u) g t v0 v1 u v3 := by unfold Blk4s at h ⊢; simp [World.setCell, Array.getElem?_modify, h]
theorem Blk4s.set3 (h : Blk4s w g t v0 v1 v2 v3) (u : Value) : Blk4s (w.setCell ⟨g, 3, none⟩ u) g t v0 v1 v2 u := by unfold Blk4s at h ⊢; simp [World.setCell, Array.getElem?_modify, h]
theorem Blk4s.grown {row : Option Nat} (h : Blk4s w g t v0 v1 v2 v3) (hg : w.grownBy w' row) (hr : some g ≠ row) : Blk4s w' g t v0 v1 v2 v3 := (hg.block g h.lt hr).trans h
end
end Go.Proofs.Ytjplondblkkpmaa
