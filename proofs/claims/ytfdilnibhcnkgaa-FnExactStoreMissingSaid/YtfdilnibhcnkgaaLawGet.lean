/-
  Walk of the exact law on StoreGet.
-/
import Derived.Test.YtfdilnibhcnkgaaMarks
namespace Go.Proofs.Ytfdilnibhcnkgaa
open Go.RowKit Wo Pu

def Got (o : Ob) (b : Bool) (w : World) (e : Ending) (w' : World) : Prop :=
  ∃ (A : Option Addr) (c : Nat), e = .returned (.tuple #[ob o.kd A o.zs.length c o.s, .bool b]) ∧ Own w' w.heap.size (.slice A o.zs.length c) o.zs ∧ Below w.heap.size w w'
theorem Got.of_ {f : Option Ob} {o : Ob} {b : Bool} {w w' : World} {e : Ending} (h : GotOb f w e w') (ho : f.getD ob0 = o) (hb : f.isSome = b) : Got o b w e w' := by
  subst ho hb
  exact h
theorem fnd_len {os : List Ob} {x : Int} {r m : Nat} (h : ∀ o ∈ os, o.zs.length ≤ m) : ((fndO os x r).getD ob0).zs.length ≤ m := by
  unfold fndO
  split
  · by_cases hr : r < os.length
    · by_cases hi : iOb os[r] = x
      · simp [hr, Option.filter, hi]
        exact h _ (List.getElem_mem hr)
      · simp [hr, Option.filter, hi, ob0]
    · simp [hr, ob0]
  · simp [ob0]
/-- A new variable with an object in it. -/
def putOb (w : World) (o : Ob) (A : Option Addr) (c : Nat) : World := w.alloc (.cells #[.int .i64 o.kd, .slice A o.zs.length c, .string o.s] 30)
theorem putOb_facts (w : World) (o : Ob) (A : Option Addr) (c : Nat) : Blk (putOb w o A c) w.heap.size 30 (.int .i64 o.kd) (.slice A o.zs.length c) (.string o.s) ∧ Below w.heap.size w (putOb w o A c) ∧ (putOb w o A c).heap.size = w.heap.size + 1 :=
  ⟨Blk.new_ w _ _ _ _, (Below.refl w.heap.size w).alloc (Nat.le_refl _) _, by simp [putOb]⟩
theorem Own.lt_ {w : World} {B : Nat} {A : Option Addr} {n c : Nat} {zs : List Int} (h : Own w B (.slice A n c) zs) : ∀ k, (Value.slice A n c).ownBlock = some k → B ≤ k ∧ k < w.heap.size := World.ownsRow.lt h
theorem Apart.size_ {B C : Nat} {w w' : World} (h : Apart B C w w') : w.heap.size ≤ w'.heap.size := h.1.size
theorem Own.row' {w : World} {B : Nat} {A : Option Addr} {n c : Nat} {zs : List Int} (h : Own w B (.slice A n c) zs) : Row w w.heap.size A (ints zs) := by
  obtain ⟨A2, c2, hv, hr⟩ := h.form
  injection hv with h1 h2 h3
  subst h1
  exact hr
theorem Apart.blk {B C : Nat} {w w' : World} (h : Apart B C w w') {g : Nat} {t : TypeId} {v0 v1 v2 : Value} (hb : Blk w g t v0 v1 v2) (hg : C ≤ g) : Blk w' g t v0 v1 v2 := (h.2 g hg hb.lt).trans hb
theorem Apart.own_ {B C D : Nat} {w w' : World} (h : Apart B C w w') {v : Value} {zs : List Int} (ho : Own w D v zs) (hD : C ≤ D) : Own w' D v zs := by
  have ho' := ho
  obtain ⟨h1, h2⟩ := ho
  refine ⟨h1, ?_⟩
  rcases h2 with h2 | ⟨g, cap, cur, hv, hB, hh, hr⟩
  · exact .inl h2
  · refine .inr ⟨g, cap, cur, hv, hB, ?_, hr⟩
    have hl := (World.ownsRow.lt ho' g (by rw [hv]; rfl)).2
    rw [h.2 g (by omega) hl]
    exact hh

end Go.Proofs.Ytfdilnibhcnkgaa
