/-
  Plain facts: the program's work list, and what decreases.
-/
import Derived.Test.YtfdilnibhcnkgaaReachT
import Derived.Test.YtfdilnibhcnkgaaArr
namespace Go.Proofs.Ytfdilnibhcnkgaa
open Go.RowKit Wo Pu

/-- V has been followed, U waits. -/
def Wk (os : List Ob) (fr V U : List Int) : Prop :=
  V.Nodup ∧ (∀ x ∈ V, 0 ≤ x ∧ x < 991) ∧ (∀ x ∈ U, 0 ≤ x ∧ x < 991) ∧ (∀ x ∈ V, Rc os fr x) ∧ (∀ x ∈ U, Rc os fr x) ∧ (∀ x ∈ fr, x ∈ V ∨ x ∈ U) ∧ (∀ o ∈ os, iOb o ∈ V → ∀ y ∈ o.zs, y ∈ V ∨ y ∈ U) ∧ U.length ≤ 4 + 4 * V.length
theorem Wk.start {os : List Ob} {fr : List Int} (h : ∀ x ∈ fr, 0 ≤ x ∧ x < 991) (h4 : fr.length ≤ 4) : Wk os fr [] fr :=
  ⟨List.nodup_nil, fun x hx => (by cases hx), h, fun x hx => (by cases hx), fun x hx => .base hx, fun x hx => .inr hx, fun o _ hx => (by cases hx), by simpa using h4⟩
theorem Wk.skip {os : List Ob} {fr V U : List Int} {x : Int} (h : Wk os fr V (U ++ [x])) (hx : x ∈ V) : Wk os fr V U := by
  obtain ⟨h1, h2, h3, h4, h5, h6, h7, h8⟩ := h
  have key : ∀ y, y ∈ V ∨ y ∈ U ++ [x] → y ∈ V ∨ y ∈ U := fun y hy => by
    rcases hy with e | e
    · exact .inl e
    · rcases List.mem_append.1 e with e | e
      · exact .inr e
      · rw [List.mem_singleton.1 e]; exact .inl hx
  refine ⟨h1, h2, fun y hy => h3 y (List.mem_append_left _ hy), h4, fun y hy => h5 y (List.mem_append_left _ hy), fun y hy => key y (h6 y hy), fun o ho hv y hy => key y (h7 o ho hv y hy), ?_⟩
  rw [List.length_append, List.length_singleton] at h8
  omega
theorem Wk.follow {os : List Ob} {fr V U zs : List Int} {x : Int} (h : Wk os fr V (U ++ [x])) (hx : x ∉ V) (hz : zs.length ≤ 4) (hzr : ∀ y ∈ zs, 0 ≤ y ∧ y < 991)
    (ho : ∀ o ∈ os, iOb o = x → o.zs = zs) (hn : zs = [] ∨ ∃ o ∈ os, iOb o = x ∧ o.zs = zs) : Wk os fr (V ++ [x]) (U ++ zs) := by
  obtain ⟨h1, h2, h3, h4, h5, h6, h7, h8⟩ := h
  have hxU : x ∈ U ++ [x] := List.mem_append_right _ (by simp)
  have key : ∀ y, y ∈ V ∨ y ∈ U ++ [x] → y ∈ V ++ [x] ∨ y ∈ U ++ zs := fun y hy => by
    rcases hy with e | e
    · exact .inl (List.mem_append_left _ e)
    · rcases List.mem_append.1 e with e | e
      · exact .inr (List.mem_append_left _ e)
      · exact .inl (List.mem_append_right _ e)
  refine ⟨nodup_app h1 hx, fun y hy => ?_, fun y hy => ?_, fun y hy => ?_, fun y hy => ?_, fun y hy => key y (h6 y hy), fun o ho' hv y hy => ?_, ?_⟩
  · rcases List.mem_append.1 hy with e | e
    · exact h2 y e
    · rw [List.mem_singleton.1 e]; exact h3 x hxU
  · rcases List.mem_append.1 hy with e | e
    · exact h3 y (List.mem_append_left _ e)
    · exact hzr y e
  · rcases List.mem_append.1 hy with e | e
    · exact h4 y e
    · rw [List.mem_singleton.1 e]; exact h5 x hxU
  · rcases List.mem_append.1 hy with e | e
    · exact h5 y (List.mem_append_left _ e)
    · rcases hn with hn | ⟨o, ho1, ho2, ho3⟩
      · rw [hn] at e; cases e
      · exact .link ho1 (by rw [ho2]; exact h5 x hxU) (by rw [ho3]; exact e)
  · rcases List.mem_append.1 hv with e | e
    · exact key y (h7 o ho' e y hy)
    · rw [ho o ho' (List.mem_singleton.1 e)] at hy
      exact .inr (List.mem_append_right _ hy)
  · rw [List.length_append, List.length_singleton] at h8
    rw [List.length_append, List.length_append, List.length_singleton]
    omega
theorem Wk.end_ {os : List Ob} {fr V : List Int} (h : Wk os fr V []) : RcList os fr V := fun x => by
  obtain ⟨h1, h2, h3, h4, h5, h6, h7, h8⟩ := h
  refine ⟨h4 x, fun hx => hx.closed (fun y hy => ?_) (fun o ho hv y hy => ?_)⟩
  · rcases h6 y hy with e | e
    · exact e
    · cases e
  · rcases h7 o ho hv y hy with e | e
    · exact e
    · cases e
theorem Wk.few {os : List Ob} {fr V U : List Int} (h : Wk os fr V U) : V.length ≤ 991 ∧ U.length ≤ 3968 := by
  have h1 := range_le h.1 h.2.1
  have h2 := h.2.2.2.2.2.2.2
  omega
open Classical in
/-- How many marks are set. -/
noncomputable def seen (w : World) (g : Nat) : Nat := if h : ∃ V, Arr w g V ∧ V.Nodup ∧ ∀ x ∈ V, 0 ≤ x ∧ x < 991 then (Classical.choose h).length else 0
theorem Arr.mem {w : World} {g : Nat} {V U : List Int} (h : Arr w g V) (h' : Arr w g U) (hv : ∀ x ∈ V, 0 ≤ x ∧ x < 991) : ∀ x ∈ V, x ∈ U := fun x hx => by
  have hb := hv x hx
  have e1 := h.read (i := x.toNat) (by omega)
  have e2 := h'.read (i := x.toNat) (by omega)
  rw [e1, show ((x.toNat : Nat) : Int) = x from by omega] at e2
  injection e2 with e2
  injection e2 with e2
  rw [decide_eq_true hx] at e2
  exact of_decide_eq_true e2.symm
theorem seen_eq {w : World} {g : Nat} {V : List Int} (h : Arr w g V) (hn : V.Nodup) (hv : ∀ x ∈ V, 0 ≤ x ∧ x < 991) : seen w g = V.length := by
  have hex : ∃ V, Arr w g V ∧ V.Nodup ∧ ∀ x ∈ V, 0 ≤ x ∧ x < 991 := ⟨V, h, hn, hv⟩
  unfold seen
  rw [dif_pos hex]
  obtain ⟨k1, k2, k3⟩ := Classical.choose_spec hex
  exact Nat.le_antisymm (nodup_le k2 (k1.mem h k3)) (nodup_le hn (h.mem k1 hv))
end Go.Proofs.Ytfdilnibhcnkgaa
