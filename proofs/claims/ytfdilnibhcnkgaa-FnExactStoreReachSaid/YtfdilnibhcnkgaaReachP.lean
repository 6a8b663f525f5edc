/-
  Plain facts: what is reached.
-/
import Derived.Test.YtfdilnibhcnkgaaSorted
import Derived.Test.YtfdilnibhcnkgaaFind
namespace Go.Proofs.Ytfdilnibhcnkgaa
open Pu

/-- What is reached from ids. -/
inductive Rc (os : List Ob) (fr : List Int) : Int → Prop
  | base {x : Int} (h : x ∈ fr) : Rc os fr x
  | link {o : Ob} {y : Int} (ho : o ∈ os) (h : Rc os fr (iOb o)) (hy : y ∈ o.zs) : Rc os fr y
theorem Rc.closed {os : List Ob} {fr L : List Int} {x : Int} (h1 : ∀ x ∈ fr, x ∈ L) (h2 : ∀ o ∈ os, iOb o ∈ L → ∀ y ∈ o.zs, y ∈ L) (h : Rc os fr x) : x ∈ L := by
  induction h with
  | base h => exact h1 _ h
  | link ho _ hy ih => exact h2 _ ho ih _ hy
/-- The ids that are reached, as a list. -/
def RcList (os : List Ob) (fr L : List Int) : Prop := ∀ x, x ∈ L ↔ Rc os fr x
theorem sortedTo_mem {L : List Int} {k : Nat} {x : Int} : x ∈ sortedTo L k ↔ x ∈ L ∧ 0 ≤ x ∧ x < k := by
  unfold sortedTo
  rw [List.mem_filter, List.mem_map, decide_eq_true_eq]
  constructor
  · rintro ⟨⟨i, hi, rfl⟩, hx⟩
    have := List.mem_range.1 hi
    exact ⟨hx, by omega, by omega⟩
  · rintro ⟨hx, h0, h1⟩
    exact ⟨⟨x.toNat, List.mem_range.2 (by omega), by omega⟩, hx⟩
theorem sortedTo_congr {L M : List Int} (h : ∀ x, x ∈ L ↔ x ∈ M) (k : Nat) : sortedTo L k = sortedTo M k := by
  unfold sortedTo
  congr 1
  funext x
  rw [Bool.eq_iff_iff, decide_eq_true_eq, decide_eq_true_eq]
  exact h x
theorem RcList.one {os : List Ob} {fr L M : List Int} (h : RcList os fr L) (h' : RcList os fr M) (k : Nat) : sortedTo L k = sortedTo M k := sortedTo_congr (fun x => (h x).trans (h' x).symm) k
/-- Is an id an object's? -/
def isIn (os : List Ob) (x : Int) : Bool := os.any (fun o => decide (iOb o = x))
theorem isIn_iff {os : List Ob} {x : Int} : isIn os x = true ↔ ∃ o ∈ os, iOb o = x := by
  unfold isIn
  simp [List.any_eq_true]
theorem isIn_at {os : List Ob} {x : Int} {r : Nat} (hs : storeB os = true) (hr : At_ os x r) : isIn os x = true ↔ ∃ h : r < os.length, iOb os[r] = x := by
  rw [isIn_iff]
  constructor
  · rintro ⟨o, ho, he⟩
    obtain ⟨i, hi, rfl⟩ := List.mem_iff_getElem.1 ho
    have hsort := stB_sorted (storeB_parts hs).1
    by_cases h1 : i < r
    · have := hr.2.1 i hi h1; omega
    · have h3 : r < os.length := by omega
      by_cases h2 : i = r
      · subst h2; exact ⟨hi, he⟩
      · have h4 := hr.2.2 h3
        have h5 := (hsort r h3).2 i hi (by omega)
        omega
  · rintro ⟨h, he⟩
    exact ⟨_, List.getElem_mem h, he⟩
/-- The answers. -/
def reachL (os : List Ob) (L : List Int) : List Int := (sortedTo L 991).filter (isIn os)
def missL (os : List Ob) (L : List Int) : List Int := (sortedTo L 991).filter (fun x => !isIn os x)
theorem nodup_le {L : List Int} : ∀ {M : List Int}, L.Nodup → (∀ x ∈ L, x ∈ M) → L.length ≤ M.length := by
  induction L with
  | nil => intro M _ _; exact Nat.zero_le _
  | cons a L ih =>
    intro M hn h
    rw [List.nodup_cons] at hn
    have ha := h a (by simp)
    have h1 := ih (M := M.erase a) hn.2 (fun x hx => by
      have hxa : x ≠ a := fun e => hn.1 (e ▸ hx)
      exact (List.mem_erase_of_ne hxa).2 (h x (List.mem_cons_of_mem _ hx)))
    have h2 := List.length_erase_of_mem ha
    have h3 := List.length_pos_of_mem ha
    rw [List.length_cons]
    omega
theorem range_le {L : List Int} (hn : L.Nodup) (h : ∀ x ∈ L, 0 ≤ x ∧ x < 991) : L.length ≤ 991 := by
  have := nodup_le (M := (List.range 991).map (fun i : Nat => (i : Int))) hn (fun x hx => List.mem_map.2 ⟨x.toNat, List.mem_range.2 (by have := h x hx; omega), by have := h x hx; omega⟩)
  rw [List.length_map, List.length_range] at this
  exact this
theorem nodup_app {L : List Int} {x : Int} (h : L.Nodup) (hx : x ∉ L) : (L ++ [x]).Nodup := by
  rw [List.nodup_append]
  refine ⟨h, by simp, fun a ha b hb => ?_⟩
  rw [List.mem_singleton] at hb
  subst hb
  exact fun e => hx (e ▸ ha)
end Go.Proofs.Ytfdilnibhcnkgaa
