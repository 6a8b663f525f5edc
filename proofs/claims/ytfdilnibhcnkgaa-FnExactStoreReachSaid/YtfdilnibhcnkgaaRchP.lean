/-
  Plain facts: the lists of what is reached and of what is missing.
-/
import Derived.Test.YtfdilnibhcnkgaaReachT
import Derived.Test.YtfdilnibhcnkgaaGets
namespace Go.Proofs.Ytfdilnibhcnkgaa
open Go.RowKit Wo Pu

def Asc (L : List Int) : Prop := L.Pairwise (· < ·)
theorem sortedTo_asc (L : List Int) (k : Nat) : Asc (sortedTo L k) := by
  unfold sortedTo
  refine List.Pairwise.filter _ ?_
  rw [List.pairwise_map]
  exact List.pairwise_lt_range.imp fun h => by omega
theorem reachL_asc (os : List Ob) (L : List Int) : Asc (reachL os L) := List.Pairwise.filter _ (sortedTo_asc L _)
theorem missL_asc (os : List Ob) (L : List Int) : Asc (missL os L) := List.Pairwise.filter _ (sortedTo_asc L _)
theorem Rc.range {os : List Ob} {fr : List Int} {x : Int} (hs : storeB os = true) (hl : linksB fr = true) (h : Rc os fr x) : 0 ≤ x ∧ x < 991 := by
  induction h with
  | base h => exact (linksB_parts hl).1.2 _ h
  | link ho _ hy _ => exact store_links hs _ ho _ hy
theorem mem_reach {os : List Ob} {fr L : List Int} {x : Int} (hs : storeB os = true) (hl : linksB fr = true) (h : RcList os fr L) : x ∈ reachL os L ↔ Rc os fr x ∧ isIn os x = true := by
  unfold reachL
  rw [List.mem_filter, sortedTo_mem, h x]
  exact ⟨fun e => ⟨e.1.1, e.2⟩, fun e => ⟨⟨e.1, e.1.range hs hl⟩, e.2⟩⟩
theorem mem_miss {os : List Ob} {fr L : List Int} {x : Int} (hs : storeB os = true) (hl : linksB fr = true) (h : RcList os fr L) : x ∈ missL os L ↔ Rc os fr x ∧ isIn os x = false := by
  unfold missL
  rw [List.mem_filter, sortedTo_mem, h x, Bool.not_eq_true']
  exact ⟨fun e => ⟨e.1.1, e.2⟩, fun e => ⟨⟨e.1, e.1.range hs hl⟩, e.2⟩⟩
/-- R holds what is reached and stored, M what is reached and not stored. -/
def IsR (os : List Ob) (fr R : List Int) : Prop := Asc R ∧ (((storeB os = true ∧ linksB fr = true) ∧ ∀ x, x ∈ R ↔ Rc os fr x ∧ isIn os x = true) ∨ ((storeB os && linksB fr) = false ∧ R = []))
def IsM (os : List Ob) (fr M : List Int) : Prop := Asc M ∧ (((storeB os = true ∧ linksB fr = true) ∧ ∀ x, x ∈ M ↔ Rc os fr x ∧ isIn os x = false) ∨ ((storeB os && linksB fr) = false ∧ M = []))
theorem Ans.isreach {os : List Ob} {fr L : List Int} (h : Ans os fr L) : IsR os fr (reachL os L) := by
  refine ⟨reachL_asc os L, ?_⟩
  rcases h with ⟨h1, h2⟩ | ⟨h1, h2⟩
  · obtain ⟨hs, hl⟩ := Bool.and_eq_true_iff.1 h1
    exact .inl ⟨⟨hs, hl⟩, fun x => mem_reach hs hl h2⟩
  · exact .inr ⟨h1, by rw [h2, reachL_nil]⟩
theorem Ans.ismiss {os : List Ob} {fr L : List Int} (h : Ans os fr L) : IsM os fr (missL os L) := by
  refine ⟨missL_asc os L, ?_⟩
  rcases h with ⟨h1, h2⟩ | ⟨h1, h2⟩
  · obtain ⟨hs, hl⟩ := Bool.and_eq_true_iff.1 h1
    exact .inl ⟨⟨hs, hl⟩, fun x => mem_miss hs hl h2⟩
  · exact .inr ⟨h1, by rw [h2, missL_nil]⟩
theorem Ans.few {os : List Ob} {L : List Int} : (reachL os L).length ≤ 991 ∧ (missL os L).length ≤ 991 :=
  ⟨Nat.le_trans (List.length_filter_le _ _) (sortedTo_length L 991), Nat.le_trans (List.length_filter_le _ _) (sortedTo_length L 991)⟩
theorem IsR.ok {os : List Ob} {fr R : List Int} (h : IsR os fr R) (hn : R ≠ []) : (storeB os = true ∧ linksB fr = true) ∧ ∀ x, x ∈ R ↔ Rc os fr x ∧ isIn os x = true := by
  rcases h.2 with h | h
  · exact h
  · exact absurd h.2 hn
theorem IsM.ok {os : List Ob} {fr R : List Int} (h : IsM os fr R) (hn : R ≠ []) : (storeB os = true ∧ linksB fr = true) ∧ ∀ x, x ∈ R ↔ Rc os fr x ∧ isIn os x = false := by
  rcases h.2 with h | h
  · exact h
  · exact absurd h.2 hn
/-- Is x a given id, or linked from one of the first k objects of R? -/
def why (os : List Ob) (fr R : List Int) (x : Int) (k : Nat) : Bool := decide (x ∈ fr) || (R.take k).any (fun y => os.any (fun o => decide (iOb o = y) && decide (x ∈ o.zs)))
theorem why_zero (os : List Ob) (fr R : List Int) (x : Int) : why os fr R x 0 = decide (x ∈ fr) := by simp [why]
theorem why_yes {os : List Ob} {fr R : List Int} {x : Int} {k : Nat} (hk : k < R.length) (h : why os fr R x k = true) : why os fr R x (k + 1) = true := by
  unfold why at h ⊢
  rw [List.take_succ_eq_append_getElem hk, List.any_append]
  rw [Bool.or_eq_true] at h
  rcases h with h | h
  · rw [h]; rfl
  · rw [h]; simp
theorem why_no {os : List Ob} {fr R : List Int} {x : Int} {k : Nat} {o : Ob} (hs : storeB os = true) (ho : o ∈ os) (hk : k < R.length) (he : iOb o = R[k]) (h : why os fr R x k = false) : why os fr R x (k + 1) = decide (x ∈ o.zs) := by
  unfold why at h ⊢
  rw [List.take_succ_eq_append_getElem hk, List.any_append]
  rw [Bool.or_eq_false_iff] at h
  rw [h.1, h.2, Bool.false_or, Bool.false_or, List.any_cons, List.any_nil, Bool.or_false, Bool.eq_iff_iff, decide_eq_true_eq, List.any_eq_true]
  constructor
  · rintro ⟨p, hp, hpx⟩
    rw [Bool.and_eq_true, decide_eq_true_eq, decide_eq_true_eq] at hpx
    have := storeB_inj hs hp ho (hpx.1.trans he.symm)
    subst this
    exact hpx.2
  · intro hx
    exact ⟨o, ho, by rw [Bool.and_eq_true, decide_eq_true_eq, decide_eq_true_eq]; exact ⟨he, hx⟩⟩
theorem Rc.cases_ {os : List Ob} {fr : List Int} {x : Int} (h : Rc os fr x) : x ∈ fr ∨ ∃ o ∈ os, Rc os fr (iOb o) ∧ x ∈ o.zs := by
  cases h with
  | base h => exact .inl h
  | link ho h hy => exact .inr ⟨_, ho, h, hy⟩
theorem why_all {os : List Ob} {fr R : List Int} {x : Int} (hR : ∀ x, x ∈ R ↔ Rc os fr x ∧ isIn os x = true) (h : Rc os fr x) : why os fr R x R.length = true := by
  unfold why
  rw [List.take_length, Bool.or_eq_true, decide_eq_true_eq]
  rcases h.cases_ with h | ⟨o, ho, h1, h2⟩
  · exact .inl h
  · refine .inr (List.any_eq_true.2 ⟨iOb o, (hR _).2 ⟨h1, isIn_iff.2 ⟨o, ho, rfl⟩⟩, List.any_eq_true.2 ⟨o, ho, ?_⟩⟩)
    simp [h2]
/-- The object with an id, or the zero one. -/
def obOf (os : List Ob) (x : Int) (o : Ob) : Prop := (isIn os x = true → o ∈ os ∧ iOb o = x) ∧ (isIn os x = false → o = ob0)
theorem fnd_of {os : List Ob} {x : Int} {r : Nat} (hs : storeB os = true) (hr : At_ os x r) : obOf os x ((fndO os x r).getD ob0) ∧ (fndO os x r).isSome = isIn os x := by
  by_cases h : ∃ h : r < os.length, iOb os[r] = x
  · obtain ⟨h1, h2⟩ := h
    have hi : isIn os x = true := (isIn_at hs hr).2 ⟨h1, h2⟩
    rw [fnd_b hs h1 h2, hi]
    exact ⟨⟨fun _ => ⟨List.getElem_mem h1, h2⟩, fun e => by rw [hi] at e; cases e⟩, rfl⟩
  · have hi : isIn os x = false := by
      rw [Bool.eq_false_iff]
      exact fun e => h ((isIn_at hs hr).1 e)
    rw [fnd_c h, hi]
    exact ⟨⟨fun e => (by rw [hi] at e; cases e), fun _ => rfl⟩, rfl⟩
theorem obOf.few {os : List Ob} {x : Int} {o : Ob} (hs : storeB os = true) (h : obOf os x o) : o.zs.length ≤ 4 := by
  cases hi : isIn os x
  · rw [h.2 hi]; simp [ob0]
  · obtain ⟨h1, _⟩ := h.1 hi
    obtain ⟨j, hj, rfl⟩ := List.mem_iff_getElem.1 h1
    exact (vldB_parts (storeB_valid hs j hj : vldB os[j].kd os[j].zs os[j].s.size = true)).2.1
theorem one_links {x : Int} (h0 : 0 ≤ x) (h1 : x < 991) : linksB [x] = true := by
  simp [linksB, ascB]; omega
theorem store_in {os : List Ob} (hs : storeB os = true) {o : Ob} (ho : o ∈ os) : 0 ≤ iOb o ∧ iOb o < 991 := by
  obtain ⟨j, hj, rfl⟩ := List.mem_iff_getElem.1 ho
  have hv : vldB os[j].kd os[j].zs os[j].s.data.toList.length = true := storeB_valid hs j hj
  unfold iOb oid
  rw [if_pos hv]
  exact idOf_range hv
end Go.Proofs.Ytfdilnibhcnkgaa
