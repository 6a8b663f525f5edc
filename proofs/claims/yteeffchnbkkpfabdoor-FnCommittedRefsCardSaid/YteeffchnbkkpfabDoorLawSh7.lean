/-
  Walks of laws on what a shard has committed.
-/
import Derived.Test.YteeffchnbkkpfabDoorLawSh6
import Derived.Test.YteeffchnbkkpfabDoorHasI
namespace Go.Proofs.YteeffchnbkkpfabDoor
open Go.RowKit Wo Pu Rf Lk Sh

/-- How many numbers of a list are below k. -/
def cntLt (zs : List Int) (k : Int) : Nat := zs.countP fun z => decide (z < k)
theorem cntLt_succ (zs : List Int) (k : Int) : cntLt zs (k + 1) = cntLt zs k + zs.count k := by
  induction zs with
  | nil => rfl
  | cons z zs ih =>
    unfold cntLt at ih ⊢
    rw [List.countP_cons, List.countP_cons, List.count_cons, ih]
    by_cases h1 : z < k
    · rw [if_pos (by simpa using (by omega : z < k + 1)), if_pos (by simpa using h1), if_neg (by simp; omega)]
      omega
    · by_cases h2 : z = k
      · subst h2
        rw [if_pos (by simp; omega), if_neg (by simp), if_pos (by simp)]
        omega
      · rw [if_neg (by simp; omega), if_neg (by simpa using h1), if_neg (by simpa using h2)]
        omega
theorem count_nodup {zs : List Int} (h : zs.Nodup) (x : Int) : zs.count x = if x ∈ zs then 1 else 0 := by
  induction zs with
  | nil => rfl
  | cons z zs ih =>
    obtain ⟨h1, h2⟩ := List.nodup_cons.1 h
    rw [List.count_cons, ih h2]
    by_cases e : z = x
    · subst e
      rw [if_neg h1, if_pos (by simp), if_pos List.mem_cons_self]
    · have e2 : ¬ x = z := fun e2 => e e2.symm
      simp [e, e2]
theorem cntLt_zero {zs : List Int} (h : ∀ z ∈ zs, TV z) : cntLt zs 0 = 0 := by
  unfold cntLt
  rw [List.countP_eq_zero]
  intro z hz
  have := (h z hz).1
  simp
  omega
theorem cntLt_all {zs : List Int} (h : ∀ z ∈ zs, TV z) : cntLt zs 12 = zs.length := by
  unfold cntLt
  rw [List.countP_eq_length]
  intro z hz
  have := (h z hz).2
  simp
  omega
theorem com_tv {rs : List Rec} {s : St} (h : Rcv rs s) : ∀ z ∈ Sh.com rs, TV z := fun z hz => by
  unfold Sh.com at hz
  obtain ⟨r, hr, rfl⟩ := List.mem_map.1 hz
  exact (h.inv.kinds r (List.mem_filter.1 hr).1).1
end Go.Proofs.YteeffchnbkkpfabDoor
