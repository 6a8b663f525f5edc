/-
  Plain facts on snapshots of a coordinator: the place of a transaction in the order, and which shards differ.
  Walk: the shards that a transaction waits for, by the model.
-/
import Derived.Test.YtjplondblkkpmaaG5C
namespace Go.Proofs.Ytjplondblkkpmaa
open Go.RowKit Wo Pu Rf Co

/-- How many first transactions there are up to a transaction. -/
def FirstO (q : Crd) (t z : Int) : Prop := (CV q ∧ ∃ (k : Nat) (h : k < q.os.length), q.os[k] = t ∧ z = (k : Int) + 1) ∨ (¬ (CV q ∧ t ∈ q.os) ∧ z = -1)
theorem firstO_ex (q : Crd) (t : Int) : ∃ z, FirstO q t z := by
  by_cases h : CV q ∧ t ∈ q.os
  · obtain ⟨k, hk, e⟩ := List.mem_iff_getElem.1 h.2
    exact ⟨_, .inl ⟨h.1, k, hk, e, rfl⟩⟩
  · exact ⟨-1, .inr ⟨h, rfl⟩⟩
theorem FirstO.here {q : Crd} {t z : Int} (h : FirstO q t z) (hv : CV q) {k : Nat} (hk : k < q.os.length) (e : q.os[k] = t) : z = (k : Int) + 1 := by
  rcases h with ⟨-, k', hk', e', rfl⟩ | ⟨hn, -⟩
  · have hp := List.pairwise_iff_getElem.1 hv.order.1
    rcases Nat.lt_trichotomy k' k with hlt | rfl | hlt
    · exact absurd (e'.trans e.symm) (hp k' k hk' hk hlt)
    · rfl
    · exact absurd (e.trans e'.symm) (hp k k' hk hk' hlt)
  · exact absurd ⟨hv, e ▸ List.getElem_mem hk⟩ hn
theorem FirstO.no {q : Crd} {t z : Int} (h : FirstO q t z) (hn : ¬ (CV q ∧ t ∈ q.os)) : z = -1 := by
  rcases h with ⟨hv, k', hk', e', -⟩ | ⟨-, e⟩
  · exact absurd ⟨hv, e' ▸ List.getElem_mem hk'⟩ hn
  · exact e

/-- The shards below k whose refs differ. -/
def diffTo (q : Crd) (m n : Nat) : Nat → List Int
  | 0 => []
  | k + 1 => diffTo q m n k ++ (if refsC q (k : Int) m = refsC q (k : Int) n then [] else [(k : Int)])
theorem mem_diffTo (q : Crd) (m n : Nat) (x : Int) : ∀ k, x ∈ diffTo q m n k ↔ ∃ s : Nat, s < k ∧ x = (s : Int) ∧ refsC q (s : Int) m ≠ refsC q (s : Int) n := by
  intro k
  induction k with
  | zero => simp [diffTo]
  | succ k ih =>
    unfold diffTo
    rw [List.mem_append, ih]
    constructor
    · rintro (⟨s, h1, h2, h3⟩ | h)
      · exact ⟨s, by omega, h2, h3⟩
      · split at h
        · cases h
        · next hne =>
          rw [List.mem_singleton] at h
          exact ⟨k, by omega, h, hne⟩
    · rintro ⟨s, h1, h2, h3⟩
      by_cases e : s = k
      · subst e
        right
        rw [if_neg h3, h2]
        exact List.mem_singleton.2 rfl
      · exact .inl ⟨s, by omega, h2, h3⟩
theorem diffTo_len (q : Crd) (m n : Nat) : ∀ k, (diffTo q m n k).length ≤ k := by
  intro k
  induction k with
  | zero => exact Nat.le_refl _
  | succ k ih =>
    unfold diffTo
    rw [List.length_append]
    split
    · simp; omega
    · simp; omega
theorem diffTo_asc (q : Crd) (m n : Nat) : ∀ k, (diffTo q m n k).Pairwise (· < ·) := by
  intro k
  induction k with
  | zero => exact .nil
  | succ k ih =>
    unfold diffTo
    split
    · rw [List.append_nil]; exact ih
    · rw [List.pairwise_append]
      refine ⟨ih, List.pairwise_singleton _ _, fun x hx y hy => ?_⟩
      rw [List.mem_singleton] at hy
      obtain ⟨s, h1, rfl, -⟩ := (mem_diffTo q m n x k).1 hx
      omega
theorem diffTo_swap (q : Crd) (m n : Nat) : ∀ k, diffTo q n m k = diffTo q m n k := by
  intro k
  induction k with
  | zero => rfl
  | succ k ih =>
    unfold diffTo
    rw [ih]
    by_cases e : refsC q (k : Int) m = refsC q (k : Int) n
    · rw [if_pos e, if_pos e.symm]
    · rw [if_neg e, if_neg fun h => e h.symm]
theorem diffTo_self (q : Crd) (m : Nat) : ∀ k, diffTo q m m k = [] := by
  intro k
  induction k with
  | zero => rfl
  | succ k ih =>
    unfold diffTo
    rw [ih, if_pos rfl]
    rfl
theorem diffTo_same {q : Crd} {m n k : Nat} (e : refsC q (k : Int) m = refsC q (k : Int) n) : diffTo q m n (k + 1) = diffTo q m n k := by
  conv => lhs; unfold diffTo
  rw [if_pos e, List.append_nil]
theorem diffTo_more {q : Crd} {m n k : Nat} (e : refsC q (k : Int) m ≠ refsC q (k : Int) n) : diffTo q m n (k + 1) = diffTo q m n k ++ [(k : Int)] := by
  conv => lhs; unfold diffTo
  rw [if_neg e]
/-- The shards whose refs differ. -/
def DiffO (q : Crd) (a b : Int) (zs : List Int) : Prop := (∃ m n : Nat, a = (m : Int) ∧ b = (n : Int) ∧ CV q ∧ m ≤ q.os.length ∧ n ≤ q.os.length ∧ zs = diffTo q m n 3) ∨ (¬ (CV q ∧ (0 ≤ a ∧ a ≤ (q.os.length : Int)) ∧ (0 ≤ b ∧ b ≤ (q.os.length : Int))) ∧ zs = [])
theorem diffO_ex (q : Crd) (a b : Int) : ∃ zs, DiffO q a b zs := by
  by_cases h : CV q ∧ (0 ≤ a ∧ a ≤ (q.os.length : Int)) ∧ (0 ≤ b ∧ b ≤ (q.os.length : Int))
  · obtain ⟨m, rfl⟩ := Int.eq_ofNat_of_zero_le h.2.1.1
    obtain ⟨n, rfl⟩ := Int.eq_ofNat_of_zero_le h.2.2.1
    exact ⟨_, .inl ⟨m, n, rfl, rfl, h.1, by omega, by omega, rfl⟩⟩
  · exact ⟨[], .inr ⟨h, rfl⟩⟩
theorem DiffO.no {q : Crd} {a b : Int} {zs : List Int} (h : DiffO q a b zs) (hn : ¬ (CV q ∧ (0 ≤ a ∧ a ≤ (q.os.length : Int)) ∧ (0 ≤ b ∧ b ≤ (q.os.length : Int)))) : zs = [] := by
  rcases h with ⟨m, n, rfl, rfl, hv, h1, h2, -⟩ | ⟨-, e⟩
  · exact absurd ⟨hv, ⟨by omega, by omega⟩, by omega, by omega⟩ hn
  · exact e
theorem DiffO.yes {q : Crd} {m n : Nat} {zs : List Int} (h : DiffO q (m : Int) (n : Int) zs) (hv : CV q) (h1 : m ≤ q.os.length) (h2 : n ≤ q.os.length) : zs = diffTo q m n 3 := by
  rcases h with ⟨m', n', e1, e2, -, -, -, e⟩ | ⟨hn, -⟩
  · have e1' : m = m' := by omega
    have e2' : n = n' := by omega
    subst e1' e2'
    exact e
  · exact absurd ⟨hv, ⟨by omega, by omega⟩, by omega, by omega⟩ hn
theorem DiffO.few {q : Crd} {a b : Int} {zs : List Int} (h : DiffO q a b zs) : zs.length ≤ 3 := by
  rcases h with ⟨m, n, -, -, -, -, -, rfl⟩ | ⟨-, rfl⟩
  · exact diffTo_len q m n 3
  · simp
theorem DiffO.swap {q : Crd} {a b : Int} {zs : List Int} (h : DiffO q a b zs) : DiffO q b a zs := by
  rcases h with ⟨m, n, e1, e2, hv, h1, h2, rfl⟩ | ⟨hn, e⟩
  · exact .inl ⟨n, m, e2, e1, hv, h2, h1, (diffTo_swap q m n 3).symm⟩
  · exact .inr ⟨fun h => hn ⟨h.1, h.2.2, h.2.1⟩, e⟩
theorem DiffO.self {q : Crd} (a : Int) : DiffO q a a [] := by
  by_cases h : CV q ∧ (0 ≤ a ∧ a ≤ (q.os.length : Int)) ∧ (0 ≤ a ∧ a ≤ (q.os.length : Int))
  · obtain ⟨m, rfl⟩ := Int.eq_ofNat_of_zero_le h.2.1.1
    exact .inl ⟨m, m, rfl, rfl, h.1, by omega, by omega, (diffTo_self q m 3).symm⟩
  · exact .inr ⟨h, rfl⟩
theorem DiffO.asc {q : Crd} {a b : Int} {zs : List Int} (h : DiffO q a b zs) : zs.Pairwise (· < ·) := by
  rcases h with ⟨m, n, -, -, -, -, -, rfl⟩ | ⟨-, rfl⟩
  · exact diffTo_asc q m n 3
  · exact .nil
/-- A shard that a further transaction changes is one of its shards. -/
theorem diff_part {q : Crd} {m n : Nat} (hm : m < q.os.length) (hn : n < q.ts.length) (e : q.os[m] = (n : Int)) {x : Int} (hx : x ∈ diffTo q m (m + 1) 3) : ∃ k, ∃ hk : k < q.ts[n].ps.length, q.ts[n].ps[k].s = x := by
  obtain ⟨s, -, rfl, hne⟩ := (mem_diffTo q m (m + 1) x 3).1 hx
  refine Classical.byContradiction fun hno => hne ?_
  have h0 : usAt q.ts[n].ps (s : Int) = [] := usAt_no fun j hj ej => hno ⟨j, hj, ej⟩
  rw [refsC_succ hm hn e, h0]
  rfl
theorem refsC_none (q : Crd) (s : Int) : refsC q s 0 = [-1, -1, -1, -1] := rfl
theorem refsC_RV {q : Crd} (h : CV q) (s : Int) : ∀ k, k ≤ q.os.length → RV (refsC q s k) := by
  intro k
  induction k with
  | zero =>
    intro _
    rw [refsC_none]
    exact ⟨rfl, by decide⟩
  | succ k ih =>
    intro hk
    have hlt : k < q.os.length := by omega
    obtain ⟨n, hn, eo, -⟩ := h.order.2 _ (List.getElem_mem hlt)
    rw [refsC_succ hlt hn eo]
    refine setR_RV (ih (by omega)) fun u hu => ?_
    have hv := (h.txs _ (List.getElem_mem hn)).parts
    unfold usAt at hu
    split at hu
    · next p hp =>
      have hm := List.mem_of_find?_eq_some hp
      exact ((hv.2.1 p hm).2.2.2.mem u hu).2.2.2.1
    · cases hu
end Go.Proofs.Ytjplondblkkpmaa
namespace Go.Proofs.Ytjplondblkkpmaa
open Go.RowKit Wo Pu Rf Co

set_option linter.unusedVariables false in
/-- The shards that are waited for among the first k parts. -/
def waitsTo (t : Tx) (k : Nat) : List Int := (((t.ps.zip t.vs).take k).filter fun x => x.2 == 0).map fun x => x.1.s
set_option linter.unusedVariables false in
set_option linter.unusedSimpArgs false in
theorem waitsTo_zero (t : Tx) : waitsTo t 0 = [] := by simp [waitsTo]
set_option linter.unusedVariables false in
set_option linter.unusedSimpArgs false in
theorem waitsTo_all {t : Tx} (h : t.vs.length = t.ps.length) : waitsTo t t.ps.length = waitsT t := by
  unfold waitsTo waitsT
  rw [List.take_of_length_le (by rw [List.length_zip]; omega)]
set_option linter.unusedVariables false in
set_option linter.unusedSimpArgs false in
theorem waitsTo_next {t : Tx} {k : Nat} (hk : k < t.ps.length) (hv : k < t.vs.length) : waitsTo t (k + 1) = if t.vs[k] = 0 then waitsTo t k ++ [t.ps[k].s] else waitsTo t k := by
  unfold waitsTo
  rw [List.take_succ_eq_append_getElem (by rw [List.length_zip]; omega), List.filter_append, List.map_append, List.getElem_zip]
  by_cases e : t.vs[k] = 0
  · rw [if_pos e]; simp [e]
  · rw [if_neg e]; simp [e]
set_option linter.unusedVariables false in
set_option linter.unusedSimpArgs false in
theorem waitsTo_len (t : Tx) (k : Nat) : (waitsTo t k).length ≤ t.ps.length := by
  unfold waitsTo
  rw [List.length_map]
  refine Nat.le_trans (List.length_filter_le _ _) ?_
  rw [List.length_take, List.length_zip]
  omega
set_option linter.unusedVariables false in
set_option linter.unusedSimpArgs false in
theorem Co.Waits.no_ {q : Crd} {t : Int} {zs : List Int} (h : Waits q t zs) (hn : ¬ (CV q ∧ ∃ n, ∃ h : n < q.ts.length, t = (n : Int) ∧ q.ts[n].d = 0)) : zs = [] := by
  rcases h with ⟨n, h1, h2, h3, h4, -⟩ | ⟨-, h⟩
  · exact absurd ⟨h2, n, h1, h3, h4⟩ hn
  · exact h
set_option linter.unusedVariables false in
set_option linter.unusedSimpArgs false in
theorem Co.Waits.yes_ {q : Crd} {zs : List Int} {n : Nat} (h : Waits q (n : Int) zs) (h1 : CV q) (hn : n < q.ts.length) (hd : q.ts[n].d = 0) : zs = waitsT q.ts[n] := by
  rcases h with ⟨m, h1, h2, h3, h4, h5⟩ | ⟨h, -⟩
  · have e : m = n := by omega
    subst e
    exact h5
  · exact absurd ⟨h1, n, hn, rfl, hd⟩ h
/- Nobody is waited for. -/
end Go.Proofs.Ytjplondblkkpmaa
