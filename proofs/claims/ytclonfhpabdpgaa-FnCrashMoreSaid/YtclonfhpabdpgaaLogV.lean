/-
  Plain facts on what LogAppend and LogCrash answer.
-/
import Derived.Test.YtclonfhpabdpgaaLogU
import Derived.Test.YtclonfhpabdpgaaLogC
namespace Go.Proofs.Ytclonfhpabdpgaa
open Go.RowKit Wo Pu Lg

theorem apO_is (s : ByteArray) (y : Int) (r : ByteArray) : ∃ t z b, apO s y r = .tuple #[.agg #[.string t, .int .i64 z], .bool b] ∧
    (b = true → (Vd s y ∧ (1 ≤ r.size ∧ r.size ≤ 12) ∧ s.size + r.size + 2 ≤ 120) ∧ t = s ++ frameB r ∧ z = y) ∧
    (b = false → ¬ (Vd s y ∧ (1 ≤ r.size ∧ r.size ≤ 12) ∧ s.size + r.size + 2 ≤ 120) ∧ (Vd s y → (1 ≤ r.size ∧ r.size ≤ 12) → t = s ∧ z = y)) := by
  unfold apO
  by_cases h : Vd s y ∧ 1 ≤ r.size ∧ r.size ≤ 12
  · rw [if_pos h]
    by_cases h9 : s.size + r.size + 2 ≤ 120
    · rw [if_pos h9]
      exact ⟨_, _, _, rfl, fun _ => ⟨⟨h.1, h.2, h9⟩, by rw [frameB_yes h.2], rfl⟩, (fun e => by cases e)⟩
    · rw [if_neg h9]
      exact ⟨_, _, _, rfl, (fun e => by cases e), fun _ => ⟨fun e => h9 e.2.2, fun _ _ => ⟨rfl, rfl⟩⟩⟩
  · rw [if_neg h]
    exact ⟨_, _, _, rfl, (fun e => by cases e), fun _ => ⟨fun e => h ⟨e.1, e.2.1⟩, fun e1 e2 => absurd ⟨e1, e2⟩ h⟩⟩
theorem Vd_app {s r : ByteArray} {y : Int} (h : Vd s y) (hf : 1 ≤ r.size ∧ r.size ≤ 12) (h9 : s.size + r.size + 2 ≤ 120) : Vd (s ++ frameB r) y := by
  obtain ⟨h1, h2, h3⟩ := h
  have e : (s ++ frameB r).size = s.size + (r.size + 2) := by rw [ByteArray.size_append, frameB_size hf]
  unfold Vd
  rw [e]
  omega
theorem crO_agg (s : ByteArray) (y k : Int) : ∃ t z, crO s y k = .agg #[.string t, .int .i64 z] := by
  unfold crO
  split
  · exact ⟨_, _, rfl⟩
  · exact ⟨_, _, rfl⟩
theorem cut_cut (s : ByteArray) {u n : Nat} (h : u ≤ n) : (s.extract 0 n).extract 0 u = s.extract 0 u := by
  apply bl_inj
  rw [bl_cut, bl_cut, bl_cut, List.take_take, Nat.min_eq_left h]
theorem cut_all (s : ByteArray) {n : Nat} (h : s.size ≤ n) : s.extract 0 n = s := by
  apply bl_inj
  rw [bl_cut, List.take_of_length_le (by rw [bl_size]; exact h)]
/-- What a crash keeps: n bytes are looked at, u are kept. -/
theorem crO_is {s : ByteArray} {y k : Int} (h : Vd s y) (hk : 0 ≤ k) : ∃ n u, crN s y k = n ∧ n ≤ s.size ∧ u ≤ n ∧ used (bl (s.extract 0 n)) = u ∧ crO s y k = .agg #[.string (s.extract 0 u), .int .i64 (u : Nat)] := by
  refine ⟨_, _, rfl, crN_le s y k, ?_, rfl, ?_⟩
  · have := used_few (s.extract 0 (crN s y k))
    rw [ByteArray.size_extract] at this
    have := crN_le s y k
    omega
  · unfold crO
    rw [if_pos ⟨h, hk⟩]
    rfl
theorem cr_texts (s : ByteArray) {n u : Nat} (hu : used (bl (s.extract 0 n)) = u) (h : u ≤ n) : texts (bl (s.extract 0 u)) = texts (bl (s.extract 0 n)) ∧ used (bl (s.extract 0 u)) = u := by
  have := again_scan (s.extract 0 n)
  rw [hu, cut_cut s h] at this
  exact this
theorem cr_size (s : ByteArray) {u : Nat} (h : u ≤ s.size) : (s.extract 0 u).size = u := by rw [ByteArray.size_extract]; omega
theorem cr_valid {s : ByteArray} {y : Int} (hv : Vd s y) {u : Nat} (h : u ≤ s.size) : Vd (s.extract 0 u) (u : Nat) := by
  have := hv.1
  unfold Vd
  rw [cr_size s h]
  omega
theorem part_texts (s : ByteArray) {m n : Nat} (h : m ≤ n) : ∃ j, j ≤ (texts (bl (s.extract 0 n))).length ∧ texts (bl (s.extract 0 m)) = (texts (bl (s.extract 0 n))).take j ∧ j = (texts (bl (s.extract 0 m))).length := by
  refine prefix_texts ?_
  rw [bl_cut, bl_cut]
  exact scan_take_take (bl s) h
/-- A crash of what a crash has kept. -/
theorem cr_again (s : ByteArray) {y k : Int} {u : Nat} (hu : used (bl (s.extract 0 u)) = u) (h : u ≤ s.size) (hv : Vd s y) (hk : 0 ≤ k) : crO (s.extract 0 u) (u : Nat) k = .agg #[.string (s.extract 0 u), .int .i64 (u : Nat)] := by
  obtain ⟨n, v, h1, h2, h3, h4, h5⟩ := crO_is (k := k) (cr_valid hv h) hk
  have hn : n = u := by
    rw [← h1]
    unfold crN
    rw [cr_size s h]
    omega
  subst hn
  rw [cut_cut s (Nat.le_refl _), hu] at h4
  subst h4
  rw [h5, cut_cut s (Nat.le_refl _)]
end Go.Proofs.Ytclonfhpabdpgaa
