/-
  Plain facts: states of a transaction at some shards, and the decision to which they lead.
-/
import Derived.Test.YtnojhfidljipoaaHasL
namespace Go.Proofs.Ytnojhfidljipoaa
open Go.RowKit Wo Pu
set_option linter.unusedVariables false
set_option linter.unusedSimpArgs false

/-- States of one to three shards. -/
def StV (zs : List Int) : Prop := (∀ z ∈ zs, 0 ≤ z ∧ z ≤ 3) ∧ 1 ≤ zs.length ∧ zs.length ≤ 3
/-- A shard has aborted, or has not voted. -/
def StN (zs : List Int) : Prop := 3 ∈ zs ∨ 0 ∈ zs
/-- States that agree. -/
def StA (zs : List Int) : Prop := StV zs ∧ ¬ (2 ∈ zs ∧ StN zs)
/-- The decision. -/
def StD (zs : List Int) (d : Int) : Prop := (StA zs ∧ 2 ∈ zs ∧ d = 2) ∨ (StA zs ∧ 2 ∉ zs ∧ StN zs ∧ d = 3) ∨ (StA zs ∧ 2 ∉ zs ∧ ¬ StN zs ∧ d = 0) ∨ (¬ StA zs ∧ d = 0)
theorem stD_ex (zs : List Int) : ∃ d, StD zs d := by
  by_cases ha : StA zs
  · by_cases h2 : 2 ∈ zs
    · exact ⟨2, .inl ⟨ha, h2, rfl⟩⟩
    · by_cases hn : StN zs
      · exact ⟨3, .inr (.inl ⟨ha, h2, hn, rfl⟩)⟩
      · exact ⟨0, .inr (.inr (.inl ⟨ha, h2, hn, rfl⟩))⟩
  · exact ⟨0, .inr (.inr (.inr ⟨ha, rfl⟩))⟩
theorem StD.cases_ {zs : List Int} {d : Int} (h : StD zs d) : d = 2 ∨ d = 3 ∨ d = 0 := by
  rcases h with ⟨_, _, h⟩ | ⟨_, _, _, h⟩ | ⟨_, _, _, h⟩ | ⟨_, h⟩ <;> omega
theorem StD.com {zs : List Int} {d : Int} (h : StD zs d) (ha : StA zs) (h2 : 2 ∈ zs) : d = 2 := by
  rcases h with ⟨_, _, h⟩ | ⟨_, h, _, _⟩ | ⟨_, h, _, _⟩ | ⟨h, _⟩
  · exact h
  · exact absurd h2 h
  · exact absurd h2 h
  · exact absurd ha h
theorem StD.abo {zs : List Int} {d : Int} (h : StD zs d) (ha : StA zs) (h2 : 2 ∉ zs) (hn : StN zs) : d = 3 := by
  rcases h with ⟨_, h, _⟩ | ⟨_, _, _, h⟩ | ⟨_, _, h, _⟩ | ⟨h, _⟩
  · exact absurd h h2
  · exact h
  · exact absurd hn h
  · exact absurd ha h
theorem StD.blk {zs : List Int} {d : Int} (h : StD zs d) (ha : StA zs) (h2 : 2 ∉ zs) (hn : ¬ StN zs) : d = 0 := by
  rcases h with ⟨_, h, _⟩ | ⟨_, _, h, _⟩ | ⟨_, _, _, h⟩ | ⟨_, h⟩
  · exact absurd h h2
  · exact absurd h hn
  · exact h
  · exact h
theorem StD.bad {zs : List Int} {d : Int} (h : StD zs d) (ha : ¬ StA zs) : d = 0 := by
  rcases h with ⟨h, _⟩ | ⟨h, _⟩ | ⟨h, _⟩ | ⟨_, h⟩
  · exact absurd h ha
  · exact absurd h ha
  · exact absurd h ha
  · exact h
theorem StD.agrees {zs : List Int} {d : Int} (h : StD zs d) (hd : d ≠ 0) : StA zs := by
  rcases h with ⟨h, _⟩ | ⟨h, _⟩ | ⟨h, _⟩ | ⟨_, h⟩
  · exact h
  · exact h
  · exact h
  · exact absurd h hd
theorem StD.is2 {zs : List Int} {d : Int} (h : StD zs d) (hd : d = 2) : 2 ∈ zs := by
  rcases h with ⟨_, h, _⟩ | ⟨_, _, _, h⟩ | ⟨_, _, _, h⟩ | ⟨_, h⟩
  · exact h
  · omega
  · omega
  · omega
theorem StD.is3 {zs : List Int} {d : Int} (h : StD zs d) (hd : d = 3) : StN zs := by
  rcases h with ⟨_, _, h⟩ | ⟨_, _, h, _⟩ | ⟨_, _, _, h⟩ | ⟨_, h⟩
  · omega
  · exact h
  · omega
  · omega
/-- Further states that agree with a decision do not change it. -/
theorem StD.more {zs : List Int} {d x d' : Int} (h : StD zs d) (hd : d ≠ 0) (k : StD (zs ++ [x]) d') (ha : StA (zs ++ [x])) : d' = d := by
  rcases h.cases_ with e | e | e
  · rw [e]
    exact k.com ha (List.mem_append_left _ (h.is2 e))
  · rw [e]
    have hn : StN (zs ++ [x]) := by
      rcases h.is3 e with m | m
      · exact .inl (List.mem_append_left _ m)
      · exact .inr (List.mem_append_left _ m)
    exact k.abo ha (fun h2 => ha.2 ⟨h2, hn⟩) hn
  · exact absurd e hd
theorem stN_rev {zs : List Int} : StN zs.reverse ↔ StN zs := by simp [StN]
theorem stA_rev {zs : List Int} : StA zs.reverse ↔ StA zs := by simp [StA, StV, StN]
/-- Valid states up to a place. -/
def VTo (zs : List Int) (k : Nat) : Prop := ∀ z ∈ zs.take k, 0 ≤ z ∧ z ≤ 3
theorem VTo.zero (zs : List Int) : VTo zs 0 := by unfold VTo; simp
theorem VTo.next {zs : List Int} {k : Nat} (h : VTo zs k) (hk : k < zs.length) (hv : 0 ≤ zs[k] ∧ zs[k] ≤ 3) : VTo zs (k + 1) := by
  unfold VTo at *
  rw [List.take_succ_eq_append_getElem hk]
  intro z hm
  rcases List.mem_append.1 hm with hm | hm
  · exact h z hm
  · rw [List.mem_singleton.1 hm]; exact hv
theorem VTo.all {zs : List Int} (h : VTo zs zs.length) : ∀ z ∈ zs, 0 ≤ z ∧ z ≤ 3 := by unfold VTo at h; rwa [List.take_length] at h
theorem stD_of (d : Int) (zs : List Int) (a c n : Bool) (ha : a = true ↔ StA zs) (hc : c = true ↔ 2 ∈ zs) (hn : n = true ↔ StN zs) (h : StD zs d) : d = if a then (if c then 2 else if n then 3 else 0) else 0 := by
  cases a with
  | false => exact h.bad (fun e => by simpa using ha.2 e)
  | true =>
    cases c with
    | true => exact h.com (ha.1 rfl) (hc.1 rfl)
    | false =>
      have h2 : 2 ∉ zs := fun e => by simpa using hc.2 e
      cases n with
      | true => exact h.abo (ha.1 rfl) h2 (hn.1 rfl)
      | false => exact h.blk (ha.1 rfl) h2 (fun e => by simpa using hn.2 e)
theorem stA_of (b : Bool) (zs : List Int) (v c n : Bool) (hb : b = true ↔ StA zs) (hv : v = true ↔ StV zs) (hc : c = true ↔ 2 ∈ zs) (hn : n = true ↔ StN zs) : b = (v && !(c && n)) := by
  rw [Bool.eq_iff_iff, hb]
  unfold StA
  rw [← hv, ← hc, ← hn]
  cases v <;> cases c <;> cases n <;> decide
theorem stN_of (n : Bool) (zs : List Int) (a b : Bool) (hn : n = true ↔ StN zs) (ha : a = true ↔ 3 ∈ zs) (hb : b = true ↔ 0 ∈ zs) : n = (a || b) := by
  rw [Bool.eq_iff_iff, hn]
  unfold StN
  rw [← ha, ← hb]
  cases a <;> cases b <;> decide
end Go.Proofs.Ytnojhfidljipoaa
