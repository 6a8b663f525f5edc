/-
  Walk: a transaction after a vote, by the program.
-/
import Derived.Test.YtjplondblkkpmaaWaiI
namespace Go.Proofs.Ytjplondblkkpmaa
open Go.RowKit Wo Pu Rf Co

set_option linter.unusedVariables false in
/-- The votes after the first i parts. -/
def vsTo (t : Tx) (k : Nat) (y : Int) (i : Nat) : List Int := if k < i then t.vs.set k y else t.vs
set_option linter.unusedVariables false in
set_option linter.unusedSimpArgs false in
theorem vsTo_len (t : Tx) (k : Nat) (y : Int) (i : Nat) : (vsTo t k y i).length = t.vs.length := by unfold vsTo; split <;> simp
set_option linter.unusedVariables false in
/-- A transaction after a vote. -/
def votedTx (t : Tx) (k : Nat) (y : Int) : Tx := ⟨t.ps, t.vs.set k y, decOf ((t.vs.set k y).count (-1)) ((t.vs.set k y).count 0)⟩
set_option linter.unusedVariables false in
set_option linter.unusedSimpArgs false in
theorem no_tx {t : Tx} {k : Nat} (hk : k < t.vs.length) : votedTx t k (-1) = noTx t k := by
  unfold votedTx noTx decOf
  rw [if_pos (List.count_pos_iff.2 (List.mem_iff_getElem.2 ⟨k, by simpa using hk, by simp⟩))]
set_option linter.unusedVariables false in
set_option linter.unusedSimpArgs false in
theorem yes_tx {t : Tx} {k : Nat} (h : TxV t) (hd : t.d = 0) (hk : k < t.vs.length) : votedTx t k 1 = yesTx t k := by
  have hr : ∀ v ∈ t.vs.set k 1, -1 ≤ v ∧ v ≤ 1 := fun v hv => by
    rcases List.mem_or_eq_of_mem_set hv with h1 | h1
    · exact h.rng v h1
    · omega
  have hn : (t.vs.set k 1).count (-1) = 0 := by
    rw [List.count_eq_zero]
    intro hm
    rcases List.mem_or_eq_of_mem_set hm with h1 | h1
    · rcases h.dec with ⟨-, h2, -⟩ | ⟨h2, -⟩ | ⟨h2, -⟩
      · exact h2 h1
      · omega
      · omega
    · exact absurd h1 (by decide)
  have ha : (t.vs.set k 1).all (· == 1) = true ↔ (t.vs.set k 1).count 0 = 0 := by
    rw [List.count_eq_zero, List.all_eq_true]
    constructor
    · intro h1 hm
      have := h1 0 hm
      simp at this
    · intro h1 v hv
      have h2 := hr v hv
      have h3 : v ≠ -1 := fun e => by subst e; exact absurd (List.count_pos_iff.2 hv) (by omega)
      have h4 : v ≠ 0 := fun e => by subst e; exact h1 hv
      simp
      omega
  unfold votedTx yesTx decOf
  rw [hn, if_neg (by omega)]
  by_cases h0 : (t.vs.set k 1).count 0 = 0
  · rw [if_neg (by omega), if_pos (ha.2 h0)]
  · rw [if_pos (by omega), if_neg (fun e => h0 (ha.1 e))]
set_option linter.unusedVariables false in
set_option linter.unusedSimpArgs false in
/-- A vote in a list of the call's own. -/
theorem tx_vote {w : World} {B k : Nat} {a b : Value} {t : Tx} (h : TxOf (fun _ => 0) 0 w B a b t) (hk : k < t.vs.length) :
    ∃ g c, b = .slice (some ⟨g, 0, none⟩) t.vs.length c ∧ B ≤ g ∧ w.cell? ⟨g, k, none⟩ = some (.int .i64 t.vs[k]) ∧ w.frozen? ⟨g, k, none⟩ = false ∧ (∃ cs fr, w.heap[g]? = some (.cells cs 3 fr)) ∧
      ∀ y : Int, TxOf (fun _ => 0) 0 (w.setCell ⟨g, k, none⟩ (.int .i64 y)) B a b ⟨t.ps, t.vs.set k y, t.d⟩ := by
  obtain ⟨q3, q4, -⟩ := h
  have q4' := q4
  obtain ⟨g, c, rfl, hB, hlt⟩ := World.ownsRow.form q4 (by omega)
  refine ⟨g, c, rfl, hB, ?_, World.ownsRow.frozenAt q4 _, row_typed q4 g rfl, fun y => ?_⟩
  · rw [World.ownsRow.cellAt q4 k (by omega)]
    simp [ints, hk]
  · have st := (World.ownsRow.stored q4 k (.int .i64 y)).1
    have e3 : (ints t.vs).set k (.int .i64 y) = ints (t.vs.set k y) := by unfold ints; rw [List.map_set]
    rw [e3] at st
    refine ⟨q3.keptI (but_set w g k (.int .i64 y)) (row_typed q4), ?_, fun _ _ => rfl⟩
    unfold OwnI
    rw [List.length_set]
    exact st
set_option linter.unusedVariables false in
/-- What the loop over the parts holds. -/
def CpV (w : World) (g : Nat) (Ap : Option Addr) (cp : Nat) (Av : Option Addr) (cv : Nat) (t : Tx) (vs : List Int) (wr : World) : Prop :=
  Blk3s wr (w.heap.size + 1) 33 (.slice none 0 0) (.slice none 0 0) (.int .i64 0) ∧ Blk3s wr g 33 (.slice Ap t.ps.length cp) (.slice Av t.vs.length cv) (.int .i64 t.d) ∧ TxOf (fun _ => 0) 0 wr w.heap.size (.slice Ap t.ps.length cp) (.slice Av t.vs.length cv) ⟨t.ps, vs, t.d⟩ ∧ Below w.heap.size w wr
set_option linter.unusedVariables false in
set_option linter.unusedSimpArgs false in
theorem CpV.later {w wr w' : World} {g cp cv : Nat} {Ap Av : Option Addr} {t : Tx} {vs : List Int} (h : CpV w g Ap cp Av cv t vs wr) (d : Below wr.heap.size wr w') : CpV w g Ap cp Av cv t vs w' := by
  obtain ⟨h1, h2, h3, h4⟩ := h
  exact ⟨h1.later d, h2.later d, h3.below d, h4.trans (d.mono h4.size)⟩
end Go.Proofs.Ytjplondblkkpmaa
