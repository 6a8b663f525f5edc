/-
  Walk: the shards that a transaction of a coordinator waits for, by the program.
-/
import Derived.Test.YtjplondblkkpmaaWaiI
import Derived.Test.YtjplondblkkpmaaValK
namespace Go.Proofs.Ytjplondblkkpmaa
open Go.RowKit Wo Pu Rf Co

set_option linter.unusedVariables false in
set_option linter.unusedSimpArgs false in
theorem crd_parts {x : World} {B n m c k : Nat} {A A2 : Option Addr} {q : Crd} (h : Crdd x B (.agg #[.slice A n c, .slice A2 m k]) q) : Txs x B A q.ts ∧ Row x B A2 (ints q.os) ∧ n = q.ts.length ∧ m = q.os.length := by
  obtain ⟨A', c', A3, c3, e, h1, -, h2, -⟩ := h
  unfold crV at e
  injection e with e
  have e := congrArg Array.toList e
  simp at e
  obtain ⟨⟨rfl, rfl, rfl⟩, rfl, rfl, rfl⟩ := e
  exact ⟨h1, h2, rfl, rfl⟩
set_option linter.unusedVariables false in
set_option linter.unusedSimpArgs false in
theorem waitsD_len (t : Tx) (h : t.vs.length = t.ps.length) : (waitsD t).length ≤ t.ps.length := by
  unfold waitsD
  by_cases hd : t.d = 0
  · rw [if_pos hd, ← waitsTo_all h]
    exact waitsTo_len t t.ps.length
  · rw [if_neg hd]; simp
end Go.Proofs.Ytjplondblkkpmaa
