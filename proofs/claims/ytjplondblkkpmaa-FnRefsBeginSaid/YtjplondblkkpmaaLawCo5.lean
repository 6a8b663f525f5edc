/-
  Walk of the law on a new transaction.
-/
import Derived.Test.YtjplondblkkpmaaLawCo4
namespace Go.Proofs.Ytjplondblkkpmaa
open Go.RowKit Wo Pu Rf Co

theorem Txs.pre {w : World} {B : Nat} {A : Option Addr} {ts us : List Tx} (h : Txs w B A (ts ++ us)) : Txs w B A ts := by
  rcases h with h | ⟨ad, e, hb, hh⟩
  · exact .inl (List.append_eq_nil_iff.1 h).1
  · refine .inr ⟨ad, e, hb, fun k hk => ?_⟩
    have := hh k (by rw [List.length_append]; omega)
    rw [List.getElem_append_left hk] at this
    exact this
theorem crd_caps {x : World} {B n m c k : Nat} {A A2 : Option Addr} {q : Crd} (h : Crdd x B (.agg #[.slice A n c, .slice A2 m k]) q) : n ≤ c ∧ m ≤ k := by
  obtain ⟨A', c', A3, c3, e, -, h1, -, h2⟩ := h
  unfold crV at e
  injection e with e
  have e := congrArg Array.toList e
  simp at e
  obtain ⟨⟨rfl, rfl, rfl⟩, rfl, rfl, rfl⟩ := e
  exact ⟨h1, h2⟩
theorem begun_yes {q x : Crd} {ps : List Part} (h : Begun q ps x true) : CV q ∧ PartsV ps ∧ q.ts.length < 12 ∧ x = newC q ps := by
  generalize hb : true = b at h
  cases h with
  | bad _ => cases hb
  | full _ _ _ => cases hb
  | yes h1 h2 h3 => exact ⟨h1, h2, h3, rfl⟩
end Go.Proofs.Ytjplondblkkpmaa
