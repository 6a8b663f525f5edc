/-
  Walks of laws on what a shard recovers.
-/
import Derived.Test.YthmnaljncapmeaaDoorShdI
import Derived.Test.YthmnaljncapmeaaDoorDrawSv
import Derived.Test.YthmnaljncapmeaaDoorG2C
import Derived.Test.YthmnaljncapmeaaDoorLawSh3
namespace Go.Proofs.YthmnaljncapmeaaDoor
open Go.RowKit Wo Pu Rf Lk Sh

theorem Rcvd.len {rs : List Rec} {s : St} {b : Bool} (h : Rcvd rs s b) : s.refs.length ≤ 4 ∧ s.locks.length ≤ 4 := by
  rcases h with ⟨-, h1, -⟩ | ⟨-, -, rfl⟩
  · have := (Rcv.four h1).len; omega
  · exact ⟨Nat.zero_le _, Nat.zero_le _⟩
end Go.Proofs.YthmnaljncapmeaaDoor
