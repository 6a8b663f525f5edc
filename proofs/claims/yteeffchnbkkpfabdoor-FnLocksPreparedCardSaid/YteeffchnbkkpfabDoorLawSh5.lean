/-
  Walks of laws on what a shard recovers.
-/
import Derived.Test.YteeffchnbkkpfabDoorShdI
import Derived.Test.YteeffchnbkkpfabDoorDrawSv
import Derived.Test.YteeffchnbkkpfabDoorG5C
import Derived.Test.YteeffchnbkkpfabDoorLawSh3
namespace Go.Proofs.YteeffchnbkkpfabDoor
open Go.RowKit Wo Pu Rf Lk Sh

theorem Rcvd.len {rs : List Rec} {s : St} {b : Bool} (h : Rcvd rs s b) : s.refs.length ≤ 4 ∧ s.locks.length ≤ 4 := by
  rcases h with ⟨-, h1, -⟩ | ⟨-, -, rfl⟩
  · have := (Rcv.four h1).len; omega
  · exact ⟨Nat.zero_le _, Nat.zero_le _⟩
end Go.Proofs.YteeffchnbkkpfabDoor
