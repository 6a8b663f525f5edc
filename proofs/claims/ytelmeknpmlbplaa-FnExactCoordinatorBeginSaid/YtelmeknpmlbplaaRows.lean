/-
  No cell of these rows narrows 'for every input' (looked for: loops, veiled, ifaces, maps, wideKeys, modest, calm, conditions, laid).
  DERIVED. THE GIVEN ROWS OF THIS SEAT. 11 by the template 'for every input the law returns true; each argument reads behind the call as it read before'; 0 by the template 'total and deterministic' (their statements: YtelmeknpmlbplaaTotals.lean).
  GIVEN WITH THE SEED: the statements are not yours to turn. If you find one false, say at which input.
  Laid BY PROGRAM, IN A SANDBOX (cutbox-rows.mjs): the forced cells as the released guide's own fill.sh prints them over the translation 5ac1e69c0e35ebaa… (all of the seat's roots in one cut). By AI agents, Wed Nov 11 2026. No macro, syntax, notation, axiom, sorry.
-/
import Derived.Test.YtelmeknpmlbplaaChecked
import GoSem.Claim
import GoSem.ClaimJoined
import GoSem.ClaimMapViews
import Derived.JoinedTies
import Derived.KernelRfl
namespace Go.Proofs.Ytelmeknpmlbplaa
/- THE CELL 'sum', in the pinned program and in every row, IS THE sha256 OF THE DUMP (.gsa) THAT YtelmeknpmlbplaaProg.lean LOADS. Nothing in Lean hashes anything: it is a label: what it is worth is what the hold of that sum in a sandbox is worth. -/
noncomputable def Try.pinned : Pinned := { name := "ytelmeknpmlbplaa", sum := "5ac1e69c0e35ebaab9bdcd1814956b70d8df5327bbc7e3e3f076bae47b44d8d0", checked := Try.checked }
namespace Rows
def none {H : Type} : Left H := { results := [], args := [] }

/-- 'laws.FnRefsNext': WHATEVER THE INPUT: true; the input reads as it did. -/
def fnRefsNextSpec : ChangeSpec := { name := "fnRefsNext", fn := fun _ => fun
  | [d] => { results := [.lit (.bool true)], args := [d] }
  | _ => none }
def fnRefsNextRow : OpenClaim := { program := "ytelmeknpmlbplaa", sum := "5ac1e69c0e35ebaab9bdcd1814956b70d8df5327bbc7e3e3f076bae47b44d8d0", func := "loop.example/atomicpush/laws.FnRefsNext", spec := "fnRefsNext", apart := false }
def FnRefsNextSaid : Prop := fnRefsNextRow.holds Try.pinned (OpenSpec.ofChange fnRefsNextSpec)

/-- ITS FALSE NEIGHBOUR: 'it returns false'. Refute it at one input. -/
def fnRefsNextWrong : ChangeSpec := { name := "fnRefsNext", fn := fun _ => fun
  | [d] => { results := [.lit (.bool false)], args := [d] }
  | _ => none }
def FnRefsNextWrongFalsely : Prop := fnRefsNextRow.holds Try.pinned (OpenSpec.ofChange fnRefsNextWrong)

/-- 'laws.FnRefsBegin': WHATEVER THE INPUT: true; the input reads as it did. -/
def fnRefsBeginSpec : ChangeSpec := { name := "fnRefsBegin", fn := fun _ => fun
  | [d] => { results := [.lit (.bool true)], args := [d] }
  | _ => none }
def fnRefsBeginRow : OpenClaim := { program := "ytelmeknpmlbplaa", sum := "5ac1e69c0e35ebaab9bdcd1814956b70d8df5327bbc7e3e3f076bae47b44d8d0", func := "loop.example/atomicpush/laws.FnRefsBegin", spec := "fnRefsBegin", apart := false }
def FnRefsBeginSaid : Prop := fnRefsBeginRow.holds Try.pinned (OpenSpec.ofChange fnRefsBeginSpec)

/-- ITS FALSE NEIGHBOUR: 'it returns false'. Refute it at one input. -/
def fnRefsBeginWrong : ChangeSpec := { name := "fnRefsBegin", fn := fun _ => fun
  | [d] => { results := [.lit (.bool false)], args := [d] }
  | _ => none }
def FnRefsBeginWrongFalsely : Prop := fnRefsBeginRow.holds Try.pinned (OpenSpec.ofChange fnRefsBeginWrong)

/-- 'laws.FnWaitsNone': WHATEVER THE INPUT: true; the input reads as it did. -/
def fnWaitsNoneSpec : ChangeSpec := { name := "fnWaitsNone", fn := fun _ => fun
  | [d] => { results := [.lit (.bool true)], args := [d] }
  | _ => none }
def fnWaitsNoneRow : OpenClaim := { program := "ytelmeknpmlbplaa", sum := "5ac1e69c0e35ebaab9bdcd1814956b70d8df5327bbc7e3e3f076bae47b44d8d0", func := "loop.example/atomicpush/laws.FnWaitsNone", spec := "fnWaitsNone", apart := false }
def FnWaitsNoneSaid : Prop := fnWaitsNoneRow.holds Try.pinned (OpenSpec.ofChange fnWaitsNoneSpec)

/-- ITS FALSE NEIGHBOUR: 'it returns false'. Refute it at one input. -/
def fnWaitsNoneWrong : ChangeSpec := { name := "fnWaitsNone", fn := fun _ => fun
  | [d] => { results := [.lit (.bool false)], args := [d] }
  | _ => none }
def FnWaitsNoneWrongFalsely : Prop := fnWaitsNoneRow.holds Try.pinned (OpenSpec.ofChange fnWaitsNoneWrong)

/-- 'laws.FnVoteOrder': WHATEVER THE INPUT: true; the input reads as it did. -/
def fnVoteOrderSpec : ChangeSpec := { name := "fnVoteOrder", fn := fun _ => fun
  | [d1, d2] => { results := [.lit (.bool true)], args := [d1, d2] }
  | _ => none }
def fnVoteOrderRow : OpenClaim := { program := "ytelmeknpmlbplaa", sum := "5ac1e69c0e35ebaab9bdcd1814956b70d8df5327bbc7e3e3f076bae47b44d8d0", func := "loop.example/atomicpush/laws.FnVoteOrder", spec := "fnVoteOrder", apart := false }
def FnVoteOrderSaid : Prop := fnVoteOrderRow.holds Try.pinned (OpenSpec.ofChange fnVoteOrderSpec)

/-- ITS FALSE NEIGHBOUR: 'it returns false'. Refute it at one input. -/
def fnVoteOrderWrong : ChangeSpec := { name := "fnVoteOrder", fn := fun _ => fun
  | [d1, d2] => { results := [.lit (.bool false)], args := [d1, d2] }
  | _ => none }
def FnVoteOrderWrongFalsely : Prop := fnVoteOrderRow.holds Try.pinned (OpenSpec.ofChange fnVoteOrderWrong)

/-- 'laws.FnBeginNumber': WHATEVER THE INPUT: true; the input reads as it did. -/
def fnBeginNumberSpec : ChangeSpec := { name := "fnBeginNumber", fn := fun _ => fun
  | [d] => { results := [.lit (.bool true)], args := [d] }
  | _ => none }
def fnBeginNumberRow : OpenClaim := { program := "ytelmeknpmlbplaa", sum := "5ac1e69c0e35ebaab9bdcd1814956b70d8df5327bbc7e3e3f076bae47b44d8d0", func := "loop.example/atomicpush/laws.FnBeginNumber", spec := "fnBeginNumber", apart := false }
def FnBeginNumberSaid : Prop := fnBeginNumberRow.holds Try.pinned (OpenSpec.ofChange fnBeginNumberSpec)

/-- ITS FALSE NEIGHBOUR: 'it returns false'. Refute it at one input. -/
def fnBeginNumberWrong : ChangeSpec := { name := "fnBeginNumber", fn := fun _ => fun
  | [d] => { results := [.lit (.bool false)], args := [d] }
  | _ => none }
def FnBeginNumberWrongFalsely : Prop := fnBeginNumberRow.holds Try.pinned (OpenSpec.ofChange fnBeginNumberWrong)

/-- 'laws.FnExactCoordinatorValid': WHATEVER THE INPUT: true; the input reads as it did. -/
def fnExactCoordinatorValidSpec : ChangeSpec := { name := "fnExactCoordinatorValid", fn := fun _ => fun
  | [d] => { results := [.lit (.bool true)], args := [d] }
  | _ => none }
def fnExactCoordinatorValidRow : OpenClaim := { program := "ytelmeknpmlbplaa", sum := "5ac1e69c0e35ebaab9bdcd1814956b70d8df5327bbc7e3e3f076bae47b44d8d0", func := "loop.example/atomicpush/laws.FnExactCoordinatorValid", spec := "fnExactCoordinatorValid", apart := false }
def FnExactCoordinatorValidSaid : Prop := fnExactCoordinatorValidRow.holds Try.pinned (OpenSpec.ofChange fnExactCoordinatorValidSpec)

/-- ITS FALSE NEIGHBOUR: 'it returns false'. Refute it at one input. -/
def fnExactCoordinatorValidWrong : ChangeSpec := { name := "fnExactCoordinatorValid", fn := fun _ => fun
  | [d] => { results := [.lit (.bool false)], args := [d] }
  | _ => none }
def FnExactCoordinatorValidWrongFalsely : Prop := fnExactCoordinatorValidRow.holds Try.pinned (OpenSpec.ofChange fnExactCoordinatorValidWrong)

/-- 'laws.FnExactCoordinatorBegin': WHATEVER THE INPUT: true; the input reads as it did. -/
def fnExactCoordinatorBeginSpec : ChangeSpec := { name := "fnExactCoordinatorBegin", fn := fun _ => fun
  | [d1, d2] => { results := [.lit (.bool true)], args := [d1, d2] }
  | _ => none }
def fnExactCoordinatorBeginRow : OpenClaim := { program := "ytelmeknpmlbplaa", sum := "5ac1e69c0e35ebaab9bdcd1814956b70d8df5327bbc7e3e3f076bae47b44d8d0", func := "loop.example/atomicpush/laws.FnExactCoordinatorBegin", spec := "fnExactCoordinatorBegin", apart := false }
def FnExactCoordinatorBeginSaid : Prop := fnExactCoordinatorBeginRow.holds Try.pinned (OpenSpec.ofChange fnExactCoordinatorBeginSpec)

/-- ITS FALSE NEIGHBOUR: 'it returns false'. Refute it at one input. -/
def fnExactCoordinatorBeginWrong : ChangeSpec := { name := "fnExactCoordinatorBegin", fn := fun _ => fun
  | [d1, d2] => { results := [.lit (.bool false)], args := [d1, d2] }
  | _ => none }
def FnExactCoordinatorBeginWrongFalsely : Prop := fnExactCoordinatorBeginRow.holds Try.pinned (OpenSpec.ofChange fnExactCoordinatorBeginWrong)

/-- 'laws.FnExactCoordinatorVote': WHATEVER THE INPUT: true; the input reads as it did. -/
def fnExactCoordinatorVoteSpec : ChangeSpec := { name := "fnExactCoordinatorVote", fn := fun _ => fun
  | [d1, d2, d3, d4] => { results := [.lit (.bool true)], args := [d1, d2, d3, d4] }
  | _ => none }
def fnExactCoordinatorVoteRow : OpenClaim := { program := "ytelmeknpmlbplaa", sum := "5ac1e69c0e35ebaab9bdcd1814956b70d8df5327bbc7e3e3f076bae47b44d8d0", func := "loop.example/atomicpush/laws.FnExactCoordinatorVote", spec := "fnExactCoordinatorVote", apart := false }
def FnExactCoordinatorVoteSaid : Prop := fnExactCoordinatorVoteRow.holds Try.pinned (OpenSpec.ofChange fnExactCoordinatorVoteSpec)

/-- ITS FALSE NEIGHBOUR: 'it returns false'. Refute it at one input. -/
def fnExactCoordinatorVoteWrong : ChangeSpec := { name := "fnExactCoordinatorVote", fn := fun _ => fun
  | [d1, d2, d3, d4] => { results := [.lit (.bool false)], args := [d1, d2, d3, d4] }
  | _ => none }
def FnExactCoordinatorVoteWrongFalsely : Prop := fnExactCoordinatorVoteRow.holds Try.pinned (OpenSpec.ofChange fnExactCoordinatorVoteWrong)

/-- 'laws.FnExactCoordinatorTimeout': WHATEVER THE INPUT: true; the input reads as it did. -/
def fnExactCoordinatorTimeoutSpec : ChangeSpec := { name := "fnExactCoordinatorTimeout", fn := fun _ => fun
  | [d1, d2] => { results := [.lit (.bool true)], args := [d1, d2] }
  | _ => none }
def fnExactCoordinatorTimeoutRow : OpenClaim := { program := "ytelmeknpmlbplaa", sum := "5ac1e69c0e35ebaab9bdcd1814956b70d8df5327bbc7e3e3f076bae47b44d8d0", func := "loop.example/atomicpush/laws.FnExactCoordinatorTimeout", spec := "fnExactCoordinatorTimeout", apart := false }
def FnExactCoordinatorTimeoutSaid : Prop := fnExactCoordinatorTimeoutRow.holds Try.pinned (OpenSpec.ofChange fnExactCoordinatorTimeoutSpec)

/-- ITS FALSE NEIGHBOUR: 'it returns false'. Refute it at one input. -/
def fnExactCoordinatorTimeoutWrong : ChangeSpec := { name := "fnExactCoordinatorTimeout", fn := fun _ => fun
  | [d1, d2] => { results := [.lit (.bool false)], args := [d1, d2] }
  | _ => none }
def FnExactCoordinatorTimeoutWrongFalsely : Prop := fnExactCoordinatorTimeoutRow.holds Try.pinned (OpenSpec.ofChange fnExactCoordinatorTimeoutWrong)

/-- 'laws.FnExactCoordinatorWaits': WHATEVER THE INPUT: true; the input reads as it did. -/
def fnExactCoordinatorWaitsSpec : ChangeSpec := { name := "fnExactCoordinatorWaits", fn := fun _ => fun
  | [d1, d2] => { results := [.lit (.bool true)], args := [d1, d2] }
  | _ => none }
def fnExactCoordinatorWaitsRow : OpenClaim := { program := "ytelmeknpmlbplaa", sum := "5ac1e69c0e35ebaab9bdcd1814956b70d8df5327bbc7e3e3f076bae47b44d8d0", func := "loop.example/atomicpush/laws.FnExactCoordinatorWaits", spec := "fnExactCoordinatorWaits", apart := false }
def FnExactCoordinatorWaitsSaid : Prop := fnExactCoordinatorWaitsRow.holds Try.pinned (OpenSpec.ofChange fnExactCoordinatorWaitsSpec)

/-- ITS FALSE NEIGHBOUR: 'it returns false'. Refute it at one input. -/
def fnExactCoordinatorWaitsWrong : ChangeSpec := { name := "fnExactCoordinatorWaits", fn := fun _ => fun
  | [d1, d2] => { results := [.lit (.bool false)], args := [d1, d2] }
  | _ => none }
def FnExactCoordinatorWaitsWrongFalsely : Prop := fnExactCoordinatorWaitsRow.holds Try.pinned (OpenSpec.ofChange fnExactCoordinatorWaitsWrong)

/-- 'laws.FnExactCoordinatorRefs': WHATEVER THE INPUT: true; the input reads as it did. -/
def fnExactCoordinatorRefsSpec : ChangeSpec := { name := "fnExactCoordinatorRefs", fn := fun _ => fun
  | [d1, d2, d3] => { results := [.lit (.bool true)], args := [d1, d2, d3] }
  | _ => none }
def fnExactCoordinatorRefsRow : OpenClaim := { program := "ytelmeknpmlbplaa", sum := "5ac1e69c0e35ebaab9bdcd1814956b70d8df5327bbc7e3e3f076bae47b44d8d0", func := "loop.example/atomicpush/laws.FnExactCoordinatorRefs", spec := "fnExactCoordinatorRefs", apart := false }
def FnExactCoordinatorRefsSaid : Prop := fnExactCoordinatorRefsRow.holds Try.pinned (OpenSpec.ofChange fnExactCoordinatorRefsSpec)

/-- ITS FALSE NEIGHBOUR: 'it returns false'. Refute it at one input. -/
def fnExactCoordinatorRefsWrong : ChangeSpec := { name := "fnExactCoordinatorRefs", fn := fun _ => fun
  | [d1, d2, d3] => { results := [.lit (.bool false)], args := [d1, d2, d3] }
  | _ => none }
def FnExactCoordinatorRefsWrongFalsely : Prop := fnExactCoordinatorRefsRow.holds Try.pinned (OpenSpec.ofChange fnExactCoordinatorRefsWrong)

/- THE SECOND FORM. 'bulk': how many values and letters a reading holds, each counted each time it is reached (what is shared counts as often as it is met; a slice's spare places count too). A statement '..UptoSaid' is the law's where the arguments, and the package variables that the reading takes, are together of bulk at most 1048576: NARROWER than '..Said'. Prove '..Said' where nothing that the law and all that it calls make is longer than what came in: it says more and counts as full. Else prove '..UptoSaid'. A law counts once. -/
mutual
def uptoBulk {H : Type} : DataW H → Nat
  | .lit (.string bytes) => bytes.length + 1
  | .lit _ => 1
  | .nil => 1
  | .ptr d => uptoBulk d + 1
  | .slice elems spare => uptoBulkAll elems + uptoBulkAll spare + 1
  | .agg parts => uptoBulkAll parts + 1
  | .iface _ d => uptoBulk d + 1
  | .map entries => uptoBulkEntries entries + 1
  | .held _ => 1
def uptoBulkAll {H : Type} : List (DataW H) → Nat
  | [] => 0
  | d :: r => uptoBulk d + uptoBulkAll r
def uptoBulkEntries {H : Type} : List (Lit × DataW H) → Nat
  | [] => 0
  | x :: r => uptoBulkEntry x + uptoBulkEntries r
def uptoBulkEntry {H : Type} : Lit × DataW H → Nat
  | (.string bytes, d) => bytes.length + uptoBulk d + 1
  | (_, d) => uptoBulk d + 1
 end
def uptoSmall : (H : Type) → List (DataW H) → Bool := fun _ ds => decide (uptoBulkAll ds ≤ 1048576)
def OpenSpec.upto (s : _root_.Go.ChangeSpec) : _root_.Go.OpenSpec := { _root_.Go.OpenSpec.ofChange s with cond := some uptoSmall }

/-- 'laws.FnRefsNext', WHERE WHAT IT READS IS OF BULK AT MOST 1048576: true; the input reads as it did. -/
def fnRefsNextUptoRow : OpenClaim := { program := "ytelmeknpmlbplaa", sum := "5ac1e69c0e35ebaab9bdcd1814956b70d8df5327bbc7e3e3f076bae47b44d8d0", func := "loop.example/atomicpush/laws.FnRefsNext", spec := "fnRefsNext", apart := false, narrowed := true }
def FnRefsNextUptoSaid : Prop := fnRefsNextUptoRow.holds Try.pinned (OpenSpec.upto fnRefsNextSpec)

/-- 'laws.FnRefsBegin', WHERE WHAT IT READS IS OF BULK AT MOST 1048576: true; the input reads as it did. -/
def fnRefsBeginUptoRow : OpenClaim := { program := "ytelmeknpmlbplaa", sum := "5ac1e69c0e35ebaab9bdcd1814956b70d8df5327bbc7e3e3f076bae47b44d8d0", func := "loop.example/atomicpush/laws.FnRefsBegin", spec := "fnRefsBegin", apart := false, narrowed := true }
def FnRefsBeginUptoSaid : Prop := fnRefsBeginUptoRow.holds Try.pinned (OpenSpec.upto fnRefsBeginSpec)

/-- 'laws.FnWaitsNone', WHERE WHAT IT READS IS OF BULK AT MOST 1048576: true; the input reads as it did. -/
def fnWaitsNoneUptoRow : OpenClaim := { program := "ytelmeknpmlbplaa", sum := "5ac1e69c0e35ebaab9bdcd1814956b70d8df5327bbc7e3e3f076bae47b44d8d0", func := "loop.example/atomicpush/laws.FnWaitsNone", spec := "fnWaitsNone", apart := false, narrowed := true }
def FnWaitsNoneUptoSaid : Prop := fnWaitsNoneUptoRow.holds Try.pinned (OpenSpec.upto fnWaitsNoneSpec)

/-- 'laws.FnVoteOrder', WHERE WHAT IT READS IS OF BULK AT MOST 1048576: true; the input reads as it did. -/
def fnVoteOrderUptoRow : OpenClaim := { program := "ytelmeknpmlbplaa", sum := "5ac1e69c0e35ebaab9bdcd1814956b70d8df5327bbc7e3e3f076bae47b44d8d0", func := "loop.example/atomicpush/laws.FnVoteOrder", spec := "fnVoteOrder", apart := false, narrowed := true }
def FnVoteOrderUptoSaid : Prop := fnVoteOrderUptoRow.holds Try.pinned (OpenSpec.upto fnVoteOrderSpec)

/-- 'laws.FnBeginNumber', WHERE WHAT IT READS IS OF BULK AT MOST 1048576: true; the input reads as it did. -/
def fnBeginNumberUptoRow : OpenClaim := { program := "ytelmeknpmlbplaa", sum := "5ac1e69c0e35ebaab9bdcd1814956b70d8df5327bbc7e3e3f076bae47b44d8d0", func := "loop.example/atomicpush/laws.FnBeginNumber", spec := "fnBeginNumber", apart := false, narrowed := true }
def FnBeginNumberUptoSaid : Prop := fnBeginNumberUptoRow.holds Try.pinned (OpenSpec.upto fnBeginNumberSpec)

/-- 'laws.FnExactCoordinatorValid', WHERE WHAT IT READS IS OF BULK AT MOST 1048576: true; the input reads as it did. -/
def fnExactCoordinatorValidUptoRow : OpenClaim := { program := "ytelmeknpmlbplaa", sum := "5ac1e69c0e35ebaab9bdcd1814956b70d8df5327bbc7e3e3f076bae47b44d8d0", func := "loop.example/atomicpush/laws.FnExactCoordinatorValid", spec := "fnExactCoordinatorValid", apart := false, narrowed := true }
def FnExactCoordinatorValidUptoSaid : Prop := fnExactCoordinatorValidUptoRow.holds Try.pinned (OpenSpec.upto fnExactCoordinatorValidSpec)

/-- 'laws.FnExactCoordinatorBegin', WHERE WHAT IT READS IS OF BULK AT MOST 1048576: true; the input reads as it did. -/
def fnExactCoordinatorBeginUptoRow : OpenClaim := { program := "ytelmeknpmlbplaa", sum := "5ac1e69c0e35ebaab9bdcd1814956b70d8df5327bbc7e3e3f076bae47b44d8d0", func := "loop.example/atomicpush/laws.FnExactCoordinatorBegin", spec := "fnExactCoordinatorBegin", apart := false, narrowed := true }
def FnExactCoordinatorBeginUptoSaid : Prop := fnExactCoordinatorBeginUptoRow.holds Try.pinned (OpenSpec.upto fnExactCoordinatorBeginSpec)

/-- 'laws.FnExactCoordinatorVote', WHERE WHAT IT READS IS OF BULK AT MOST 1048576: true; the input reads as it did. -/
def fnExactCoordinatorVoteUptoRow : OpenClaim := { program := "ytelmeknpmlbplaa", sum := "5ac1e69c0e35ebaab9bdcd1814956b70d8df5327bbc7e3e3f076bae47b44d8d0", func := "loop.example/atomicpush/laws.FnExactCoordinatorVote", spec := "fnExactCoordinatorVote", apart := false, narrowed := true }
def FnExactCoordinatorVoteUptoSaid : Prop := fnExactCoordinatorVoteUptoRow.holds Try.pinned (OpenSpec.upto fnExactCoordinatorVoteSpec)

/-- 'laws.FnExactCoordinatorTimeout', WHERE WHAT IT READS IS OF BULK AT MOST 1048576: true; the input reads as it did. -/
def fnExactCoordinatorTimeoutUptoRow : OpenClaim := { program := "ytelmeknpmlbplaa", sum := "5ac1e69c0e35ebaab9bdcd1814956b70d8df5327bbc7e3e3f076bae47b44d8d0", func := "loop.example/atomicpush/laws.FnExactCoordinatorTimeout", spec := "fnExactCoordinatorTimeout", apart := false, narrowed := true }
def FnExactCoordinatorTimeoutUptoSaid : Prop := fnExactCoordinatorTimeoutUptoRow.holds Try.pinned (OpenSpec.upto fnExactCoordinatorTimeoutSpec)

/-- 'laws.FnExactCoordinatorWaits', WHERE WHAT IT READS IS OF BULK AT MOST 1048576: true; the input reads as it did. -/
def fnExactCoordinatorWaitsUptoRow : OpenClaim := { program := "ytelmeknpmlbplaa", sum := "5ac1e69c0e35ebaab9bdcd1814956b70d8df5327bbc7e3e3f076bae47b44d8d0", func := "loop.example/atomicpush/laws.FnExactCoordinatorWaits", spec := "fnExactCoordinatorWaits", apart := false, narrowed := true }
def FnExactCoordinatorWaitsUptoSaid : Prop := fnExactCoordinatorWaitsUptoRow.holds Try.pinned (OpenSpec.upto fnExactCoordinatorWaitsSpec)

/-- 'laws.FnExactCoordinatorRefs', WHERE WHAT IT READS IS OF BULK AT MOST 1048576: true; the input reads as it did. -/
def fnExactCoordinatorRefsUptoRow : OpenClaim := { program := "ytelmeknpmlbplaa", sum := "5ac1e69c0e35ebaab9bdcd1814956b70d8df5327bbc7e3e3f076bae47b44d8d0", func := "loop.example/atomicpush/laws.FnExactCoordinatorRefs", spec := "fnExactCoordinatorRefs", apart := false, narrowed := true }
def FnExactCoordinatorRefsUptoSaid : Prop := fnExactCoordinatorRefsUptoRow.holds Try.pinned (OpenSpec.upto fnExactCoordinatorRefsSpec)

end Rows
end Go.Proofs.Ytelmeknpmlbplaa
