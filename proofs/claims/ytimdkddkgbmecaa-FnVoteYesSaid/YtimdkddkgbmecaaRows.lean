/-
  No cell of these rows narrows 'for every input' (looked for: loops, veiled, ifaces, maps, wideKeys, modest, calm, conditions, laid).
  DERIVED. THE GIVEN ROWS OF THIS SEAT. 12 by the template 'for every input the law returns true; each argument reads behind the call as it read before'; 0 by the template 'total and deterministic' (their statements: YtimdkddkgbmecaaTotals.lean).
  GIVEN WITH THE SEED: the statements are not yours to turn. If you find one false, say at which input.
  Laid BY PROGRAM, IN A SANDBOX (cutbox-rows.mjs): the forced cells as the released guide's own fill.sh prints them over the translation eec150e713aba68c… (all of the seat's roots in one cut). By AI agents, Wed Nov 11 2026. No macro, syntax, notation, axiom, sorry.
-/
import Derived.Test.YtimdkddkgbmecaaChecked
import GoSem.Claim
import GoSem.ClaimJoined
import GoSem.ClaimMapViews
import Derived.JoinedTies
import Derived.KernelRfl
namespace Go.Proofs.Ytimdkddkgbmecaa
/- THE CELL 'sum', in the pinned program and in every row, IS THE sha256 OF THE DUMP (.gsa) THAT YtimdkddkgbmecaaProg.lean LOADS. Nothing in Lean hashes anything: it is a label: what it is worth is what the hold of that sum in a sandbox is worth. -/
noncomputable def Try.pinned : Pinned := { name := "ytimdkddkgbmecaa", sum := "eec150e713aba68c689bb5d1661ba9eaf0ca3e7e5c358192a2d7976765590219", checked := Try.checked }
namespace Rows
def none {H : Type} : Left H := { results := [], args := [] }

/-- 'laws.FnBegin': WHATEVER THE INPUT: true; the input reads as it did. -/
def fnBeginSpec : ChangeSpec := { name := "fnBegin", fn := fun _ => fun
  | [d] => { results := [.lit (.bool true)], args := [d] }
  | _ => none }
def fnBeginRow : OpenClaim := { program := "ytimdkddkgbmecaa", sum := "eec150e713aba68c689bb5d1661ba9eaf0ca3e7e5c358192a2d7976765590219", func := "loop.example/atomicpush/laws.FnBegin", spec := "fnBegin", apart := false }
def FnBeginSaid : Prop := fnBeginRow.holds Try.pinned (OpenSpec.ofChange fnBeginSpec)

/-- ITS FALSE NEIGHBOUR: 'it returns false'. Refute it at one input. -/
def fnBeginWrong : ChangeSpec := { name := "fnBegin", fn := fun _ => fun
  | [d] => { results := [.lit (.bool false)], args := [d] }
  | _ => none }
def FnBeginWrongFalsely : Prop := fnBeginRow.holds Try.pinned (OpenSpec.ofChange fnBeginWrong)

/-- 'laws.FnBeginFull': WHATEVER THE INPUT: true; the input reads as it did. -/
def fnBeginFullSpec : ChangeSpec := { name := "fnBeginFull", fn := fun _ => fun
  | [d] => { results := [.lit (.bool true)], args := [d] }
  | _ => none }
def fnBeginFullRow : OpenClaim := { program := "ytimdkddkgbmecaa", sum := "eec150e713aba68c689bb5d1661ba9eaf0ca3e7e5c358192a2d7976765590219", func := "loop.example/atomicpush/laws.FnBeginFull", spec := "fnBeginFull", apart := false }
def FnBeginFullSaid : Prop := fnBeginFullRow.holds Try.pinned (OpenSpec.ofChange fnBeginFullSpec)

/-- ITS FALSE NEIGHBOUR: 'it returns false'. Refute it at one input. -/
def fnBeginFullWrong : ChangeSpec := { name := "fnBeginFull", fn := fun _ => fun
  | [d] => { results := [.lit (.bool false)], args := [d] }
  | _ => none }
def FnBeginFullWrongFalsely : Prop := fnBeginFullRow.holds Try.pinned (OpenSpec.ofChange fnBeginFullWrong)

/-- 'laws.FnVoteYes': WHATEVER THE INPUT: true; the input reads as it did. -/
def fnVoteYesSpec : ChangeSpec := { name := "fnVoteYes", fn := fun _ => fun
  | [d] => { results := [.lit (.bool true)], args := [d] }
  | _ => none }
def fnVoteYesRow : OpenClaim := { program := "ytimdkddkgbmecaa", sum := "eec150e713aba68c689bb5d1661ba9eaf0ca3e7e5c358192a2d7976765590219", func := "loop.example/atomicpush/laws.FnVoteYes", spec := "fnVoteYes", apart := false }
def FnVoteYesSaid : Prop := fnVoteYesRow.holds Try.pinned (OpenSpec.ofChange fnVoteYesSpec)

/-- ITS FALSE NEIGHBOUR: 'it returns false'. Refute it at one input. -/
def fnVoteYesWrong : ChangeSpec := { name := "fnVoteYes", fn := fun _ => fun
  | [d] => { results := [.lit (.bool false)], args := [d] }
  | _ => none }
def FnVoteYesWrongFalsely : Prop := fnVoteYesRow.holds Try.pinned (OpenSpec.ofChange fnVoteYesWrong)

/-- 'laws.FnVoteNo': WHATEVER THE INPUT: true; the input reads as it did. -/
def fnVoteNoSpec : ChangeSpec := { name := "fnVoteNo", fn := fun _ => fun
  | [d] => { results := [.lit (.bool true)], args := [d] }
  | _ => none }
def fnVoteNoRow : OpenClaim := { program := "ytimdkddkgbmecaa", sum := "eec150e713aba68c689bb5d1661ba9eaf0ca3e7e5c358192a2d7976765590219", func := "loop.example/atomicpush/laws.FnVoteNo", spec := "fnVoteNo", apart := false }
def FnVoteNoSaid : Prop := fnVoteNoRow.holds Try.pinned (OpenSpec.ofChange fnVoteNoSpec)

/-- ITS FALSE NEIGHBOUR: 'it returns false'. Refute it at one input. -/
def fnVoteNoWrong : ChangeSpec := { name := "fnVoteNo", fn := fun _ => fun
  | [d] => { results := [.lit (.bool false)], args := [d] }
  | _ => none }
def FnVoteNoWrongFalsely : Prop := fnVoteNoRow.holds Try.pinned (OpenSpec.ofChange fnVoteNoWrong)

/-- 'laws.FnVoteTwice': WHATEVER THE INPUT: true; the input reads as it did. -/
def fnVoteTwiceSpec : ChangeSpec := { name := "fnVoteTwice", fn := fun _ => fun
  | [d] => { results := [.lit (.bool true)], args := [d] }
  | _ => none }
def fnVoteTwiceRow : OpenClaim := { program := "ytimdkddkgbmecaa", sum := "eec150e713aba68c689bb5d1661ba9eaf0ca3e7e5c358192a2d7976765590219", func := "loop.example/atomicpush/laws.FnVoteTwice", spec := "fnVoteTwice", apart := false }
def FnVoteTwiceSaid : Prop := fnVoteTwiceRow.holds Try.pinned (OpenSpec.ofChange fnVoteTwiceSpec)

/-- ITS FALSE NEIGHBOUR: 'it returns false'. Refute it at one input. -/
def fnVoteTwiceWrong : ChangeSpec := { name := "fnVoteTwice", fn := fun _ => fun
  | [d] => { results := [.lit (.bool false)], args := [d] }
  | _ => none }
def FnVoteTwiceWrongFalsely : Prop := fnVoteTwiceRow.holds Try.pinned (OpenSpec.ofChange fnVoteTwiceWrong)

/-- 'laws.FnVoteOthers': WHATEVER THE INPUT: true; the input reads as it did. -/
def fnVoteOthersSpec : ChangeSpec := { name := "fnVoteOthers", fn := fun _ => fun
  | [d] => { results := [.lit (.bool true)], args := [d] }
  | _ => none }
def fnVoteOthersRow : OpenClaim := { program := "ytimdkddkgbmecaa", sum := "eec150e713aba68c689bb5d1661ba9eaf0ca3e7e5c358192a2d7976765590219", func := "loop.example/atomicpush/laws.FnVoteOthers", spec := "fnVoteOthers", apart := false }
def FnVoteOthersSaid : Prop := fnVoteOthersRow.holds Try.pinned (OpenSpec.ofChange fnVoteOthersSpec)

/-- ITS FALSE NEIGHBOUR: 'it returns false'. Refute it at one input. -/
def fnVoteOthersWrong : ChangeSpec := { name := "fnVoteOthers", fn := fun _ => fun
  | [d] => { results := [.lit (.bool false)], args := [d] }
  | _ => none }
def FnVoteOthersWrongFalsely : Prop := fnVoteOthersRow.holds Try.pinned (OpenSpec.ofChange fnVoteOthersWrong)

/-- 'laws.FnVoteRefused': WHATEVER THE INPUT: true; the input reads as it did. -/
def fnVoteRefusedSpec : ChangeSpec := { name := "fnVoteRefused", fn := fun _ => fun
  | [d] => { results := [.lit (.bool true)], args := [d] }
  | _ => none }
def fnVoteRefusedRow : OpenClaim := { program := "ytimdkddkgbmecaa", sum := "eec150e713aba68c689bb5d1661ba9eaf0ca3e7e5c358192a2d7976765590219", func := "loop.example/atomicpush/laws.FnVoteRefused", spec := "fnVoteRefused", apart := false }
def FnVoteRefusedSaid : Prop := fnVoteRefusedRow.holds Try.pinned (OpenSpec.ofChange fnVoteRefusedSpec)

/-- ITS FALSE NEIGHBOUR: 'it returns false'. Refute it at one input. -/
def fnVoteRefusedWrong : ChangeSpec := { name := "fnVoteRefused", fn := fun _ => fun
  | [d] => { results := [.lit (.bool false)], args := [d] }
  | _ => none }
def FnVoteRefusedWrongFalsely : Prop := fnVoteRefusedRow.holds Try.pinned (OpenSpec.ofChange fnVoteRefusedWrong)

/-- 'laws.FnTimeout': WHATEVER THE INPUT: true; the input reads as it did. -/
def fnTimeoutSpec : ChangeSpec := { name := "fnTimeout", fn := fun _ => fun
  | [d] => { results := [.lit (.bool true)], args := [d] }
  | _ => none }
def fnTimeoutRow : OpenClaim := { program := "ytimdkddkgbmecaa", sum := "eec150e713aba68c689bb5d1661ba9eaf0ca3e7e5c358192a2d7976765590219", func := "loop.example/atomicpush/laws.FnTimeout", spec := "fnTimeout", apart := false }
def FnTimeoutSaid : Prop := fnTimeoutRow.holds Try.pinned (OpenSpec.ofChange fnTimeoutSpec)

/-- ITS FALSE NEIGHBOUR: 'it returns false'. Refute it at one input. -/
def fnTimeoutWrong : ChangeSpec := { name := "fnTimeout", fn := fun _ => fun
  | [d] => { results := [.lit (.bool false)], args := [d] }
  | _ => none }
def FnTimeoutWrongFalsely : Prop := fnTimeoutRow.holds Try.pinned (OpenSpec.ofChange fnTimeoutWrong)

/-- 'laws.FnTimeoutLate': WHATEVER THE INPUT: true; the input reads as it did. -/
def fnTimeoutLateSpec : ChangeSpec := { name := "fnTimeoutLate", fn := fun _ => fun
  | [d] => { results := [.lit (.bool true)], args := [d] }
  | _ => none }
def fnTimeoutLateRow : OpenClaim := { program := "ytimdkddkgbmecaa", sum := "eec150e713aba68c689bb5d1661ba9eaf0ca3e7e5c358192a2d7976765590219", func := "loop.example/atomicpush/laws.FnTimeoutLate", spec := "fnTimeoutLate", apart := false }
def FnTimeoutLateSaid : Prop := fnTimeoutLateRow.holds Try.pinned (OpenSpec.ofChange fnTimeoutLateSpec)

/-- ITS FALSE NEIGHBOUR: 'it returns false'. Refute it at one input. -/
def fnTimeoutLateWrong : ChangeSpec := { name := "fnTimeoutLate", fn := fun _ => fun
  | [d] => { results := [.lit (.bool false)], args := [d] }
  | _ => none }
def FnTimeoutLateWrongFalsely : Prop := fnTimeoutLateRow.holds Try.pinned (OpenSpec.ofChange fnTimeoutLateWrong)

/-- 'laws.FnOrderCommitted': WHATEVER THE INPUT: true; the input reads as it did. -/
def fnOrderCommittedSpec : ChangeSpec := { name := "fnOrderCommitted", fn := fun _ => fun
  | [d] => { results := [.lit (.bool true)], args := [d] }
  | _ => none }
def fnOrderCommittedRow : OpenClaim := { program := "ytimdkddkgbmecaa", sum := "eec150e713aba68c689bb5d1661ba9eaf0ca3e7e5c358192a2d7976765590219", func := "loop.example/atomicpush/laws.FnOrderCommitted", spec := "fnOrderCommitted", apart := false }
def FnOrderCommittedSaid : Prop := fnOrderCommittedRow.holds Try.pinned (OpenSpec.ofChange fnOrderCommittedSpec)

/-- ITS FALSE NEIGHBOUR: 'it returns false'. Refute it at one input. -/
def fnOrderCommittedWrong : ChangeSpec := { name := "fnOrderCommitted", fn := fun _ => fun
  | [d] => { results := [.lit (.bool false)], args := [d] }
  | _ => none }
def FnOrderCommittedWrongFalsely : Prop := fnOrderCommittedRow.holds Try.pinned (OpenSpec.ofChange fnOrderCommittedWrong)

/-- 'laws.FnCommittedVotes': WHATEVER THE INPUT: true; the input reads as it did. -/
def fnCommittedVotesSpec : ChangeSpec := { name := "fnCommittedVotes", fn := fun _ => fun
  | [d] => { results := [.lit (.bool true)], args := [d] }
  | _ => none }
def fnCommittedVotesRow : OpenClaim := { program := "ytimdkddkgbmecaa", sum := "eec150e713aba68c689bb5d1661ba9eaf0ca3e7e5c358192a2d7976765590219", func := "loop.example/atomicpush/laws.FnCommittedVotes", spec := "fnCommittedVotes", apart := false }
def FnCommittedVotesSaid : Prop := fnCommittedVotesRow.holds Try.pinned (OpenSpec.ofChange fnCommittedVotesSpec)

/-- ITS FALSE NEIGHBOUR: 'it returns false'. Refute it at one input. -/
def fnCommittedVotesWrong : ChangeSpec := { name := "fnCommittedVotes", fn := fun _ => fun
  | [d] => { results := [.lit (.bool false)], args := [d] }
  | _ => none }
def FnCommittedVotesWrongFalsely : Prop := fnCommittedVotesRow.holds Try.pinned (OpenSpec.ofChange fnCommittedVotesWrong)

/-- 'laws.FnRefsNext': WHATEVER THE INPUT: true; the input reads as it did. -/
def fnRefsNextSpec : ChangeSpec := { name := "fnRefsNext", fn := fun _ => fun
  | [d] => { results := [.lit (.bool true)], args := [d] }
  | _ => none }
def fnRefsNextRow : OpenClaim := { program := "ytimdkddkgbmecaa", sum := "eec150e713aba68c689bb5d1661ba9eaf0ca3e7e5c358192a2d7976765590219", func := "loop.example/atomicpush/laws.FnRefsNext", spec := "fnRefsNext", apart := false }
def FnRefsNextSaid : Prop := fnRefsNextRow.holds Try.pinned (OpenSpec.ofChange fnRefsNextSpec)

/-- ITS FALSE NEIGHBOUR: 'it returns false'. Refute it at one input. -/
def fnRefsNextWrong : ChangeSpec := { name := "fnRefsNext", fn := fun _ => fun
  | [d] => { results := [.lit (.bool false)], args := [d] }
  | _ => none }
def FnRefsNextWrongFalsely : Prop := fnRefsNextRow.holds Try.pinned (OpenSpec.ofChange fnRefsNextWrong)

/- THE SECOND FORM. 'bulk': how many values and letters a reading holds, each counted each time it is reached (what is shared counts as often as it is met; a slice's spare places count too). A statement '..UptoSaid' is the law's where the arguments, and the package variables that the reading takes, are together of bulk at most 1048576: NARROWER than '..Said'. Prove '..Said' where nothing that the law and all that it calls make is longer than what came in: it says more and counts as full. Else prove '..UptoSaid'. A law counts once. -/
mutual
def uptoBulk {H : Type} : DataW H → Nat
  | .lit (.string bytes) => bytes.length + 1
  | .lit _ => 1
  | .nil => 1
  | .ptr d => uptoBulk d + 1
  | .slice elems spare => uptoBulkAll elems + uptoBulkAll spare + 1
  | .agg parts => uptoBulkAll parts + 1
  | .iface _ d => uptoBulk d + 1
  | .map entries => uptoBulkEntries entries + 1
  | .held _ => 1
def uptoBulkAll {H : Type} : List (DataW H) → Nat
  | [] => 0
  | d :: r => uptoBulk d + uptoBulkAll r
def uptoBulkEntries {H : Type} : List (Lit × DataW H) → Nat
  | [] => 0
  | x :: r => uptoBulkEntry x + uptoBulkEntries r
def uptoBulkEntry {H : Type} : Lit × DataW H → Nat
  | (.string bytes, d) => bytes.length + uptoBulk d + 1
  | (_, d) => uptoBulk d + 1
 end
def uptoSmall : (H : Type) → List (DataW H) → Bool := fun _ ds => decide (uptoBulkAll ds ≤ 1048576)
def OpenSpec.upto (s : _root_.Go.ChangeSpec) : _root_.Go.OpenSpec := { _root_.Go.OpenSpec.ofChange s with cond := some uptoSmall }

/-- 'laws.FnBegin', WHERE WHAT IT READS IS OF BULK AT MOST 1048576: true; the input reads as it did. -/
def fnBeginUptoRow : OpenClaim := { program := "ytimdkddkgbmecaa", sum := "eec150e713aba68c689bb5d1661ba9eaf0ca3e7e5c358192a2d7976765590219", func := "loop.example/atomicpush/laws.FnBegin", spec := "fnBegin", apart := false, narrowed := true }
def FnBeginUptoSaid : Prop := fnBeginUptoRow.holds Try.pinned (OpenSpec.upto fnBeginSpec)

/-- 'laws.FnBeginFull', WHERE WHAT IT READS IS OF BULK AT MOST 1048576: true; the input reads as it did. -/
def fnBeginFullUptoRow : OpenClaim := { program := "ytimdkddkgbmecaa", sum := "eec150e713aba68c689bb5d1661ba9eaf0ca3e7e5c358192a2d7976765590219", func := "loop.example/atomicpush/laws.FnBeginFull", spec := "fnBeginFull", apart := false, narrowed := true }
def FnBeginFullUptoSaid : Prop := fnBeginFullUptoRow.holds Try.pinned (OpenSpec.upto fnBeginFullSpec)

/-- 'laws.FnVoteYes', WHERE WHAT IT READS IS OF BULK AT MOST 1048576: true; the input reads as it did. -/
def fnVoteYesUptoRow : OpenClaim := { program := "ytimdkddkgbmecaa", sum := "eec150e713aba68c689bb5d1661ba9eaf0ca3e7e5c358192a2d7976765590219", func := "loop.example/atomicpush/laws.FnVoteYes", spec := "fnVoteYes", apart := false, narrowed := true }
def FnVoteYesUptoSaid : Prop := fnVoteYesUptoRow.holds Try.pinned (OpenSpec.upto fnVoteYesSpec)

/-- 'laws.FnVoteNo', WHERE WHAT IT READS IS OF BULK AT MOST 1048576: true; the input reads as it did. -/
def fnVoteNoUptoRow : OpenClaim := { program := "ytimdkddkgbmecaa", sum := "eec150e713aba68c689bb5d1661ba9eaf0ca3e7e5c358192a2d7976765590219", func := "loop.example/atomicpush/laws.FnVoteNo", spec := "fnVoteNo", apart := false, narrowed := true }
def FnVoteNoUptoSaid : Prop := fnVoteNoUptoRow.holds Try.pinned (OpenSpec.upto fnVoteNoSpec)

/-- 'laws.FnVoteTwice', WHERE WHAT IT READS IS OF BULK AT MOST 1048576: true; the input reads as it did. -/
def fnVoteTwiceUptoRow : OpenClaim := { program := "ytimdkddkgbmecaa", sum := "eec150e713aba68c689bb5d1661ba9eaf0ca3e7e5c358192a2d7976765590219", func := "loop.example/atomicpush/laws.FnVoteTwice", spec := "fnVoteTwice", apart := false, narrowed := true }
def FnVoteTwiceUptoSaid : Prop := fnVoteTwiceUptoRow.holds Try.pinned (OpenSpec.upto fnVoteTwiceSpec)

/-- 'laws.FnVoteOthers', WHERE WHAT IT READS IS OF BULK AT MOST 1048576: true; the input reads as it did. -/
def fnVoteOthersUptoRow : OpenClaim := { program := "ytimdkddkgbmecaa", sum := "eec150e713aba68c689bb5d1661ba9eaf0ca3e7e5c358192a2d7976765590219", func := "loop.example/atomicpush/laws.FnVoteOthers", spec := "fnVoteOthers", apart := false, narrowed := true }
def FnVoteOthersUptoSaid : Prop := fnVoteOthersUptoRow.holds Try.pinned (OpenSpec.upto fnVoteOthersSpec)

/-- 'laws.FnVoteRefused', WHERE WHAT IT READS IS OF BULK AT MOST 1048576: true; the input reads as it did. -/
def fnVoteRefusedUptoRow : OpenClaim := { program := "ytimdkddkgbmecaa", sum := "eec150e713aba68c689bb5d1661ba9eaf0ca3e7e5c358192a2d7976765590219", func := "loop.example/atomicpush/laws.FnVoteRefused", spec := "fnVoteRefused", apart := false, narrowed := true }
def FnVoteRefusedUptoSaid : Prop := fnVoteRefusedUptoRow.holds Try.pinned (OpenSpec.upto fnVoteRefusedSpec)

/-- 'laws.FnTimeout', WHERE WHAT IT READS IS OF BULK AT MOST 1048576: true; the input reads as it did. -/
def fnTimeoutUptoRow : OpenClaim := { program := "ytimdkddkgbmecaa", sum := "eec150e713aba68c689bb5d1661ba9eaf0ca3e7e5c358192a2d7976765590219", func := "loop.example/atomicpush/laws.FnTimeout", spec := "fnTimeout", apart := false, narrowed := true }
def FnTimeoutUptoSaid : Prop := fnTimeoutUptoRow.holds Try.pinned (OpenSpec.upto fnTimeoutSpec)

/-- 'laws.FnTimeoutLate', WHERE WHAT IT READS IS OF BULK AT MOST 1048576: true; the input reads as it did. -/
def fnTimeoutLateUptoRow : OpenClaim := { program := "ytimdkddkgbmecaa", sum := "eec150e713aba68c689bb5d1661ba9eaf0ca3e7e5c358192a2d7976765590219", func := "loop.example/atomicpush/laws.FnTimeoutLate", spec := "fnTimeoutLate", apart := false, narrowed := true }
def FnTimeoutLateUptoSaid : Prop := fnTimeoutLateUptoRow.holds Try.pinned (OpenSpec.upto fnTimeoutLateSpec)

/-- 'laws.FnOrderCommitted', WHERE WHAT IT READS IS OF BULK AT MOST 1048576: true; the input reads as it did. -/
def fnOrderCommittedUptoRow : OpenClaim := { program := "ytimdkddkgbmecaa", sum := "eec150e713aba68c689bb5d1661ba9eaf0ca3e7e5c358192a2d7976765590219", func := "loop.example/atomicpush/laws.FnOrderCommitted", spec := "fnOrderCommitted", apart := false, narrowed := true }
def FnOrderCommittedUptoSaid : Prop := fnOrderCommittedUptoRow.holds Try.pinned (OpenSpec.upto fnOrderCommittedSpec)

/-- 'laws.FnCommittedVotes', WHERE WHAT IT READS IS OF BULK AT MOST 1048576: true; the input reads as it did. -/
def fnCommittedVotesUptoRow : OpenClaim := { program := "ytimdkddkgbmecaa", sum := "eec150e713aba68c689bb5d1661ba9eaf0ca3e7e5c358192a2d7976765590219", func := "loop.example/atomicpush/laws.FnCommittedVotes", spec := "fnCommittedVotes", apart := false, narrowed := true }
def FnCommittedVotesUptoSaid : Prop := fnCommittedVotesUptoRow.holds Try.pinned (OpenSpec.upto fnCommittedVotesSpec)

/-- 'laws.FnRefsNext', WHERE WHAT IT READS IS OF BULK AT MOST 1048576: true; the input reads as it did. -/
def fnRefsNextUptoRow : OpenClaim := { program := "ytimdkddkgbmecaa", sum := "eec150e713aba68c689bb5d1661ba9eaf0ca3e7e5c358192a2d7976765590219", func := "loop.example/atomicpush/laws.FnRefsNext", spec := "fnRefsNext", apart := false, narrowed := true }
def FnRefsNextUptoSaid : Prop := fnRefsNextUptoRow.holds Try.pinned (OpenSpec.upto fnRefsNextSpec)

end Rows
end Go.Proofs.Ytimdkddkgbmecaa
