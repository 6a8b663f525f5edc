/-
  NARROWER THAN 'FOR EVERY INPUT', by the rows' own cells (each row's printed sentence says how): FnCommittedRefs: ifaces, laid · FnPrepareOther: ifaces, laid · FnDecideOther: ifaces, laid · FnLocksPrepared: ifaces, laid · FnCommittedAdd: ifaces, laid · FnExactShardValid: ifaces, laid · FnExactShardRecover: ifaces, laid · FnExactShardAsk: ifaces, laid · FnExactShardPrepare: ifaces, laid · FnExactShardDecide: ifaces, laid · FnExactShardCommitted: ifaces, laid.
  DERIVED. THE GIVEN ROWS OF THIS SEAT. 11 by the template 'for every input the law returns true; each argument reads behind the call as it read before'; 0 by the template 'total and deterministic' (their statements: YteeffchnbkkpfabDoorTotals.lean).
  GIVEN WITH THE SEED: the statements are not yours to turn. If you find one false, say at which input.
  Laid BY PROGRAM, IN A SANDBOX (cutbox-rows.mjs): the forced cells as the released guide's own fill.sh prints them over the translation 52744ce55d70fe19… (all of the seat's roots in one cut). By AI agents, Wed Nov 11 2026. No macro, syntax, notation, axiom, sorry.
-/
import Derived.Test.YteeffchnbkkpfabDoorChecked
import GoSem.Claim
import GoSem.ClaimJoined
import GoSem.ClaimMapViews
import Derived.JoinedTies
import Derived.KernelRfl
namespace Go.Proofs.YteeffchnbkkpfabDoor
/- THE CELL 'sum', in the pinned program and in every row, IS THE sha256 OF THE DUMP (.gsa) THAT YteeffchnbkkpfabDoorProg.lean LOADS. Nothing in Lean hashes anything: it is a label: what it is worth is what the hold of that sum in a sandbox is worth. -/
noncomputable def Tryd.pinned : Pinned := { name := "yteeffchnbkkpfabdoor", sum := "52744ce55d70fe190872733b643e701ad86b5d2130dc60f5f0d660be41e79add", checked := Tryd.checked }
namespace Rows
def none {H : Type} : Left H := { results := [], args := [] }

/- WHAT THE LISTED PACKAGE-LEVEL VARIABLES READ AS WHEN THE CALL BEGINS. Each datum BY PROGRAM (the guide's laid-datum.mjs) off the statement by which the dump's own 'gosem.cut.vars' lays the variable. In a bare row this is a premise. The card (YteeffchnbkkpfabDoorCards.lean) ties it to the program's text. -/
def laid_loop_example_atomicpush_impl_errLocksInvalid {H : Type} : DataW H := .iface "*errors.errorString" (.ptr (.agg [.lit (.string [105, 110, 118, 97, 108, 105, 100, 32, 108, 111, 99, 107, 115, 44, 32, 116, 114, 97, 110, 115, 97, 99, 116, 105, 111, 110, 32, 111, 114, 32, 117, 112, 100, 97, 116, 101, 115])]))
def laid_loop_example_atomicpush_impl_errRefLocked {H : Type} : DataW H := .iface "*errors.errorString" (.ptr (.agg [.lit (.string [108, 111, 99, 107, 101, 100, 32, 114, 101, 102])]))

/-- 'laws.FnCommittedRefs': WHATEVER THE INPUT: true; the input reads as it did. -/
def fnCommittedRefsSpec : ChangeSpec := { name := "fnCommittedRefs", vars := ["loop.example/atomicpush/impl.errRefLocked", "loop.example/atomicpush/impl.errLocksInvalid"], fn := fun _ => fun
  | [d, g1, g2] => { results := [.lit (.bool true)], args := [d], vars := [g1, g2] }
  | _ => none }
def fnCommittedRefsRow : OpenClaim := { program := "yteeffchnbkkpfabdoor", sum := "52744ce55d70fe190872733b643e701ad86b5d2130dc60f5f0d660be41e79add", func := "loop.example/atomicpush/laws.FnCommittedRefs", spec := "fnCommittedRefs", inPlace := ["internal/reflectlite.TypeOf"], unfollowed := true, recurses := true, named := ["loop.example/atomicpush/impl.errRefLocked", "loop.example/atomicpush/impl.errLocksInvalid"], ifaces := true, apart := false, laid := [("loop.example/atomicpush/impl.errLocksInvalid", laid_loop_example_atomicpush_impl_errLocksInvalid), ("loop.example/atomicpush/impl.errRefLocked", laid_loop_example_atomicpush_impl_errRefLocked)] }
def FnCommittedRefsSaid : Prop := fnCommittedRefsRow.holds Tryd.pinned (OpenSpec.ofChange fnCommittedRefsSpec)

/-- ITS FALSE NEIGHBOUR: 'it returns false'. Refute it at one input. -/
def fnCommittedRefsWrong : ChangeSpec := { name := "fnCommittedRefs", vars := ["loop.example/atomicpush/impl.errRefLocked", "loop.example/atomicpush/impl.errLocksInvalid"], fn := fun _ => fun
  | [d, g1, g2] => { results := [.lit (.bool false)], args := [d], vars := [g1, g2] }
  | _ => none }
def FnCommittedRefsWrongFalsely : Prop := fnCommittedRefsRow.holds Tryd.pinned (OpenSpec.ofChange fnCommittedRefsWrong)

/-- 'laws.FnPrepareOther': WHATEVER THE INPUT: true; the input reads as it did. -/
def fnPrepareOtherSpec : ChangeSpec := { name := "fnPrepareOther", vars := ["loop.example/atomicpush/impl.errRefLocked", "loop.example/atomicpush/impl.errLocksInvalid"], fn := fun _ => fun
  | [d, g1, g2] => { results := [.lit (.bool true)], args := [d], vars := [g1, g2] }
  | _ => none }
def fnPrepareOtherRow : OpenClaim := { program := "yteeffchnbkkpfabdoor", sum := "52744ce55d70fe190872733b643e701ad86b5d2130dc60f5f0d660be41e79add", func := "loop.example/atomicpush/laws.FnPrepareOther", spec := "fnPrepareOther", inPlace := ["internal/reflectlite.TypeOf"], unfollowed := true, recurses := true, named := ["loop.example/atomicpush/impl.errRefLocked", "loop.example/atomicpush/impl.errLocksInvalid"], ifaces := true, apart := false, laid := [("loop.example/atomicpush/impl.errLocksInvalid", laid_loop_example_atomicpush_impl_errLocksInvalid), ("loop.example/atomicpush/impl.errRefLocked", laid_loop_example_atomicpush_impl_errRefLocked)] }
def FnPrepareOtherSaid : Prop := fnPrepareOtherRow.holds Tryd.pinned (OpenSpec.ofChange fnPrepareOtherSpec)

/-- ITS FALSE NEIGHBOUR: 'it returns false'. Refute it at one input. -/
def fnPrepareOtherWrong : ChangeSpec := { name := "fnPrepareOther", vars := ["loop.example/atomicpush/impl.errRefLocked", "loop.example/atomicpush/impl.errLocksInvalid"], fn := fun _ => fun
  | [d, g1, g2] => { results := [.lit (.bool false)], args := [d], vars := [g1, g2] }
  | _ => none }
def FnPrepareOtherWrongFalsely : Prop := fnPrepareOtherRow.holds Tryd.pinned (OpenSpec.ofChange fnPrepareOtherWrong)

/-- 'laws.FnDecideOther': WHATEVER THE INPUT: true; the input reads as it did. -/
def fnDecideOtherSpec : ChangeSpec := { name := "fnDecideOther", vars := ["loop.example/atomicpush/impl.errRefLocked", "loop.example/atomicpush/impl.errLocksInvalid"], fn := fun _ => fun
  | [d, g1, g2] => { results := [.lit (.bool true)], args := [d], vars := [g1, g2] }
  | _ => none }
def fnDecideOtherRow : OpenClaim := { program := "yteeffchnbkkpfabdoor", sum := "52744ce55d70fe190872733b643e701ad86b5d2130dc60f5f0d660be41e79add", func := "loop.example/atomicpush/laws.FnDecideOther", spec := "fnDecideOther", inPlace := ["internal/reflectlite.TypeOf"], unfollowed := true, recurses := true, named := ["loop.example/atomicpush/impl.errRefLocked", "loop.example/atomicpush/impl.errLocksInvalid"], ifaces := true, apart := false, laid := [("loop.example/atomicpush/impl.errLocksInvalid", laid_loop_example_atomicpush_impl_errLocksInvalid), ("loop.example/atomicpush/impl.errRefLocked", laid_loop_example_atomicpush_impl_errRefLocked)] }
def FnDecideOtherSaid : Prop := fnDecideOtherRow.holds Tryd.pinned (OpenSpec.ofChange fnDecideOtherSpec)

/-- ITS FALSE NEIGHBOUR: 'it returns false'. Refute it at one input. -/
def fnDecideOtherWrong : ChangeSpec := { name := "fnDecideOther", vars := ["loop.example/atomicpush/impl.errRefLocked", "loop.example/atomicpush/impl.errLocksInvalid"], fn := fun _ => fun
  | [d, g1, g2] => { results := [.lit (.bool false)], args := [d], vars := [g1, g2] }
  | _ => none }
def FnDecideOtherWrongFalsely : Prop := fnDecideOtherRow.holds Tryd.pinned (OpenSpec.ofChange fnDecideOtherWrong)

/-- 'laws.FnLocksPrepared': WHATEVER THE INPUT: true; the input reads as it did. -/
def fnLocksPreparedSpec : ChangeSpec := { name := "fnLocksPrepared", vars := ["loop.example/atomicpush/impl.errRefLocked", "loop.example/atomicpush/impl.errLocksInvalid"], fn := fun _ => fun
  | [d, g1, g2] => { results := [.lit (.bool true)], args := [d], vars := [g1, g2] }
  | _ => none }
def fnLocksPreparedRow : OpenClaim := { program := "yteeffchnbkkpfabdoor", sum := "52744ce55d70fe190872733b643e701ad86b5d2130dc60f5f0d660be41e79add", func := "loop.example/atomicpush/laws.FnLocksPrepared", spec := "fnLocksPrepared", inPlace := ["internal/reflectlite.TypeOf"], unfollowed := true, recurses := true, named := ["loop.example/atomicpush/impl.errRefLocked", "loop.example/atomicpush/impl.errLocksInvalid"], ifaces := true, apart := false, laid := [("loop.example/atomicpush/impl.errLocksInvalid", laid_loop_example_atomicpush_impl_errLocksInvalid), ("loop.example/atomicpush/impl.errRefLocked", laid_loop_example_atomicpush_impl_errRefLocked)] }
def FnLocksPreparedSaid : Prop := fnLocksPreparedRow.holds Tryd.pinned (OpenSpec.ofChange fnLocksPreparedSpec)

/-- ITS FALSE NEIGHBOUR: 'it returns false'. Refute it at one input. -/
def fnLocksPreparedWrong : ChangeSpec := { name := "fnLocksPrepared", vars := ["loop.example/atomicpush/impl.errRefLocked", "loop.example/atomicpush/impl.errLocksInvalid"], fn := fun _ => fun
  | [d, g1, g2] => { results := [.lit (.bool false)], args := [d], vars := [g1, g2] }
  | _ => none }
def FnLocksPreparedWrongFalsely : Prop := fnLocksPreparedRow.holds Tryd.pinned (OpenSpec.ofChange fnLocksPreparedWrong)

/-- 'laws.FnCommittedAdd': WHATEVER THE INPUT: true; the input reads as it did. -/
def fnCommittedAddSpec : ChangeSpec := { name := "fnCommittedAdd", vars := ["loop.example/atomicpush/impl.errRefLocked", "loop.example/atomicpush/impl.errLocksInvalid"], fn := fun _ => fun
  | [d, g1, g2] => { results := [.lit (.bool true)], args := [d], vars := [g1, g2] }
  | _ => none }
def fnCommittedAddRow : OpenClaim := { program := "yteeffchnbkkpfabdoor", sum := "52744ce55d70fe190872733b643e701ad86b5d2130dc60f5f0d660be41e79add", func := "loop.example/atomicpush/laws.FnCommittedAdd", spec := "fnCommittedAdd", inPlace := ["internal/reflectlite.TypeOf"], unfollowed := true, recurses := true, named := ["loop.example/atomicpush/impl.errRefLocked", "loop.example/atomicpush/impl.errLocksInvalid"], ifaces := true, apart := false, laid := [("loop.example/atomicpush/impl.errLocksInvalid", laid_loop_example_atomicpush_impl_errLocksInvalid), ("loop.example/atomicpush/impl.errRefLocked", laid_loop_example_atomicpush_impl_errRefLocked)] }
def FnCommittedAddSaid : Prop := fnCommittedAddRow.holds Tryd.pinned (OpenSpec.ofChange fnCommittedAddSpec)

/-- ITS FALSE NEIGHBOUR: 'it returns false'. Refute it at one input. -/
def fnCommittedAddWrong : ChangeSpec := { name := "fnCommittedAdd", vars := ["loop.example/atomicpush/impl.errRefLocked", "loop.example/atomicpush/impl.errLocksInvalid"], fn := fun _ => fun
  | [d, g1, g2] => { results := [.lit (.bool false)], args := [d], vars := [g1, g2] }
  | _ => none }
def FnCommittedAddWrongFalsely : Prop := fnCommittedAddRow.holds Tryd.pinned (OpenSpec.ofChange fnCommittedAddWrong)

/-- 'laws.FnExactShardValid': WHATEVER THE INPUT: true; the input reads as it did. -/
def fnExactShardValidSpec : ChangeSpec := { name := "fnExactShardValid", vars := ["loop.example/atomicpush/impl.errRefLocked", "loop.example/atomicpush/impl.errLocksInvalid"], fn := fun _ => fun
  | [d, g1, g2] => { results := [.lit (.bool true)], args := [d], vars := [g1, g2] }
  | _ => none }
def fnExactShardValidRow : OpenClaim := { program := "yteeffchnbkkpfabdoor", sum := "52744ce55d70fe190872733b643e701ad86b5d2130dc60f5f0d660be41e79add", func := "loop.example/atomicpush/laws.FnExactShardValid", spec := "fnExactShardValid", inPlace := ["internal/reflectlite.TypeOf"], unfollowed := true, recurses := true, named := ["loop.example/atomicpush/impl.errRefLocked", "loop.example/atomicpush/impl.errLocksInvalid"], ifaces := true, apart := false, laid := [("loop.example/atomicpush/impl.errLocksInvalid", laid_loop_example_atomicpush_impl_errLocksInvalid), ("loop.example/atomicpush/impl.errRefLocked", laid_loop_example_atomicpush_impl_errRefLocked)] }
def FnExactShardValidSaid : Prop := fnExactShardValidRow.holds Tryd.pinned (OpenSpec.ofChange fnExactShardValidSpec)

/-- ITS FALSE NEIGHBOUR: 'it returns false'. Refute it at one input. -/
def fnExactShardValidWrong : ChangeSpec := { name := "fnExactShardValid", vars := ["loop.example/atomicpush/impl.errRefLocked", "loop.example/atomicpush/impl.errLocksInvalid"], fn := fun _ => fun
  | [d, g1, g2] => { results := [.lit (.bool false)], args := [d], vars := [g1, g2] }
  | _ => none }
def FnExactShardValidWrongFalsely : Prop := fnExactShardValidRow.holds Tryd.pinned (OpenSpec.ofChange fnExactShardValidWrong)

/-- 'laws.FnExactShardRecover': WHATEVER THE INPUT: true; the input reads as it did. -/
def fnExactShardRecoverSpec : ChangeSpec := { name := "fnExactShardRecover", vars := ["loop.example/atomicpush/impl.errRefLocked", "loop.example/atomicpush/impl.errLocksInvalid"], fn := fun _ => fun
  | [d, g1, g2] => { results := [.lit (.bool true)], args := [d], vars := [g1, g2] }
  | _ => none }
def fnExactShardRecoverRow : OpenClaim := { program := "yteeffchnbkkpfabdoor", sum := "52744ce55d70fe190872733b643e701ad86b5d2130dc60f5f0d660be41e79add", func := "loop.example/atomicpush/laws.FnExactShardRecover", spec := "fnExactShardRecover", inPlace := ["internal/reflectlite.TypeOf"], unfollowed := true, recurses := true, named := ["loop.example/atomicpush/impl.errRefLocked", "loop.example/atomicpush/impl.errLocksInvalid"], ifaces := true, apart := false, laid := [("loop.example/atomicpush/impl.errLocksInvalid", laid_loop_example_atomicpush_impl_errLocksInvalid), ("loop.example/atomicpush/impl.errRefLocked", laid_loop_example_atomicpush_impl_errRefLocked)] }
def FnExactShardRecoverSaid : Prop := fnExactShardRecoverRow.holds Tryd.pinned (OpenSpec.ofChange fnExactShardRecoverSpec)

/-- ITS FALSE NEIGHBOUR: 'it returns false'. Refute it at one input. -/
def fnExactShardRecoverWrong : ChangeSpec := { name := "fnExactShardRecover", vars := ["loop.example/atomicpush/impl.errRefLocked", "loop.example/atomicpush/impl.errLocksInvalid"], fn := fun _ => fun
  | [d, g1, g2] => { results := [.lit (.bool false)], args := [d], vars := [g1, g2] }
  | _ => none }
def FnExactShardRecoverWrongFalsely : Prop := fnExactShardRecoverRow.holds Tryd.pinned (OpenSpec.ofChange fnExactShardRecoverWrong)

/-- 'laws.FnExactShardAsk': WHATEVER THE INPUT: true; the input reads as it did. -/
def fnExactShardAskSpec : ChangeSpec := { name := "fnExactShardAsk", vars := ["loop.example/atomicpush/impl.errRefLocked", "loop.example/atomicpush/impl.errLocksInvalid"], fn := fun _ => fun
  | [d1, d2, g1, g2] => { results := [.lit (.bool true)], args := [d1, d2], vars := [g1, g2] }
  | _ => none }
def fnExactShardAskRow : OpenClaim := { program := "yteeffchnbkkpfabdoor", sum := "52744ce55d70fe190872733b643e701ad86b5d2130dc60f5f0d660be41e79add", func := "loop.example/atomicpush/laws.FnExactShardAsk", spec := "fnExactShardAsk", inPlace := ["internal/reflectlite.TypeOf"], unfollowed := true, recurses := true, named := ["loop.example/atomicpush/impl.errRefLocked", "loop.example/atomicpush/impl.errLocksInvalid"], ifaces := true, apart := false, laid := [("loop.example/atomicpush/impl.errLocksInvalid", laid_loop_example_atomicpush_impl_errLocksInvalid), ("loop.example/atomicpush/impl.errRefLocked", laid_loop_example_atomicpush_impl_errRefLocked)] }
def FnExactShardAskSaid : Prop := fnExactShardAskRow.holds Tryd.pinned (OpenSpec.ofChange fnExactShardAskSpec)

/-- ITS FALSE NEIGHBOUR: 'it returns false'. Refute it at one input. -/
def fnExactShardAskWrong : ChangeSpec := { name := "fnExactShardAsk", vars := ["loop.example/atomicpush/impl.errRefLocked", "loop.example/atomicpush/impl.errLocksInvalid"], fn := fun _ => fun
  | [d1, d2, g1, g2] => { results := [.lit (.bool false)], args := [d1, d2], vars := [g1, g2] }
  | _ => none }
def FnExactShardAskWrongFalsely : Prop := fnExactShardAskRow.holds Tryd.pinned (OpenSpec.ofChange fnExactShardAskWrong)

/-- 'laws.FnExactShardPrepare': WHATEVER THE INPUT: true; the input reads as it did. -/
def fnExactShardPrepareSpec : ChangeSpec := { name := "fnExactShardPrepare", vars := ["loop.example/atomicpush/impl.errRefLocked", "loop.example/atomicpush/impl.errLocksInvalid"], fn := fun _ => fun
  | [d1, d2, d3, g1, g2] => { results := [.lit (.bool true)], args := [d1, d2, d3], vars := [g1, g2] }
  | _ => none }
def fnExactShardPrepareRow : OpenClaim := { program := "yteeffchnbkkpfabdoor", sum := "52744ce55d70fe190872733b643e701ad86b5d2130dc60f5f0d660be41e79add", func := "loop.example/atomicpush/laws.FnExactShardPrepare", spec := "fnExactShardPrepare", inPlace := ["internal/reflectlite.TypeOf"], unfollowed := true, recurses := true, named := ["loop.example/atomicpush/impl.errRefLocked", "loop.example/atomicpush/impl.errLocksInvalid"], ifaces := true, apart := false, laid := [("loop.example/atomicpush/impl.errLocksInvalid", laid_loop_example_atomicpush_impl_errLocksInvalid), ("loop.example/atomicpush/impl.errRefLocked", laid_loop_example_atomicpush_impl_errRefLocked)] }
def FnExactShardPrepareSaid : Prop := fnExactShardPrepareRow.holds Tryd.pinned (OpenSpec.ofChange fnExactShardPrepareSpec)

/-- ITS FALSE NEIGHBOUR: 'it returns false'. Refute it at one input. -/
def fnExactShardPrepareWrong : ChangeSpec := { name := "fnExactShardPrepare", vars := ["loop.example/atomicpush/impl.errRefLocked", "loop.example/atomicpush/impl.errLocksInvalid"], fn := fun _ => fun
  | [d1, d2, d3, g1, g2] => { results := [.lit (.bool false)], args := [d1, d2, d3], vars := [g1, g2] }
  | _ => none }
def FnExactShardPrepareWrongFalsely : Prop := fnExactShardPrepareRow.holds Tryd.pinned (OpenSpec.ofChange fnExactShardPrepareWrong)

/-- 'laws.FnExactShardDecide': WHATEVER THE INPUT: true; the input reads as it did. -/
def fnExactShardDecideSpec : ChangeSpec := { name := "fnExactShardDecide", vars := ["loop.example/atomicpush/impl.errRefLocked", "loop.example/atomicpush/impl.errLocksInvalid"], fn := fun _ => fun
  | [d1, d2, d3, g1, g2] => { results := [.lit (.bool true)], args := [d1, d2, d3], vars := [g1, g2] }
  | _ => none }
def fnExactShardDecideRow : OpenClaim := { program := "yteeffchnbkkpfabdoor", sum := "52744ce55d70fe190872733b643e701ad86b5d2130dc60f5f0d660be41e79add", func := "loop.example/atomicpush/laws.FnExactShardDecide", spec := "fnExactShardDecide", inPlace := ["internal/reflectlite.TypeOf"], unfollowed := true, recurses := true, named := ["loop.example/atomicpush/impl.errRefLocked", "loop.example/atomicpush/impl.errLocksInvalid"], ifaces := true, apart := false, laid := [("loop.example/atomicpush/impl.errLocksInvalid", laid_loop_example_atomicpush_impl_errLocksInvalid), ("loop.example/atomicpush/impl.errRefLocked", laid_loop_example_atomicpush_impl_errRefLocked)] }
def FnExactShardDecideSaid : Prop := fnExactShardDecideRow.holds Tryd.pinned (OpenSpec.ofChange fnExactShardDecideSpec)

/-- ITS FALSE NEIGHBOUR: 'it returns false'. Refute it at one input. -/
def fnExactShardDecideWrong : ChangeSpec := { name := "fnExactShardDecide", vars := ["loop.example/atomicpush/impl.errRefLocked", "loop.example/atomicpush/impl.errLocksInvalid"], fn := fun _ => fun
  | [d1, d2, d3, g1, g2] => { results := [.lit (.bool false)], args := [d1, d2, d3], vars := [g1, g2] }
  | _ => none }
def FnExactShardDecideWrongFalsely : Prop := fnExactShardDecideRow.holds Tryd.pinned (OpenSpec.ofChange fnExactShardDecideWrong)

/-- 'laws.FnExactShardCommitted': WHATEVER THE INPUT: true; the input reads as it did. -/
def fnExactShardCommittedSpec : ChangeSpec := { name := "fnExactShardCommitted", vars := ["loop.example/atomicpush/impl.errRefLocked", "loop.example/atomicpush/impl.errLocksInvalid"], fn := fun _ => fun
  | [d, g1, g2] => { results := [.lit (.bool true)], args := [d], vars := [g1, g2] }
  | _ => none }
def fnExactShardCommittedRow : OpenClaim := { program := "yteeffchnbkkpfabdoor", sum := "52744ce55d70fe190872733b643e701ad86b5d2130dc60f5f0d660be41e79add", func := "loop.example/atomicpush/laws.FnExactShardCommitted", spec := "fnExactShardCommitted", inPlace := ["internal/reflectlite.TypeOf"], unfollowed := true, recurses := true, named := ["loop.example/atomicpush/impl.errRefLocked", "loop.example/atomicpush/impl.errLocksInvalid"], ifaces := true, apart := false, laid := [("loop.example/atomicpush/impl.errLocksInvalid", laid_loop_example_atomicpush_impl_errLocksInvalid), ("loop.example/atomicpush/impl.errRefLocked", laid_loop_example_atomicpush_impl_errRefLocked)] }
def FnExactShardCommittedSaid : Prop := fnExactShardCommittedRow.holds Tryd.pinned (OpenSpec.ofChange fnExactShardCommittedSpec)

/-- ITS FALSE NEIGHBOUR: 'it returns false'. Refute it at one input. -/
def fnExactShardCommittedWrong : ChangeSpec := { name := "fnExactShardCommitted", vars := ["loop.example/atomicpush/impl.errRefLocked", "loop.example/atomicpush/impl.errLocksInvalid"], fn := fun _ => fun
  | [d, g1, g2] => { results := [.lit (.bool false)], args := [d], vars := [g1, g2] }
  | _ => none }
def FnExactShardCommittedWrongFalsely : Prop := fnExactShardCommittedRow.holds Tryd.pinned (OpenSpec.ofChange fnExactShardCommittedWrong)

/- THE SECOND FORM. 'bulk': how many values and letters a reading holds, each counted each time it is reached (what is shared counts as often as it is met; a slice's spare places count too). A statement '..UptoSaid' is the law's where the arguments, and the package variables that the reading takes, are together of bulk at most 1048576: NARROWER than '..Said'. Prove '..Said' where nothing that the law and all that it calls make is longer than what came in: it says more and counts as full. Else prove '..UptoSaid'. A law counts once. -/
mutual
def uptoBulk {H : Type} : DataW H → Nat
  | .lit (.string bytes) => bytes.length + 1
  | .lit _ => 1
  | .nil => 1
  | .ptr d => uptoBulk d + 1
  | .slice elems spare => uptoBulkAll elems + uptoBulkAll spare + 1
  | .agg parts => uptoBulkAll parts + 1
  | .iface _ d => uptoBulk d + 1
  | .map entries => uptoBulkEntries entries + 1
  | .held _ => 1
def uptoBulkAll {H : Type} : List (DataW H) → Nat
  | [] => 0
  | d :: r => uptoBulk d + uptoBulkAll r
def uptoBulkEntries {H : Type} : List (Lit × DataW H) → Nat
  | [] => 0
  | x :: r => uptoBulkEntry x + uptoBulkEntries r
def uptoBulkEntry {H : Type} : Lit × DataW H → Nat
  | (.string bytes, d) => bytes.length + uptoBulk d + 1
  | (_, d) => uptoBulk d + 1
 end
def uptoSmall : (H : Type) → List (DataW H) → Bool := fun _ ds => decide (uptoBulkAll ds ≤ 1048576)
def OpenSpec.upto (s : _root_.Go.ChangeSpec) : _root_.Go.OpenSpec := { _root_.Go.OpenSpec.ofChange s with cond := some uptoSmall }

/-- 'laws.FnCommittedRefs', WHERE WHAT IT READS IS OF BULK AT MOST 1048576: true; the input reads as it did. -/
def fnCommittedRefsUptoRow : OpenClaim := { program := "yteeffchnbkkpfabdoor", sum := "52744ce55d70fe190872733b643e701ad86b5d2130dc60f5f0d660be41e79add", func := "loop.example/atomicpush/laws.FnCommittedRefs", spec := "fnCommittedRefs", inPlace := ["internal/reflectlite.TypeOf"], unfollowed := true, recurses := true, named := ["loop.example/atomicpush/impl.errRefLocked", "loop.example/atomicpush/impl.errLocksInvalid"], ifaces := true, apart := false, laid := [("loop.example/atomicpush/impl.errLocksInvalid", laid_loop_example_atomicpush_impl_errLocksInvalid), ("loop.example/atomicpush/impl.errRefLocked", laid_loop_example_atomicpush_impl_errRefLocked)], narrowed := true }
def FnCommittedRefsUptoSaid : Prop := fnCommittedRefsUptoRow.holds Tryd.pinned (OpenSpec.upto fnCommittedRefsSpec)

/-- 'laws.FnPrepareOther', WHERE WHAT IT READS IS OF BULK AT MOST 1048576: true; the input reads as it did. -/
def fnPrepareOtherUptoRow : OpenClaim := { program := "yteeffchnbkkpfabdoor", sum := "52744ce55d70fe190872733b643e701ad86b5d2130dc60f5f0d660be41e79add", func := "loop.example/atomicpush/laws.FnPrepareOther", spec := "fnPrepareOther", inPlace := ["internal/reflectlite.TypeOf"], unfollowed := true, recurses := true, named := ["loop.example/atomicpush/impl.errRefLocked", "loop.example/atomicpush/impl.errLocksInvalid"], ifaces := true, apart := false, laid := [("loop.example/atomicpush/impl.errLocksInvalid", laid_loop_example_atomicpush_impl_errLocksInvalid), ("loop.example/atomicpush/impl.errRefLocked", laid_loop_example_atomicpush_impl_errRefLocked)], narrowed := true }
def FnPrepareOtherUptoSaid : Prop := fnPrepareOtherUptoRow.holds Tryd.pinned (OpenSpec.upto fnPrepareOtherSpec)

/-- 'laws.FnDecideOther', WHERE WHAT IT READS IS OF BULK AT MOST 1048576: true; the input reads as it did. -/
def fnDecideOtherUptoRow : OpenClaim := { program := "yteeffchnbkkpfabdoor", sum := "52744ce55d70fe190872733b643e701ad86b5d2130dc60f5f0d660be41e79add", func := "loop.example/atomicpush/laws.FnDecideOther", spec := "fnDecideOther", inPlace := ["internal/reflectlite.TypeOf"], unfollowed := true, recurses := true, named := ["loop.example/atomicpush/impl.errRefLocked", "loop.example/atomicpush/impl.errLocksInvalid"], ifaces := true, apart := false, laid := [("loop.example/atomicpush/impl.errLocksInvalid", laid_loop_example_atomicpush_impl_errLocksInvalid), ("loop.example/atomicpush/impl.errRefLocked", laid_loop_example_atomicpush_impl_errRefLocked)], narrowed := true }
def FnDecideOtherUptoSaid : Prop := fnDecideOtherUptoRow.holds Tryd.pinned (OpenSpec.upto fnDecideOtherSpec)

/-- 'laws.FnLocksPrepared', WHERE WHAT IT READS IS OF BULK AT MOST 1048576: true; the input reads as it did. -/
def fnLocksPreparedUptoRow : OpenClaim := { program := "yteeffchnbkkpfabdoor", sum := "52744ce55d70fe190872733b643e701ad86b5d2130dc60f5f0d660be41e79add", func := "loop.example/atomicpush/laws.FnLocksPrepared", spec := "fnLocksPrepared", inPlace := ["internal/reflectlite.TypeOf"], unfollowed := true, recurses := true, named := ["loop.example/atomicpush/impl.errRefLocked", "loop.example/atomicpush/impl.errLocksInvalid"], ifaces := true, apart := false, laid := [("loop.example/atomicpush/impl.errLocksInvalid", laid_loop_example_atomicpush_impl_errLocksInvalid), ("loop.example/atomicpush/impl.errRefLocked", laid_loop_example_atomicpush_impl_errRefLocked)], narrowed := true }
def FnLocksPreparedUptoSaid : Prop := fnLocksPreparedUptoRow.holds Tryd.pinned (OpenSpec.upto fnLocksPreparedSpec)

/-- 'laws.FnCommittedAdd', WHERE WHAT IT READS IS OF BULK AT MOST 1048576: true; the input reads as it did. -/
def fnCommittedAddUptoRow : OpenClaim := { program := "yteeffchnbkkpfabdoor", sum := "52744ce55d70fe190872733b643e701ad86b5d2130dc60f5f0d660be41e79add", func := "loop.example/atomicpush/laws.FnCommittedAdd", spec := "fnCommittedAdd", inPlace := ["internal/reflectlite.TypeOf"], unfollowed := true, recurses := true, named := ["loop.example/atomicpush/impl.errRefLocked", "loop.example/atomicpush/impl.errLocksInvalid"], ifaces := true, apart := false, laid := [("loop.example/atomicpush/impl.errLocksInvalid", laid_loop_example_atomicpush_impl_errLocksInvalid), ("loop.example/atomicpush/impl.errRefLocked", laid_loop_example_atomicpush_impl_errRefLocked)], narrowed := true }
def FnCommittedAddUptoSaid : Prop := fnCommittedAddUptoRow.holds Tryd.pinned (OpenSpec.upto fnCommittedAddSpec)

/-- 'laws.FnExactShardValid', WHERE WHAT IT READS IS OF BULK AT MOST 1048576: true; the input reads as it did. -/
def fnExactShardValidUptoRow : OpenClaim := { program := "yteeffchnbkkpfabdoor", sum := "52744ce55d70fe190872733b643e701ad86b5d2130dc60f5f0d660be41e79add", func := "loop.example/atomicpush/laws.FnExactShardValid", spec := "fnExactShardValid", inPlace := ["internal/reflectlite.TypeOf"], unfollowed := true, recurses := true, named := ["loop.example/atomicpush/impl.errRefLocked", "loop.example/atomicpush/impl.errLocksInvalid"], ifaces := true, apart := false, laid := [("loop.example/atomicpush/impl.errLocksInvalid", laid_loop_example_atomicpush_impl_errLocksInvalid), ("loop.example/atomicpush/impl.errRefLocked", laid_loop_example_atomicpush_impl_errRefLocked)], narrowed := true }
def FnExactShardValidUptoSaid : Prop := fnExactShardValidUptoRow.holds Tryd.pinned (OpenSpec.upto fnExactShardValidSpec)

/-- 'laws.FnExactShardRecover', WHERE WHAT IT READS IS OF BULK AT MOST 1048576: true; the input reads as it did. -/
def fnExactShardRecoverUptoRow : OpenClaim := { program := "yteeffchnbkkpfabdoor", sum := "52744ce55d70fe190872733b643e701ad86b5d2130dc60f5f0d660be41e79add", func := "loop.example/atomicpush/laws.FnExactShardRecover", spec := "fnExactShardRecover", inPlace := ["internal/reflectlite.TypeOf"], unfollowed := true, recurses := true, named := ["loop.example/atomicpush/impl.errRefLocked", "loop.example/atomicpush/impl.errLocksInvalid"], ifaces := true, apart := false, laid := [("loop.example/atomicpush/impl.errLocksInvalid", laid_loop_example_atomicpush_impl_errLocksInvalid), ("loop.example/atomicpush/impl.errRefLocked", laid_loop_example_atomicpush_impl_errRefLocked)], narrowed := true }
def FnExactShardRecoverUptoSaid : Prop := fnExactShardRecoverUptoRow.holds Tryd.pinned (OpenSpec.upto fnExactShardRecoverSpec)

/-- 'laws.FnExactShardAsk', WHERE WHAT IT READS IS OF BULK AT MOST 1048576: true; the input reads as it did. -/
def fnExactShardAskUptoRow : OpenClaim := { program := "yteeffchnbkkpfabdoor", sum := "52744ce55d70fe190872733b643e701ad86b5d2130dc60f5f0d660be41e79add", func := "loop.example/atomicpush/laws.FnExactShardAsk", spec := "fnExactShardAsk", inPlace := ["internal/reflectlite.TypeOf"], unfollowed := true, recurses := true, named := ["loop.example/atomicpush/impl.errRefLocked", "loop.example/atomicpush/impl.errLocksInvalid"], ifaces := true, apart := false, laid := [("loop.example/atomicpush/impl.errLocksInvalid", laid_loop_example_atomicpush_impl_errLocksInvalid), ("loop.example/atomicpush/impl.errRefLocked", laid_loop_example_atomicpush_impl_errRefLocked)], narrowed := true }
def FnExactShardAskUptoSaid : Prop := fnExactShardAskUptoRow.holds Tryd.pinned (OpenSpec.upto fnExactShardAskSpec)

/-- 'laws.FnExactShardPrepare', WHERE WHAT IT READS IS OF BULK AT MOST 1048576: true; the input reads as it did. -/
def fnExactShardPrepareUptoRow : OpenClaim := { program := "yteeffchnbkkpfabdoor", sum := "52744ce55d70fe190872733b643e701ad86b5d2130dc60f5f0d660be41e79add", func := "loop.example/atomicpush/laws.FnExactShardPrepare", spec := "fnExactShardPrepare", inPlace := ["internal/reflectlite.TypeOf"], unfollowed := true, recurses := true, named := ["loop.example/atomicpush/impl.errRefLocked", "loop.example/atomicpush/impl.errLocksInvalid"], ifaces := true, apart := false, laid := [("loop.example/atomicpush/impl.errLocksInvalid", laid_loop_example_atomicpush_impl_errLocksInvalid), ("loop.example/atomicpush/impl.errRefLocked", laid_loop_example_atomicpush_impl_errRefLocked)], narrowed := true }
def FnExactShardPrepareUptoSaid : Prop := fnExactShardPrepareUptoRow.holds Tryd.pinned (OpenSpec.upto fnExactShardPrepareSpec)

/-- 'laws.FnExactShardDecide', WHERE WHAT IT READS IS OF BULK AT MOST 1048576: true; the input reads as it did. -/
def fnExactShardDecideUptoRow : OpenClaim := { program := "yteeffchnbkkpfabdoor", sum := "52744ce55d70fe190872733b643e701ad86b5d2130dc60f5f0d660be41e79add", func := "loop.example/atomicpush/laws.FnExactShardDecide", spec := "fnExactShardDecide", inPlace := ["internal/reflectlite.TypeOf"], unfollowed := true, recurses := true, named := ["loop.example/atomicpush/impl.errRefLocked", "loop.example/atomicpush/impl.errLocksInvalid"], ifaces := true, apart := false, laid := [("loop.example/atomicpush/impl.errLocksInvalid", laid_loop_example_atomicpush_impl_errLocksInvalid), ("loop.example/atomicpush/impl.errRefLocked", laid_loop_example_atomicpush_impl_errRefLocked)], narrowed := true }
def FnExactShardDecideUptoSaid : Prop := fnExactShardDecideUptoRow.holds Tryd.pinned (OpenSpec.upto fnExactShardDecideSpec)

/-- 'laws.FnExactShardCommitted', WHERE WHAT IT READS IS OF BULK AT MOST 1048576: true; the input reads as it did. -/
def fnExactShardCommittedUptoRow : OpenClaim := { program := "yteeffchnbkkpfabdoor", sum := "52744ce55d70fe190872733b643e701ad86b5d2130dc60f5f0d660be41e79add", func := "loop.example/atomicpush/laws.FnExactShardCommitted", spec := "fnExactShardCommitted", inPlace := ["internal/reflectlite.TypeOf"], unfollowed := true, recurses := true, named := ["loop.example/atomicpush/impl.errRefLocked", "loop.example/atomicpush/impl.errLocksInvalid"], ifaces := true, apart := false, laid := [("loop.example/atomicpush/impl.errLocksInvalid", laid_loop_example_atomicpush_impl_errLocksInvalid), ("loop.example/atomicpush/impl.errRefLocked", laid_loop_example_atomicpush_impl_errRefLocked)], narrowed := true }
def FnExactShardCommittedUptoSaid : Prop := fnExactShardCommittedUptoRow.holds Tryd.pinned (OpenSpec.upto fnExactShardCommittedSpec)

end Rows
end Go.Proofs.YteeffchnbkkpfabDoor
