/-
  NARROWER THAN 'FOR EVERY INPUT', by the rows' own cells (each row's printed sentence says how): FnPrepare: ifaces, laid · FnPrepareNo: ifaces, laid · FnPrepareAgain: ifaces, laid · FnPrepareTwice: ifaces, laid · FnPrepareFits: ifaces, laid · FnDecide: ifaces, laid · FnDecideAbort: ifaces, laid · FnDecideTwice: ifaces, laid · FnDecideUnknown: ifaces, laid · FnRecover: ifaces, laid · FnRecoverNew: ifaces, laid · FnCommitted: ifaces, laid.
  DERIVED. THE GIVEN ROWS OF THIS SEAT. 12 by the template 'for every input the law returns true; each argument reads behind the call as it read before'; 0 by the template 'total and deterministic' (their statements: YteeffchnbkkpfaaDoorTotals.lean).
  GIVEN WITH THE SEED: the statements are not yours to turn. If you find one false, say at which input.
  Laid BY PROGRAM, IN A SANDBOX (cutbox-rows.mjs): the forced cells as the released guide's own fill.sh prints them over the translation 0d747f3886224dea… (all of the seat's roots in one cut). By AI agents, Wed Nov 11 2026. No macro, syntax, notation, axiom, sorry.
-/
import Derived.Test.YteeffchnbkkpfaaDoorChecked
import GoSem.Claim
import GoSem.ClaimJoined
import GoSem.ClaimMapViews
import Derived.JoinedTies
import Derived.KernelRfl
namespace Go.Proofs.YteeffchnbkkpfaaDoor
/- THE CELL 'sum', in the pinned program and in every row, IS THE sha256 OF THE DUMP (.gsa) THAT YteeffchnbkkpfaaDoorProg.lean LOADS. Nothing in Lean hashes anything: it is a label: what it is worth is what the hold of that sum in a sandbox is worth. -/
noncomputable def Tryd.pinned : Pinned := { name := "yteeffchnbkkpfaadoor", sum := "0d747f3886224dea3e2977e58a852ada69db24549fe607c9753705759a61612c", checked := Tryd.checked }
namespace Rows
def none {H : Type} : Left H := { results := [], args := [] }

/- WHAT THE LISTED PACKAGE-LEVEL VARIABLES READ AS WHEN THE CALL BEGINS. Each datum BY PROGRAM (the guide's laid-datum.mjs) off the statement by which the dump's own 'gosem.cut.vars' lays the variable. In a bare row this is a premise. The card (YteeffchnbkkpfaaDoorCards.lean) ties it to the program's text. -/
def laid_loop_example_atomicpush_impl_errLocksInvalid {H : Type} : DataW H := .iface "*errors.errorString" (.ptr (.agg [.lit (.string [105, 110, 118, 97, 108, 105, 100, 32, 108, 111, 99, 107, 115, 44, 32, 116, 114, 97, 110, 115, 97, 99, 116, 105, 111, 110, 32, 111, 114, 32, 117, 112, 100, 97, 116, 101, 115])]))
def laid_loop_example_atomicpush_impl_errRefLocked {H : Type} : DataW H := .iface "*errors.errorString" (.ptr (.agg [.lit (.string [108, 111, 99, 107, 101, 100, 32, 114, 101, 102])]))

/-- 'laws.FnPrepare': WHATEVER THE INPUT: true; the input reads as it did. -/
def fnPrepareSpec : ChangeSpec := { name := "fnPrepare", vars := ["loop.example/atomicpush/impl.errRefLocked", "loop.example/atomicpush/impl.errLocksInvalid"], fn := fun _ => fun
  | [d, g1, g2] => { results := [.lit (.bool true)], args := [d], vars := [g1, g2] }
  | _ => none }
def fnPrepareRow : OpenClaim := { program := "yteeffchnbkkpfaadoor", sum := "0d747f3886224dea3e2977e58a852ada69db24549fe607c9753705759a61612c", func := "loop.example/atomicpush/laws.FnPrepare", spec := "fnPrepare", inPlace := ["internal/reflectlite.TypeOf"], unfollowed := true, recurses := true, named := ["loop.example/atomicpush/impl.errRefLocked", "loop.example/atomicpush/impl.errLocksInvalid"], ifaces := true, apart := false, laid := [("loop.example/atomicpush/impl.errLocksInvalid", laid_loop_example_atomicpush_impl_errLocksInvalid), ("loop.example/atomicpush/impl.errRefLocked", laid_loop_example_atomicpush_impl_errRefLocked)] }
def FnPrepareSaid : Prop := fnPrepareRow.holds Tryd.pinned (OpenSpec.ofChange fnPrepareSpec)

/-- ITS FALSE NEIGHBOUR: 'it returns false'. Refute it at one input. -/
def fnPrepareWrong : ChangeSpec := { name := "fnPrepare", vars := ["loop.example/atomicpush/impl.errRefLocked", "loop.example/atomicpush/impl.errLocksInvalid"], fn := fun _ => fun
  | [d, g1, g2] => { results := [.lit (.bool false)], args := [d], vars := [g1, g2] }
  | _ => none }
def FnPrepareWrongFalsely : Prop := fnPrepareRow.holds Tryd.pinned (OpenSpec.ofChange fnPrepareWrong)

/-- 'laws.FnPrepareNo': WHATEVER THE INPUT: true; the input reads as it did. -/
def fnPrepareNoSpec : ChangeSpec := { name := "fnPrepareNo", vars := ["loop.example/atomicpush/impl.errRefLocked", "loop.example/atomicpush/impl.errLocksInvalid"], fn := fun _ => fun
  | [d, g1, g2] => { results := [.lit (.bool true)], args := [d], vars := [g1, g2] }
  | _ => none }
def fnPrepareNoRow : OpenClaim := { program := "yteeffchnbkkpfaadoor", sum := "0d747f3886224dea3e2977e58a852ada69db24549fe607c9753705759a61612c", func := "loop.example/atomicpush/laws.FnPrepareNo", spec := "fnPrepareNo", inPlace := ["internal/reflectlite.TypeOf"], unfollowed := true, recurses := true, named := ["loop.example/atomicpush/impl.errRefLocked", "loop.example/atomicpush/impl.errLocksInvalid"], ifaces := true, apart := false, laid := [("loop.example/atomicpush/impl.errLocksInvalid", laid_loop_example_atomicpush_impl_errLocksInvalid), ("loop.example/atomicpush/impl.errRefLocked", laid_loop_example_atomicpush_impl_errRefLocked)] }
def FnPrepareNoSaid : Prop := fnPrepareNoRow.holds Tryd.pinned (OpenSpec.ofChange fnPrepareNoSpec)

/-- ITS FALSE NEIGHBOUR: 'it returns false'. Refute it at one input. -/
def fnPrepareNoWrong : ChangeSpec := { name := "fnPrepareNo", vars := ["loop.example/atomicpush/impl.errRefLocked", "loop.example/atomicpush/impl.errLocksInvalid"], fn := fun _ => fun
  | [d, g1, g2] => { results := [.lit (.bool false)], args := [d], vars := [g1, g2] }
  | _ => none }
def FnPrepareNoWrongFalsely : Prop := fnPrepareNoRow.holds Tryd.pinned (OpenSpec.ofChange fnPrepareNoWrong)

/-- 'laws.FnPrepareAgain': WHATEVER THE INPUT: true; the input reads as it did. -/
def fnPrepareAgainSpec : ChangeSpec := { name := "fnPrepareAgain", vars := ["loop.example/atomicpush/impl.errRefLocked", "loop.example/atomicpush/impl.errLocksInvalid"], fn := fun _ => fun
  | [d, g1, g2] => { results := [.lit (.bool true)], args := [d], vars := [g1, g2] }
  | _ => none }
def fnPrepareAgainRow : OpenClaim := { program := "yteeffchnbkkpfaadoor", sum := "0d747f3886224dea3e2977e58a852ada69db24549fe607c9753705759a61612c", func := "loop.example/atomicpush/laws.FnPrepareAgain", spec := "fnPrepareAgain", inPlace := ["internal/reflectlite.TypeOf"], unfollowed := true, recurses := true, named := ["loop.example/atomicpush/impl.errRefLocked", "loop.example/atomicpush/impl.errLocksInvalid"], ifaces := true, apart := false, laid := [("loop.example/atomicpush/impl.errLocksInvalid", laid_loop_example_atomicpush_impl_errLocksInvalid), ("loop.example/atomicpush/impl.errRefLocked", laid_loop_example_atomicpush_impl_errRefLocked)] }
def FnPrepareAgainSaid : Prop := fnPrepareAgainRow.holds Tryd.pinned (OpenSpec.ofChange fnPrepareAgainSpec)

/-- ITS FALSE NEIGHBOUR: 'it returns false'. Refute it at one input. -/
def fnPrepareAgainWrong : ChangeSpec := { name := "fnPrepareAgain", vars := ["loop.example/atomicpush/impl.errRefLocked", "loop.example/atomicpush/impl.errLocksInvalid"], fn := fun _ => fun
  | [d, g1, g2] => { results := [.lit (.bool false)], args := [d], vars := [g1, g2] }
  | _ => none }
def FnPrepareAgainWrongFalsely : Prop := fnPrepareAgainRow.holds Tryd.pinned (OpenSpec.ofChange fnPrepareAgainWrong)

/-- 'laws.FnPrepareTwice': WHATEVER THE INPUT: true; the input reads as it did. -/
def fnPrepareTwiceSpec : ChangeSpec := { name := "fnPrepareTwice", vars := ["loop.example/atomicpush/impl.errRefLocked", "loop.example/atomicpush/impl.errLocksInvalid"], fn := fun _ => fun
  | [d, g1, g2] => { results := [.lit (.bool true)], args := [d], vars := [g1, g2] }
  | _ => none }
def fnPrepareTwiceRow : OpenClaim := { program := "yteeffchnbkkpfaadoor", sum := "0d747f3886224dea3e2977e58a852ada69db24549fe607c9753705759a61612c", func := "loop.example/atomicpush/laws.FnPrepareTwice", spec := "fnPrepareTwice", inPlace := ["internal/reflectlite.TypeOf"], unfollowed := true, recurses := true, named := ["loop.example/atomicpush/impl.errRefLocked", "loop.example/atomicpush/impl.errLocksInvalid"], ifaces := true, apart := false, laid := [("loop.example/atomicpush/impl.errLocksInvalid", laid_loop_example_atomicpush_impl_errLocksInvalid), ("loop.example/atomicpush/impl.errRefLocked", laid_loop_example_atomicpush_impl_errRefLocked)] }
def FnPrepareTwiceSaid : Prop := fnPrepareTwiceRow.holds Tryd.pinned (OpenSpec.ofChange fnPrepareTwiceSpec)

/-- ITS FALSE NEIGHBOUR: 'it returns false'. Refute it at one input. -/
def fnPrepareTwiceWrong : ChangeSpec := { name := "fnPrepareTwice", vars := ["loop.example/atomicpush/impl.errRefLocked", "loop.example/atomicpush/impl.errLocksInvalid"], fn := fun _ => fun
  | [d, g1, g2] => { results := [.lit (.bool false)], args := [d], vars := [g1, g2] }
  | _ => none }
def FnPrepareTwiceWrongFalsely : Prop := fnPrepareTwiceRow.holds Tryd.pinned (OpenSpec.ofChange fnPrepareTwiceWrong)

/-- 'laws.FnPrepareFits': WHATEVER THE INPUT: true; the input reads as it did. -/
def fnPrepareFitsSpec : ChangeSpec := { name := "fnPrepareFits", vars := ["loop.example/atomicpush/impl.errRefLocked", "loop.example/atomicpush/impl.errLocksInvalid"], fn := fun _ => fun
  | [d, g1, g2] => { results := [.lit (.bool true)], args := [d], vars := [g1, g2] }
  | _ => none }
def fnPrepareFitsRow : OpenClaim := { program := "yteeffchnbkkpfaadoor", sum := "0d747f3886224dea3e2977e58a852ada69db24549fe607c9753705759a61612c", func := "loop.example/atomicpush/laws.FnPrepareFits", spec := "fnPrepareFits", inPlace := ["internal/reflectlite.TypeOf"], unfollowed := true, recurses := true, named := ["loop.example/atomicpush/impl.errRefLocked", "loop.example/atomicpush/impl.errLocksInvalid"], ifaces := true, apart := false, laid := [("loop.example/atomicpush/impl.errLocksInvalid", laid_loop_example_atomicpush_impl_errLocksInvalid), ("loop.example/atomicpush/impl.errRefLocked", laid_loop_example_atomicpush_impl_errRefLocked)] }
def FnPrepareFitsSaid : Prop := fnPrepareFitsRow.holds Tryd.pinned (OpenSpec.ofChange fnPrepareFitsSpec)

/-- ITS FALSE NEIGHBOUR: 'it returns false'. Refute it at one input. -/
def fnPrepareFitsWrong : ChangeSpec := { name := "fnPrepareFits", vars := ["loop.example/atomicpush/impl.errRefLocked", "loop.example/atomicpush/impl.errLocksInvalid"], fn := fun _ => fun
  | [d, g1, g2] => { results := [.lit (.bool false)], args := [d], vars := [g1, g2] }
  | _ => none }
def FnPrepareFitsWrongFalsely : Prop := fnPrepareFitsRow.holds Tryd.pinned (OpenSpec.ofChange fnPrepareFitsWrong)

/-- 'laws.FnDecide': WHATEVER THE INPUT: true; the input reads as it did. -/
def fnDecideSpec : ChangeSpec := { name := "fnDecide", vars := ["loop.example/atomicpush/impl.errRefLocked", "loop.example/atomicpush/impl.errLocksInvalid"], fn := fun _ => fun
  | [d, g1, g2] => { results := [.lit (.bool true)], args := [d], vars := [g1, g2] }
  | _ => none }
def fnDecideRow : OpenClaim := { program := "yteeffchnbkkpfaadoor", sum := "0d747f3886224dea3e2977e58a852ada69db24549fe607c9753705759a61612c", func := "loop.example/atomicpush/laws.FnDecide", spec := "fnDecide", inPlace := ["internal/reflectlite.TypeOf"], unfollowed := true, recurses := true, named := ["loop.example/atomicpush/impl.errRefLocked", "loop.example/atomicpush/impl.errLocksInvalid"], ifaces := true, apart := false, laid := [("loop.example/atomicpush/impl.errLocksInvalid", laid_loop_example_atomicpush_impl_errLocksInvalid), ("loop.example/atomicpush/impl.errRefLocked", laid_loop_example_atomicpush_impl_errRefLocked)] }
def FnDecideSaid : Prop := fnDecideRow.holds Tryd.pinned (OpenSpec.ofChange fnDecideSpec)

/-- ITS FALSE NEIGHBOUR: 'it returns false'. Refute it at one input. -/
def fnDecideWrong : ChangeSpec := { name := "fnDecide", vars := ["loop.example/atomicpush/impl.errRefLocked", "loop.example/atomicpush/impl.errLocksInvalid"], fn := fun _ => fun
  | [d, g1, g2] => { results := [.lit (.bool false)], args := [d], vars := [g1, g2] }
  | _ => none }
def FnDecideWrongFalsely : Prop := fnDecideRow.holds Tryd.pinned (OpenSpec.ofChange fnDecideWrong)

/-- 'laws.FnDecideAbort': WHATEVER THE INPUT: true; the input reads as it did. -/
def fnDecideAbortSpec : ChangeSpec := { name := "fnDecideAbort", vars := ["loop.example/atomicpush/impl.errRefLocked", "loop.example/atomicpush/impl.errLocksInvalid"], fn := fun _ => fun
  | [d, g1, g2] => { results := [.lit (.bool true)], args := [d], vars := [g1, g2] }
  | _ => none }
def fnDecideAbortRow : OpenClaim := { program := "yteeffchnbkkpfaadoor", sum := "0d747f3886224dea3e2977e58a852ada69db24549fe607c9753705759a61612c", func := "loop.example/atomicpush/laws.FnDecideAbort", spec := "fnDecideAbort", inPlace := ["internal/reflectlite.TypeOf"], unfollowed := true, recurses := true, named := ["loop.example/atomicpush/impl.errRefLocked", "loop.example/atomicpush/impl.errLocksInvalid"], ifaces := true, apart := false, laid := [("loop.example/atomicpush/impl.errLocksInvalid", laid_loop_example_atomicpush_impl_errLocksInvalid), ("loop.example/atomicpush/impl.errRefLocked", laid_loop_example_atomicpush_impl_errRefLocked)] }
def FnDecideAbortSaid : Prop := fnDecideAbortRow.holds Tryd.pinned (OpenSpec.ofChange fnDecideAbortSpec)

/-- ITS FALSE NEIGHBOUR: 'it returns false'. Refute it at one input. -/
def fnDecideAbortWrong : ChangeSpec := { name := "fnDecideAbort", vars := ["loop.example/atomicpush/impl.errRefLocked", "loop.example/atomicpush/impl.errLocksInvalid"], fn := fun _ => fun
  | [d, g1, g2] => { results := [.lit (.bool false)], args := [d], vars := [g1, g2] }
  | _ => none }
def FnDecideAbortWrongFalsely : Prop := fnDecideAbortRow.holds Tryd.pinned (OpenSpec.ofChange fnDecideAbortWrong)

/-- 'laws.FnDecideTwice': WHATEVER THE INPUT: true; the input reads as it did. -/
def fnDecideTwiceSpec : ChangeSpec := { name := "fnDecideTwice", vars := ["loop.example/atomicpush/impl.errRefLocked", "loop.example/atomicpush/impl.errLocksInvalid"], fn := fun _ => fun
  | [d, g1, g2] => { results := [.lit (.bool true)], args := [d], vars := [g1, g2] }
  | _ => none }
def fnDecideTwiceRow : OpenClaim := { program := "yteeffchnbkkpfaadoor", sum := "0d747f3886224dea3e2977e58a852ada69db24549fe607c9753705759a61612c", func := "loop.example/atomicpush/laws.FnDecideTwice", spec := "fnDecideTwice", inPlace := ["internal/reflectlite.TypeOf"], unfollowed := true, recurses := true, named := ["loop.example/atomicpush/impl.errRefLocked", "loop.example/atomicpush/impl.errLocksInvalid"], ifaces := true, apart := false, laid := [("loop.example/atomicpush/impl.errLocksInvalid", laid_loop_example_atomicpush_impl_errLocksInvalid), ("loop.example/atomicpush/impl.errRefLocked", laid_loop_example_atomicpush_impl_errRefLocked)] }
def FnDecideTwiceSaid : Prop := fnDecideTwiceRow.holds Tryd.pinned (OpenSpec.ofChange fnDecideTwiceSpec)

/-- ITS FALSE NEIGHBOUR: 'it returns false'. Refute it at one input. -/
def fnDecideTwiceWrong : ChangeSpec := { name := "fnDecideTwice", vars := ["loop.example/atomicpush/impl.errRefLocked", "loop.example/atomicpush/impl.errLocksInvalid"], fn := fun _ => fun
  | [d, g1, g2] => { results := [.lit (.bool false)], args := [d], vars := [g1, g2] }
  | _ => none }
def FnDecideTwiceWrongFalsely : Prop := fnDecideTwiceRow.holds Tryd.pinned (OpenSpec.ofChange fnDecideTwiceWrong)

/-- 'laws.FnDecideUnknown': WHATEVER THE INPUT: true; the input reads as it did. -/
def fnDecideUnknownSpec : ChangeSpec := { name := "fnDecideUnknown", vars := ["loop.example/atomicpush/impl.errRefLocked", "loop.example/atomicpush/impl.errLocksInvalid"], fn := fun _ => fun
  | [d, g1, g2] => { results := [.lit (.bool true)], args := [d], vars := [g1, g2] }
  | _ => none }
def fnDecideUnknownRow : OpenClaim := { program := "yteeffchnbkkpfaadoor", sum := "0d747f3886224dea3e2977e58a852ada69db24549fe607c9753705759a61612c", func := "loop.example/atomicpush/laws.FnDecideUnknown", spec := "fnDecideUnknown", inPlace := ["internal/reflectlite.TypeOf"], unfollowed := true, recurses := true, named := ["loop.example/atomicpush/impl.errRefLocked", "loop.example/atomicpush/impl.errLocksInvalid"], ifaces := true, apart := false, laid := [("loop.example/atomicpush/impl.errLocksInvalid", laid_loop_example_atomicpush_impl_errLocksInvalid), ("loop.example/atomicpush/impl.errRefLocked", laid_loop_example_atomicpush_impl_errRefLocked)] }
def FnDecideUnknownSaid : Prop := fnDecideUnknownRow.holds Tryd.pinned (OpenSpec.ofChange fnDecideUnknownSpec)

/-- ITS FALSE NEIGHBOUR: 'it returns false'. Refute it at one input. -/
def fnDecideUnknownWrong : ChangeSpec := { name := "fnDecideUnknown", vars := ["loop.example/atomicpush/impl.errRefLocked", "loop.example/atomicpush/impl.errLocksInvalid"], fn := fun _ => fun
  | [d, g1, g2] => { results := [.lit (.bool false)], args := [d], vars := [g1, g2] }
  | _ => none }
def FnDecideUnknownWrongFalsely : Prop := fnDecideUnknownRow.holds Tryd.pinned (OpenSpec.ofChange fnDecideUnknownWrong)

/-- 'laws.FnRecover': WHATEVER THE INPUT: true; the input reads as it did. -/
def fnRecoverSpec : ChangeSpec := { name := "fnRecover", vars := ["loop.example/atomicpush/impl.errRefLocked", "loop.example/atomicpush/impl.errLocksInvalid"], fn := fun _ => fun
  | [d1, d2, g1, g2] => { results := [.lit (.bool true)], args := [d1, d2], vars := [g1, g2] }
  | _ => none }
def fnRecoverRow : OpenClaim := { program := "yteeffchnbkkpfaadoor", sum := "0d747f3886224dea3e2977e58a852ada69db24549fe607c9753705759a61612c", func := "loop.example/atomicpush/laws.FnRecover", spec := "fnRecover", inPlace := ["internal/reflectlite.TypeOf"], unfollowed := true, recurses := true, named := ["loop.example/atomicpush/impl.errRefLocked", "loop.example/atomicpush/impl.errLocksInvalid"], ifaces := true, apart := false, laid := [("loop.example/atomicpush/impl.errLocksInvalid", laid_loop_example_atomicpush_impl_errLocksInvalid), ("loop.example/atomicpush/impl.errRefLocked", laid_loop_example_atomicpush_impl_errRefLocked)] }
def FnRecoverSaid : Prop := fnRecoverRow.holds Tryd.pinned (OpenSpec.ofChange fnRecoverSpec)

/-- ITS FALSE NEIGHBOUR: 'it returns false'. Refute it at one input. -/
def fnRecoverWrong : ChangeSpec := { name := "fnRecover", vars := ["loop.example/atomicpush/impl.errRefLocked", "loop.example/atomicpush/impl.errLocksInvalid"], fn := fun _ => fun
  | [d1, d2, g1, g2] => { results := [.lit (.bool false)], args := [d1, d2], vars := [g1, g2] }
  | _ => none }
def FnRecoverWrongFalsely : Prop := fnRecoverRow.holds Tryd.pinned (OpenSpec.ofChange fnRecoverWrong)

/-- 'laws.FnRecoverNew': WHATEVER THE INPUT: true; the input reads as it did. -/
def fnRecoverNewSpec : ChangeSpec := { name := "fnRecoverNew", vars := ["loop.example/atomicpush/impl.errRefLocked", "loop.example/atomicpush/impl.errLocksInvalid"], fn := fun _ => fun
  | [d, g1, g2] => { results := [.lit (.bool true)], args := [d], vars := [g1, g2] }
  | _ => none }
def fnRecoverNewRow : OpenClaim := { program := "yteeffchnbkkpfaadoor", sum := "0d747f3886224dea3e2977e58a852ada69db24549fe607c9753705759a61612c", func := "loop.example/atomicpush/laws.FnRecoverNew", spec := "fnRecoverNew", inPlace := ["internal/reflectlite.TypeOf"], unfollowed := true, recurses := true, named := ["loop.example/atomicpush/impl.errRefLocked", "loop.example/atomicpush/impl.errLocksInvalid"], ifaces := true, apart := false, laid := [("loop.example/atomicpush/impl.errLocksInvalid", laid_loop_example_atomicpush_impl_errLocksInvalid), ("loop.example/atomicpush/impl.errRefLocked", laid_loop_example_atomicpush_impl_errRefLocked)] }
def FnRecoverNewSaid : Prop := fnRecoverNewRow.holds Tryd.pinned (OpenSpec.ofChange fnRecoverNewSpec)

/-- ITS FALSE NEIGHBOUR: 'it returns false'. Refute it at one input. -/
def fnRecoverNewWrong : ChangeSpec := { name := "fnRecoverNew", vars := ["loop.example/atomicpush/impl.errRefLocked", "loop.example/atomicpush/impl.errLocksInvalid"], fn := fun _ => fun
  | [d, g1, g2] => { results := [.lit (.bool false)], args := [d], vars := [g1, g2] }
  | _ => none }
def FnRecoverNewWrongFalsely : Prop := fnRecoverNewRow.holds Tryd.pinned (OpenSpec.ofChange fnRecoverNewWrong)

/-- 'laws.FnCommitted': WHATEVER THE INPUT: true; the input reads as it did. -/
def fnCommittedSpec : ChangeSpec := { name := "fnCommitted", vars := ["loop.example/atomicpush/impl.errRefLocked", "loop.example/atomicpush/impl.errLocksInvalid"], fn := fun _ => fun
  | [d, g1, g2] => { results := [.lit (.bool true)], args := [d], vars := [g1, g2] }
  | _ => none }
def fnCommittedRow : OpenClaim := { program := "yteeffchnbkkpfaadoor", sum := "0d747f3886224dea3e2977e58a852ada69db24549fe607c9753705759a61612c", func := "loop.example/atomicpush/laws.FnCommitted", spec := "fnCommitted", inPlace := ["internal/reflectlite.TypeOf"], unfollowed := true, recurses := true, named := ["loop.example/atomicpush/impl.errRefLocked", "loop.example/atomicpush/impl.errLocksInvalid"], ifaces := true, apart := false, laid := [("loop.example/atomicpush/impl.errLocksInvalid", laid_loop_example_atomicpush_impl_errLocksInvalid), ("loop.example/atomicpush/impl.errRefLocked", laid_loop_example_atomicpush_impl_errRefLocked)] }
def FnCommittedSaid : Prop := fnCommittedRow.holds Tryd.pinned (OpenSpec.ofChange fnCommittedSpec)

/-- ITS FALSE NEIGHBOUR: 'it returns false'. Refute it at one input. -/
def fnCommittedWrong : ChangeSpec := { name := "fnCommitted", vars := ["loop.example/atomicpush/impl.errRefLocked", "loop.example/atomicpush/impl.errLocksInvalid"], fn := fun _ => fun
  | [d, g1, g2] => { results := [.lit (.bool false)], args := [d], vars := [g1, g2] }
  | _ => none }
def FnCommittedWrongFalsely : Prop := fnCommittedRow.holds Tryd.pinned (OpenSpec.ofChange fnCommittedWrong)

/- THE SECOND FORM. 'bulk': how many values and letters a reading holds, each counted each time it is reached (what is shared counts as often as it is met; a slice's spare places count too). A statement '..UptoSaid' is the law's where the arguments, and the package variables that the reading takes, are together of bulk at most 1048576: NARROWER than '..Said'. Prove '..Said' where nothing that the law and all that it calls make is longer than what came in: it says more and counts as full. Else prove '..UptoSaid'. A law counts once. -/
mutual
def uptoBulk {H : Type} : DataW H → Nat
  | .lit (.string bytes) => bytes.length + 1
  | .lit _ => 1
  | .nil => 1
  | .ptr d => uptoBulk d + 1
  | .slice elems spare => uptoBulkAll elems + uptoBulkAll spare + 1
  | .agg parts => uptoBulkAll parts + 1
  | .iface _ d => uptoBulk d + 1
  | .map entries => uptoBulkEntries entries + 1
  | .held _ => 1
def uptoBulkAll {H : Type} : List (DataW H) → Nat
  | [] => 0
  | d :: r => uptoBulk d + uptoBulkAll r
def uptoBulkEntries {H : Type} : List (Lit × DataW H) → Nat
  | [] => 0
  | x :: r => uptoBulkEntry x + uptoBulkEntries r
def uptoBulkEntry {H : Type} : Lit × DataW H → Nat
  | (.string bytes, d) => bytes.length + uptoBulk d + 1
  | (_, d) => uptoBulk d + 1
 end
def uptoSmall : (H : Type) → List (DataW H) → Bool := fun _ ds => decide (uptoBulkAll ds ≤ 1048576)
def OpenSpec.upto (s : _root_.Go.ChangeSpec) : _root_.Go.OpenSpec := { _root_.Go.OpenSpec.ofChange s with cond := some uptoSmall }

/-- 'laws.FnPrepare', WHERE WHAT IT READS IS OF BULK AT MOST 1048576: true; the input reads as it did. -/
def fnPrepareUptoRow : OpenClaim := { program := "yteeffchnbkkpfaadoor", sum := "0d747f3886224dea3e2977e58a852ada69db24549fe607c9753705759a61612c", func := "loop.example/atomicpush/laws.FnPrepare", spec := "fnPrepare", inPlace := ["internal/reflectlite.TypeOf"], unfollowed := true, recurses := true, named := ["loop.example/atomicpush/impl.errRefLocked", "loop.example/atomicpush/impl.errLocksInvalid"], ifaces := true, apart := false, laid := [("loop.example/atomicpush/impl.errLocksInvalid", laid_loop_example_atomicpush_impl_errLocksInvalid), ("loop.example/atomicpush/impl.errRefLocked", laid_loop_example_atomicpush_impl_errRefLocked)], narrowed := true }
def FnPrepareUptoSaid : Prop := fnPrepareUptoRow.holds Tryd.pinned (OpenSpec.upto fnPrepareSpec)

/-- 'laws.FnPrepareNo', WHERE WHAT IT READS IS OF BULK AT MOST 1048576: true; the input reads as it did. -/
def fnPrepareNoUptoRow : OpenClaim := { program := "yteeffchnbkkpfaadoor", sum := "0d747f3886224dea3e2977e58a852ada69db24549fe607c9753705759a61612c", func := "loop.example/atomicpush/laws.FnPrepareNo", spec := "fnPrepareNo", inPlace := ["internal/reflectlite.TypeOf"], unfollowed := true, recurses := true, named := ["loop.example/atomicpush/impl.errRefLocked", "loop.example/atomicpush/impl.errLocksInvalid"], ifaces := true, apart := false, laid := [("loop.example/atomicpush/impl.errLocksInvalid", laid_loop_example_atomicpush_impl_errLocksInvalid), ("loop.example/atomicpush/impl.errRefLocked", laid_loop_example_atomicpush_impl_errRefLocked)], narrowed := true }
def FnPrepareNoUptoSaid : Prop := fnPrepareNoUptoRow.holds Tryd.pinned (OpenSpec.upto fnPrepareNoSpec)

/-- 'laws.FnPrepareAgain', WHERE WHAT IT READS IS OF BULK AT MOST 1048576: true; the input reads as it did. -/
def fnPrepareAgainUptoRow : OpenClaim := { program := "yteeffchnbkkpfaadoor", sum := "0d747f3886224dea3e2977e58a852ada69db24549fe607c9753705759a61612c", func := "loop.example/atomicpush/laws.FnPrepareAgain", spec := "fnPrepareAgain", inPlace := ["internal/reflectlite.TypeOf"], unfollowed := true, recurses := true, named := ["loop.example/atomicpush/impl.errRefLocked", "loop.example/atomicpush/impl.errLocksInvalid"], ifaces := true, apart := false, laid := [("loop.example/atomicpush/impl.errLocksInvalid", laid_loop_example_atomicpush_impl_errLocksInvalid), ("loop.example/atomicpush/impl.errRefLocked", laid_loop_example_atomicpush_impl_errRefLocked)], narrowed := true }
def FnPrepareAgainUptoSaid : Prop := fnPrepareAgainUptoRow.holds Tryd.pinned (OpenSpec.upto fnPrepareAgainSpec)

/-- 'laws.FnPrepareTwice', WHERE WHAT IT READS IS OF BULK AT MOST 1048576: true; the input reads as it did. -/
def fnPrepareTwiceUptoRow : OpenClaim := { program := "yteeffchnbkkpfaadoor", sum := "0d747f3886224dea3e2977e58a852ada69db24549fe607c9753705759a61612c", func := "loop.example/atomicpush/laws.FnPrepareTwice", spec := "fnPrepareTwice", inPlace := ["internal/reflectlite.TypeOf"], unfollowed := true, recurses := true, named := ["loop.example/atomicpush/impl.errRefLocked", "loop.example/atomicpush/impl.errLocksInvalid"], ifaces := true, apart := false, laid := [("loop.example/atomicpush/impl.errLocksInvalid", laid_loop_example_atomicpush_impl_errLocksInvalid), ("loop.example/atomicpush/impl.errRefLocked", laid_loop_example_atomicpush_impl_errRefLocked)], narrowed := true }
def FnPrepareTwiceUptoSaid : Prop := fnPrepareTwiceUptoRow.holds Tryd.pinned (OpenSpec.upto fnPrepareTwiceSpec)

/-- 'laws.FnPrepareFits', WHERE WHAT IT READS IS OF BULK AT MOST 1048576: true; the input reads as it did. -/
def fnPrepareFitsUptoRow : OpenClaim := { program := "yteeffchnbkkpfaadoor", sum := "0d747f3886224dea3e2977e58a852ada69db24549fe607c9753705759a61612c", func := "loop.example/atomicpush/laws.FnPrepareFits", spec := "fnPrepareFits", inPlace := ["internal/reflectlite.TypeOf"], unfollowed := true, recurses := true, named := ["loop.example/atomicpush/impl.errRefLocked", "loop.example/atomicpush/impl.errLocksInvalid"], ifaces := true, apart := false, laid := [("loop.example/atomicpush/impl.errLocksInvalid", laid_loop_example_atomicpush_impl_errLocksInvalid), ("loop.example/atomicpush/impl.errRefLocked", laid_loop_example_atomicpush_impl_errRefLocked)], narrowed := true }
def FnPrepareFitsUptoSaid : Prop := fnPrepareFitsUptoRow.holds Tryd.pinned (OpenSpec.upto fnPrepareFitsSpec)

/-- 'laws.FnDecide', WHERE WHAT IT READS IS OF BULK AT MOST 1048576: true; the input reads as it did. -/
def fnDecideUptoRow : OpenClaim := { program := "yteeffchnbkkpfaadoor", sum := "0d747f3886224dea3e2977e58a852ada69db24549fe607c9753705759a61612c", func := "loop.example/atomicpush/laws.FnDecide", spec := "fnDecide", inPlace := ["internal/reflectlite.TypeOf"], unfollowed := true, recurses := true, named := ["loop.example/atomicpush/impl.errRefLocked", "loop.example/atomicpush/impl.errLocksInvalid"], ifaces := true, apart := false, laid := [("loop.example/atomicpush/impl.errLocksInvalid", laid_loop_example_atomicpush_impl_errLocksInvalid), ("loop.example/atomicpush/impl.errRefLocked", laid_loop_example_atomicpush_impl_errRefLocked)], narrowed := true }
def FnDecideUptoSaid : Prop := fnDecideUptoRow.holds Tryd.pinned (OpenSpec.upto fnDecideSpec)

/-- 'laws.FnDecideAbort', WHERE WHAT IT READS IS OF BULK AT MOST 1048576: true; the input reads as it did. -/
def fnDecideAbortUptoRow : OpenClaim := { program := "yteeffchnbkkpfaadoor", sum := "0d747f3886224dea3e2977e58a852ada69db24549fe607c9753705759a61612c", func := "loop.example/atomicpush/laws.FnDecideAbort", spec := "fnDecideAbort", inPlace := ["internal/reflectlite.TypeOf"], unfollowed := true, recurses := true, named := ["loop.example/atomicpush/impl.errRefLocked", "loop.example/atomicpush/impl.errLocksInvalid"], ifaces := true, apart := false, laid := [("loop.example/atomicpush/impl.errLocksInvalid", laid_loop_example_atomicpush_impl_errLocksInvalid), ("loop.example/atomicpush/impl.errRefLocked", laid_loop_example_atomicpush_impl_errRefLocked)], narrowed := true }
def FnDecideAbortUptoSaid : Prop := fnDecideAbortUptoRow.holds Tryd.pinned (OpenSpec.upto fnDecideAbortSpec)

/-- 'laws.FnDecideTwice', WHERE WHAT IT READS IS OF BULK AT MOST 1048576: true; the input reads as it did. -/
def fnDecideTwiceUptoRow : OpenClaim := { program := "yteeffchnbkkpfaadoor", sum := "0d747f3886224dea3e2977e58a852ada69db24549fe607c9753705759a61612c", func := "loop.example/atomicpush/laws.FnDecideTwice", spec := "fnDecideTwice", inPlace := ["internal/reflectlite.TypeOf"], unfollowed := true, recurses := true, named := ["loop.example/atomicpush/impl.errRefLocked", "loop.example/atomicpush/impl.errLocksInvalid"], ifaces := true, apart := false, laid := [("loop.example/atomicpush/impl.errLocksInvalid", laid_loop_example_atomicpush_impl_errLocksInvalid), ("loop.example/atomicpush/impl.errRefLocked", laid_loop_example_atomicpush_impl_errRefLocked)], narrowed := true }
def FnDecideTwiceUptoSaid : Prop := fnDecideTwiceUptoRow.holds Tryd.pinned (OpenSpec.upto fnDecideTwiceSpec)

/-- 'laws.FnDecideUnknown', WHERE WHAT IT READS IS OF BULK AT MOST 1048576: true; the input reads as it did. -/
def fnDecideUnknownUptoRow : OpenClaim := { program := "yteeffchnbkkpfaadoor", sum := "0d747f3886224dea3e2977e58a852ada69db24549fe607c9753705759a61612c", func := "loop.example/atomicpush/laws.FnDecideUnknown", spec := "fnDecideUnknown", inPlace := ["internal/reflectlite.TypeOf"], unfollowed := true, recurses := true, named := ["loop.example/atomicpush/impl.errRefLocked", "loop.example/atomicpush/impl.errLocksInvalid"], ifaces := true, apart := false, laid := [("loop.example/atomicpush/impl.errLocksInvalid", laid_loop_example_atomicpush_impl_errLocksInvalid), ("loop.example/atomicpush/impl.errRefLocked", laid_loop_example_atomicpush_impl_errRefLocked)], narrowed := true }
def FnDecideUnknownUptoSaid : Prop := fnDecideUnknownUptoRow.holds Tryd.pinned (OpenSpec.upto fnDecideUnknownSpec)

/-- 'laws.FnRecover', WHERE WHAT IT READS IS OF BULK AT MOST 1048576: true; the input reads as it did. -/
def fnRecoverUptoRow : OpenClaim := { program := "yteeffchnbkkpfaadoor", sum := "0d747f3886224dea3e2977e58a852ada69db24549fe607c9753705759a61612c", func := "loop.example/atomicpush/laws.FnRecover", spec := "fnRecover", inPlace := ["internal/reflectlite.TypeOf"], unfollowed := true, recurses := true, named := ["loop.example/atomicpush/impl.errRefLocked", "loop.example/atomicpush/impl.errLocksInvalid"], ifaces := true, apart := false, laid := [("loop.example/atomicpush/impl.errLocksInvalid", laid_loop_example_atomicpush_impl_errLocksInvalid), ("loop.example/atomicpush/impl.errRefLocked", laid_loop_example_atomicpush_impl_errRefLocked)], narrowed := true }
def FnRecoverUptoSaid : Prop := fnRecoverUptoRow.holds Tryd.pinned (OpenSpec.upto fnRecoverSpec)

/-- 'laws.FnRecoverNew', WHERE WHAT IT READS IS OF BULK AT MOST 1048576: true; the input reads as it did. -/
def fnRecoverNewUptoRow : OpenClaim := { program := "yteeffchnbkkpfaadoor", sum := "0d747f3886224dea3e2977e58a852ada69db24549fe607c9753705759a61612c", func := "loop.example/atomicpush/laws.FnRecoverNew", spec := "fnRecoverNew", inPlace := ["internal/reflectlite.TypeOf"], unfollowed := true, recurses := true, named := ["loop.example/atomicpush/impl.errRefLocked", "loop.example/atomicpush/impl.errLocksInvalid"], ifaces := true, apart := false, laid := [("loop.example/atomicpush/impl.errLocksInvalid", laid_loop_example_atomicpush_impl_errLocksInvalid), ("loop.example/atomicpush/impl.errRefLocked", laid_loop_example_atomicpush_impl_errRefLocked)], narrowed := true }
def FnRecoverNewUptoSaid : Prop := fnRecoverNewUptoRow.holds Tryd.pinned (OpenSpec.upto fnRecoverNewSpec)

/-- 'laws.FnCommitted', WHERE WHAT IT READS IS OF BULK AT MOST 1048576: true; the input reads as it did. -/
def fnCommittedUptoRow : OpenClaim := { program := "yteeffchnbkkpfaadoor", sum := "0d747f3886224dea3e2977e58a852ada69db24549fe607c9753705759a61612c", func := "loop.example/atomicpush/laws.FnCommitted", spec := "fnCommitted", inPlace := ["internal/reflectlite.TypeOf"], unfollowed := true, recurses := true, named := ["loop.example/atomicpush/impl.errRefLocked", "loop.example/atomicpush/impl.errLocksInvalid"], ifaces := true, apart := false, laid := [("loop.example/atomicpush/impl.errLocksInvalid", laid_loop_example_atomicpush_impl_errLocksInvalid), ("loop.example/atomicpush/impl.errRefLocked", laid_loop_example_atomicpush_impl_errRefLocked)], narrowed := true }
def FnCommittedUptoSaid : Prop := fnCommittedUptoRow.holds Tryd.pinned (OpenSpec.upto fnCommittedSpec)

end Rows
end Go.Proofs.YteeffchnbkkpfaaDoor
