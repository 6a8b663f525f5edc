/-
  NARROWER THAN 'FOR EVERY INPUT', by the rows' own cells (each row's printed sentence says how): FnPrepare: ifaces, laid · FnPrepareNo: ifaces, laid · FnPrepareAgain: ifaces, laid · FnPrepareTwice: ifaces, laid · FnPrepareFits: ifaces, laid · FnDecide: ifaces, laid · FnDecideAbort: ifaces, laid · FnDecideTwice: ifaces, laid · FnDecideUnknown: ifaces, laid · FnPrepareOther: ifaces, laid · FnDecideOther: ifaces, laid · FnLocksPrepared: ifaces, laid.
  DERIVED. THE GIVEN ROWS OF THIS SEAT. 12 by the template 'for every input the law returns true; each argument reads behind the call as it read before'; 0 by the template 'total and deterministic' (their statements: YthmnaljncapmeaaDoorTotals.lean).
  GIVEN WITH THE SEED: the statements are not yours to turn. If you find one false, say at which input.
  Laid BY PROGRAM, IN A SANDBOX (cutbox-rows.mjs): the forced cells as the released guide's own fill.sh prints them over the translation fa95b918608a3939… (all of the seat's roots in one cut). By AI agents, Wed Nov 11 2026. No macro, syntax, notation, axiom, sorry.
-/
import Derived.Test.YthmnaljncapmeaaDoorChecked
import GoSem.Claim
import GoSem.ClaimJoined
import GoSem.ClaimMapViews
import Derived.JoinedTies
import Derived.KernelRfl
namespace Go.Proofs.YthmnaljncapmeaaDoor
/- THE CELL 'sum', in the pinned program and in every row, IS THE sha256 OF THE DUMP (.gsa) THAT YthmnaljncapmeaaDoorProg.lean LOADS. Nothing in Lean hashes anything: it is a label: what it is worth is what the hold of that sum in a sandbox is worth. -/
noncomputable def Tryd.pinned : Pinned := { name := "ythmnaljncapmeaadoor", sum := "fa95b918608a39394fda22ef88e36557d2118df0ba163d6e6dc418887b32c174", checked := Tryd.checked }
namespace Rows
def none {H : Type} : Left H := { results := [], args := [] }

/- WHAT THE LISTED PACKAGE-LEVEL VARIABLES READ AS WHEN THE CALL BEGINS. Each datum BY PROGRAM (the guide's laid-datum.mjs) off the statement by which the dump's own 'gosem.cut.vars' lays the variable. In a bare row this is a premise. The card (YthmnaljncapmeaaDoorCards.lean) ties it to the program's text. -/
def laid_loop_example_atomicpush_impl_errLocksInvalid {H : Type} : DataW H := .iface "*errors.errorString" (.ptr (.agg [.lit (.string [105, 110, 118, 97, 108, 105, 100, 32, 108, 111, 99, 107, 115, 44, 32, 116, 114, 97, 110, 115, 97, 99, 116, 105, 111, 110, 32, 111, 114, 32, 117, 112, 100, 97, 116, 101, 115])]))
def laid_loop_example_atomicpush_impl_errRefLocked {H : Type} : DataW H := .iface "*errors.errorString" (.ptr (.agg [.lit (.string [108, 111, 99, 107, 101, 100, 32, 114, 101, 102])]))

/-- 'laws.FnPrepare': WHATEVER THE INPUT: true; the input reads as it did. -/
def fnPrepareSpec : ChangeSpec := { name := "fnPrepare", vars := ["loop.example/atomicpush/impl.errRefLocked", "loop.example/atomicpush/impl.errLocksInvalid"], fn := fun _ => fun
  | [d, g1, g2] => { results := [.lit (.bool true)], args := [d], vars := [g1, g2] }
  | _ => none }
def fnPrepareRow : OpenClaim := { program := "ythmnaljncapmeaadoor", sum := "fa95b918608a39394fda22ef88e36557d2118df0ba163d6e6dc418887b32c174", func := "loop.example/atomicpush/laws.FnPrepare", spec := "fnPrepare", inPlace := ["internal/reflectlite.TypeOf"], unfollowed := true, recurses := true, named := ["loop.example/atomicpush/impl.errRefLocked", "loop.example/atomicpush/impl.errLocksInvalid"], ifaces := true, apart := false, laid := [("loop.example/atomicpush/impl.errLocksInvalid", laid_loop_example_atomicpush_impl_errLocksInvalid), ("loop.example/atomicpush/impl.errRefLocked", laid_loop_example_atomicpush_impl_errRefLocked)] }
def FnPrepareSaid : Prop := fnPrepareRow.holds Tryd.pinned (OpenSpec.ofChange fnPrepareSpec)

/-- ITS FALSE NEIGHBOUR: 'it returns false'. Refute it at one input. -/
def fnPrepareWrong : ChangeSpec := { name := "fnPrepare", vars := ["loop.example/atomicpush/impl.errRefLocked", "loop.example/atomicpush/impl.errLocksInvalid"], fn := fun _ => fun
  | [d, g1, g2] => { results := [.lit (.bool false)], args := [d], vars := [g1, g2] }
  | _ => none }
def FnPrepareWrongFalsely : Prop := fnPrepareRow.holds Tryd.pinned (OpenSpec.ofChange fnPrepareWrong)

/-- 'laws.FnPrepareNo': WHATEVER THE INPUT: true; the input reads as it did. -/
def fnPrepareNoSpec : ChangeSpec := { name := "fnPrepareNo", vars := ["loop.example/atomicpush/impl.errRefLocked", "loop.example/atomicpush/impl.errLocksInvalid"], fn := fun _ => fun
  | [d, g1, g2] => { results := [.lit (.bool true)], args := [d], vars := [g1, g2] }
  | _ => none }
def fnPrepareNoRow : OpenClaim := { program := "ythmnaljncapmeaadoor", sum := "fa95b918608a39394fda22ef88e36557d2118df0ba163d6e6dc418887b32c174", func := "loop.example/atomicpush/laws.FnPrepareNo", spec := "fnPrepareNo", inPlace := ["internal/reflectlite.TypeOf"], unfollowed := true, recurses := true, named := ["loop.example/atomicpush/impl.errRefLocked", "loop.example/atomicpush/impl.errLocksInvalid"], ifaces := true, apart := false, laid := [("loop.example/atomicpush/impl.errLocksInvalid", laid_loop_example_atomicpush_impl_errLocksInvalid), ("loop.example/atomicpush/impl.errRefLocked", laid_loop_example_atomicpush_impl_errRefLocked)] }
def FnPrepareNoSaid : Prop := fnPrepareNoRow.holds Tryd.pinned (OpenSpec.ofChange fnPrepareNoSpec)

/-- ITS FALSE NEIGHBOUR: 'it returns false'. Refute it at one input. -/
def fnPrepareNoWrong : ChangeSpec := { name := "fnPrepareNo", vars := ["loop.example/atomicpush/impl.errRefLocked", "loop.example/atomicpush/impl.errLocksInvalid"], fn := fun _ => fun
  | [d, g1, g2] => { results := [.lit (.bool false)], args := [d], vars := [g1, g2] }
  | _ => none }
def FnPrepareNoWrongFalsely : Prop := fnPrepareNoRow.holds Tryd.pinned (OpenSpec.ofChange fnPrepareNoWrong)

/-- 'laws.FnPrepareAgain': WHATEVER THE INPUT: true; the input reads as it did. -/
def fnPrepareAgainSpec : ChangeSpec := { name := "fnPrepareAgain", vars := ["loop.example/atomicpush/impl.errRefLocked", "loop.example/atomicpush/impl.errLocksInvalid"], fn := fun _ => fun
  | [d, g1, g2] => { results := [.lit (.bool true)], args := [d], vars := [g1, g2] }
  | _ => none }
def fnPrepareAgainRow : OpenClaim := { program := "ythmnaljncapmeaadoor", sum := "fa95b918608a39394fda22ef88e36557d2118df0ba163d6e6dc418887b32c174", func := "loop.example/atomicpush/laws.FnPrepareAgain", spec := "fnPrepareAgain", inPlace := ["internal/reflectlite.TypeOf"], unfollowed := true, recurses := true, named := ["loop.example/atomicpush/impl.errRefLocked", "loop.example/atomicpush/impl.errLocksInvalid"], ifaces := true, apart := false, laid := [("loop.example/atomicpush/impl.errLocksInvalid", laid_loop_example_atomicpush_impl_errLocksInvalid), ("loop.example/atomicpush/impl.errRefLocked", laid_loop_example_atomicpush_impl_errRefLocked)] }
def FnPrepareAgainSaid : Prop := fnPrepareAgainRow.holds Tryd.pinned (OpenSpec.ofChange fnPrepareAgainSpec)

/-- ITS FALSE NEIGHBOUR: 'it returns false'. Refute it at one input. -/
def fnPrepareAgainWrong : ChangeSpec := { name := "fnPrepareAgain", vars := ["loop.example/atomicpush/impl.errRefLocked", "loop.example/atomicpush/impl.errLocksInvalid"], fn := fun _ => fun
  | [d, g1, g2] => { results := [.lit (.bool false)], args := [d], vars := [g1, g2] }
  | _ => none }
def FnPrepareAgainWrongFalsely : Prop := fnPrepareAgainRow.holds Tryd.pinned (OpenSpec.ofChange fnPrepareAgainWrong)

/-- 'laws.FnPrepareTwice': WHATEVER THE INPUT: true; the input reads as it did. -/
def fnPrepareTwiceSpec : ChangeSpec := { name := "fnPrepareTwice", vars := ["loop.example/atomicpush/impl.errRefLocked", "loop.example/atomicpush/impl.errLocksInvalid"], fn := fun _ => fun
  | [d, g1, g2] => { results := [.lit (.bool true)], args := [d], vars := [g1, g2] }
  | _ => none }
def fnPrepareTwiceRow : OpenClaim := { program := "ythmnaljncapmeaadoor", sum := "fa95b918608a39394fda22ef88e36557d2118df0ba163d6e6dc418887b32c174", func := "loop.example/atomicpush/laws.FnPrepareTwice", spec := "fnPrepareTwice", inPlace := ["internal/reflectlite.TypeOf"], unfollowed := true, recurses := true, named := ["loop.example/atomicpush/impl.errRefLocked", "loop.example/atomicpush/impl.errLocksInvalid"], ifaces := true, apart := false, laid := [("loop.example/atomicpush/impl.errLocksInvalid", laid_loop_example_atomicpush_impl_errLocksInvalid), ("loop.example/atomicpush/impl.errRefLocked", laid_loop_example_atomicpush_impl_errRefLocked)] }
def FnPrepareTwiceSaid : Prop := fnPrepareTwiceRow.holds Tryd.pinned (OpenSpec.ofChange fnPrepareTwiceSpec)

/-- ITS FALSE NEIGHBOUR: 'it returns false'. Refute it at one input. -/
def fnPrepareTwiceWrong : ChangeSpec := { name := "fnPrepareTwice", vars := ["loop.example/atomicpush/impl.errRefLocked", "loop.example/atomicpush/impl.errLocksInvalid"], fn := fun _ => fun
  | [d, g1, g2] => { results := [.lit (.bool false)], args := [d], vars := [g1, g2] }
  | _ => none }
def FnPrepareTwiceWrongFalsely : Prop := fnPrepareTwiceRow.holds Tryd.pinned (OpenSpec.ofChange fnPrepareTwiceWrong)

/-- 'laws.FnPrepareFits': WHATEVER THE INPUT: true; the input reads as it did. -/
def fnPrepareFitsSpec : ChangeSpec := { name := "fnPrepareFits", vars := ["loop.example/atomicpush/impl.errRefLocked", "loop.example/atomicpush/impl.errLocksInvalid"], fn := fun _ => fun
  | [d, g1, g2] => { results := [.lit (.bool true)], args := [d], vars := [g1, g2] }
  | _ => none }
def fnPrepareFitsRow : OpenClaim := { program := "ythmnaljncapmeaadoor", sum := "fa95b918608a39394fda22ef88e36557d2118df0ba163d6e6dc418887b32c174", func := "loop.example/atomicpush/laws.FnPrepareFits", spec := "fnPrepareFits", inPlace := ["internal/reflectlite.TypeOf"], unfollowed := true, recurses := true, named := ["loop.example/atomicpush/impl.errRefLocked", "loop.example/atomicpush/impl.errLocksInvalid"], ifaces := true, apart := false, laid := [("loop.example/atomicpush/impl.errLocksInvalid", laid_loop_example_atomicpush_impl_errLocksInvalid), ("loop.example/atomicpush/impl.errRefLocked", laid_loop_example_atomicpush_impl_errRefLocked)] }
def FnPrepareFitsSaid : Prop := fnPrepareFitsRow.holds Tryd.pinned (OpenSpec.ofChange fnPrepareFitsSpec)

/-- ITS FALSE NEIGHBOUR: 'it returns false'. Refute it at one input. -/
def fnPrepareFitsWrong : ChangeSpec := { name := "fnPrepareFits", vars := ["loop.example/atomicpush/impl.errRefLocked", "loop.example/atomicpush/impl.errLocksInvalid"], fn := fun _ => fun
  | [d, g1, g2] => { results := [.lit (.bool false)], args := [d], vars := [g1, g2] }
  | _ => none }
def FnPrepareFitsWrongFalsely : Prop := fnPrepareFitsRow.holds Tryd.pinned (OpenSpec.ofChange fnPrepareFitsWrong)

/-- 'laws.FnDecide': WHATEVER THE INPUT: true; the input reads as it did. -/
def fnDecideSpec : ChangeSpec := { name := "fnDecide", vars := ["loop.example/atomicpush/impl.errRefLocked", "loop.example/atomicpush/impl.errLocksInvalid"], fn := fun _ => fun
  | [d, g1, g2] => { results := [.lit (.bool true)], args := [d], vars := [g1, g2] }
  | _ => none }
def fnDecideRow : OpenClaim := { program := "ythmnaljncapmeaadoor", sum := "fa95b918608a39394fda22ef88e36557d2118df0ba163d6e6dc418887b32c174", func := "loop.example/atomicpush/laws.FnDecide", spec := "fnDecide", inPlace := ["internal/reflectlite.TypeOf"], unfollowed := true, recurses := true, named := ["loop.example/atomicpush/impl.errRefLocked", "loop.example/atomicpush/impl.errLocksInvalid"], ifaces := true, apart := false, laid := [("loop.example/atomicpush/impl.errLocksInvalid", laid_loop_example_atomicpush_impl_errLocksInvalid), ("loop.example/atomicpush/impl.errRefLocked", laid_loop_example_atomicpush_impl_errRefLocked)] }
def FnDecideSaid : Prop := fnDecideRow.holds Tryd.pinned (OpenSpec.ofChange fnDecideSpec)

/-- ITS FALSE NEIGHBOUR: 'it returns false'. Refute it at one input. -/
def fnDecideWrong : ChangeSpec := { name := "fnDecide", vars := ["loop.example/atomicpush/impl.errRefLocked", "loop.example/atomicpush/impl.errLocksInvalid"], fn := fun _ => fun
  | [d, g1, g2] => { results := [.lit (.bool false)], args := [d], vars := [g1, g2] }
  | _ => none }
def FnDecideWrongFalsely : Prop := fnDecideRow.holds Tryd.pinned (OpenSpec.ofChange fnDecideWrong)

/-- 'laws.FnDecideAbort': WHATEVER THE INPUT: true; the input reads as it did. -/
def fnDecideAbortSpec : ChangeSpec := { name := "fnDecideAbort", vars := ["loop.example/atomicpush/impl.errRefLocked", "loop.example/atomicpush/impl.errLocksInvalid"], fn := fun _ => fun
  | [d, g1, g2] => { results := [.lit (.bool true)], args := [d], vars := [g1, g2] }
  | _ => none }
def fnDecideAbortRow : OpenClaim := { program := "ythmnaljncapmeaadoor", sum := "fa95b918608a39394fda22ef88e36557d2118df0ba163d6e6dc418887b32c174", func := "loop.example/atomicpush/laws.FnDecideAbort", spec := "fnDecideAbort", inPlace := ["internal/reflectlite.TypeOf"], unfollowed := true, recurses := true, named := ["loop.example/atomicpush/impl.errRefLocked", "loop.example/atomicpush/impl.errLocksInvalid"], ifaces := true, apart := false, laid := [("loop.example/atomicpush/impl.errLocksInvalid", laid_loop_example_atomicpush_impl_errLocksInvalid), ("loop.example/atomicpush/impl.errRefLocked", laid_loop_example_atomicpush_impl_errRefLocked)] }
def FnDecideAbortSaid : Prop := fnDecideAbortRow.holds Tryd.pinned (OpenSpec.ofChange fnDecideAbortSpec)

/-- ITS FALSE NEIGHBOUR: 'it returns false'. Refute it at one input. -/
def fnDecideAbortWrong : ChangeSpec := { name := "fnDecideAbort", vars := ["loop.example/atomicpush/impl.errRefLocked", "loop.example/atomicpush/impl.errLocksInvalid"], fn := fun _ => fun
  | [d, g1, g2] => { results := [.lit (.bool false)], args := [d], vars := [g1, g2] }
  | _ => none }
def FnDecideAbortWrongFalsely : Prop := fnDecideAbortRow.holds Tryd.pinned (OpenSpec.ofChange fnDecideAbortWrong)

/-- 'laws.FnDecideTwice': WHATEVER THE INPUT: true; the input reads as it did. -/
def fnDecideTwiceSpec : ChangeSpec := { name := "fnDecideTwice", vars := ["loop.example/atomicpush/impl.errRefLocked", "loop.example/atomicpush/impl.errLocksInvalid"], fn := fun _ => fun
  | [d, g1, g2] => { results := [.lit (.bool true)], args := [d], vars := [g1, g2] }
  | _ => none }
def fnDecideTwiceRow : OpenClaim := { program := "ythmnaljncapmeaadoor", sum := "fa95b918608a39394fda22ef88e36557d2118df0ba163d6e6dc418887b32c174", func := "loop.example/atomicpush/laws.FnDecideTwice", spec := "fnDecideTwice", inPlace := ["internal/reflectlite.TypeOf"], unfollowed := true, recurses := true, named := ["loop.example/atomicpush/impl.errRefLocked", "loop.example/atomicpush/impl.errLocksInvalid"], ifaces := true, apart := false, laid := [("loop.example/atomicpush/impl.errLocksInvalid", laid_loop_example_atomicpush_impl_errLocksInvalid), ("loop.example/atomicpush/impl.errRefLocked", laid_loop_example_atomicpush_impl_errRefLocked)] }
def FnDecideTwiceSaid : Prop := fnDecideTwiceRow.holds Tryd.pinned (OpenSpec.ofChange fnDecideTwiceSpec)

/-- ITS FALSE NEIGHBOUR: 'it returns false'. Refute it at one input. -/
def fnDecideTwiceWrong : ChangeSpec := { name := "fnDecideTwice", vars := ["loop.example/atomicpush/impl.errRefLocked", "loop.example/atomicpush/impl.errLocksInvalid"], fn := fun _ => fun
  | [d, g1, g2] => { results := [.lit (.bool false)], args := [d], vars := [g1, g2] }
  | _ => none }
def FnDecideTwiceWrongFalsely : Prop := fnDecideTwiceRow.holds Tryd.pinned (OpenSpec.ofChange fnDecideTwiceWrong)

/-- 'laws.FnDecideUnknown': WHATEVER THE INPUT: true; the input reads as it did. -/
def fnDecideUnknownSpec : ChangeSpec := { name := "fnDecideUnknown", vars := ["loop.example/atomicpush/impl.errRefLocked", "loop.example/atomicpush/impl.errLocksInvalid"], fn := fun _ => fun
  | [d, g1, g2] => { results := [.lit (.bool true)], args := [d], vars := [g1, g2] }
  | _ => none }
def fnDecideUnknownRow : OpenClaim := { program := "ythmnaljncapmeaadoor", sum := "fa95b918608a39394fda22ef88e36557d2118df0ba163d6e6dc418887b32c174", func := "loop.example/atomicpush/laws.FnDecideUnknown", spec := "fnDecideUnknown", inPlace := ["internal/reflectlite.TypeOf"], unfollowed := true, recurses := true, named := ["loop.example/atomicpush/impl.errRefLocked", "loop.example/atomicpush/impl.errLocksInvalid"], ifaces := true, apart := false, laid := [("loop.example/atomicpush/impl.errLocksInvalid", laid_loop_example_atomicpush_impl_errLocksInvalid), ("loop.example/atomicpush/impl.errRefLocked", laid_loop_example_atomicpush_impl_errRefLocked)] }
def FnDecideUnknownSaid : Prop := fnDecideUnknownRow.holds Tryd.pinned (OpenSpec.ofChange fnDecideUnknownSpec)

/-- ITS FALSE NEIGHBOUR: 'it returns false'. Refute it at one input. -/
def fnDecideUnknownWrong : ChangeSpec := { name := "fnDecideUnknown", vars := ["loop.example/atomicpush/impl.errRefLocked", "loop.example/atomicpush/impl.errLocksInvalid"], fn := fun _ => fun
  | [d, g1, g2] => { results := [.lit (.bool false)], args := [d], vars := [g1, g2] }
  | _ => none }
def FnDecideUnknownWrongFalsely : Prop := fnDecideUnknownRow.holds Tryd.pinned (OpenSpec.ofChange fnDecideUnknownWrong)

/-- 'laws.FnPrepareOther': WHATEVER THE INPUT: true; the input reads as it did. -/
def fnPrepareOtherSpec : ChangeSpec := { name := "fnPrepareOther", vars := ["loop.example/atomicpush/impl.errRefLocked", "loop.example/atomicpush/impl.errLocksInvalid"], fn := fun _ => fun
  | [d, g1, g2] => { results := [.lit (.bool true)], args := [d], vars := [g1, g2] }
  | _ => none }
def fnPrepareOtherRow : OpenClaim := { program := "ythmnaljncapmeaadoor", sum := "fa95b918608a39394fda22ef88e36557d2118df0ba163d6e6dc418887b32c174", func := "loop.example/atomicpush/laws.FnPrepareOther", spec := "fnPrepareOther", inPlace := ["internal/reflectlite.TypeOf"], unfollowed := true, recurses := true, named := ["loop.example/atomicpush/impl.errRefLocked", "loop.example/atomicpush/impl.errLocksInvalid"], ifaces := true, apart := false, laid := [("loop.example/atomicpush/impl.errLocksInvalid", laid_loop_example_atomicpush_impl_errLocksInvalid), ("loop.example/atomicpush/impl.errRefLocked", laid_loop_example_atomicpush_impl_errRefLocked)] }
def FnPrepareOtherSaid : Prop := fnPrepareOtherRow.holds Tryd.pinned (OpenSpec.ofChange fnPrepareOtherSpec)

/-- ITS FALSE NEIGHBOUR: 'it returns false'. Refute it at one input. -/
def fnPrepareOtherWrong : ChangeSpec := { name := "fnPrepareOther", vars := ["loop.example/atomicpush/impl.errRefLocked", "loop.example/atomicpush/impl.errLocksInvalid"], fn := fun _ => fun
  | [d, g1, g2] => { results := [.lit (.bool false)], args := [d], vars := [g1, g2] }
  | _ => none }
def FnPrepareOtherWrongFalsely : Prop := fnPrepareOtherRow.holds Tryd.pinned (OpenSpec.ofChange fnPrepareOtherWrong)

/-- 'laws.FnDecideOther': WHATEVER THE INPUT: true; the input reads as it did. -/
def fnDecideOtherSpec : ChangeSpec := { name := "fnDecideOther", vars := ["loop.example/atomicpush/impl.errRefLocked", "loop.example/atomicpush/impl.errLocksInvalid"], fn := fun _ => fun
  | [d, g1, g2] => { results := [.lit (.bool true)], args := [d], vars := [g1, g2] }
  | _ => none }
def fnDecideOtherRow : OpenClaim := { program := "ythmnaljncapmeaadoor", sum := "fa95b918608a39394fda22ef88e36557d2118df0ba163d6e6dc418887b32c174", func := "loop.example/atomicpush/laws.FnDecideOther", spec := "fnDecideOther", inPlace := ["internal/reflectlite.TypeOf"], unfollowed := true, recurses := true, named := ["loop.example/atomicpush/impl.errRefLocked", "loop.example/atomicpush/impl.errLocksInvalid"], ifaces := true, apart := false, laid := [("loop.example/atomicpush/impl.errLocksInvalid", laid_loop_example_atomicpush_impl_errLocksInvalid), ("loop.example/atomicpush/impl.errRefLocked", laid_loop_example_atomicpush_impl_errRefLocked)] }
def FnDecideOtherSaid : Prop := fnDecideOtherRow.holds Tryd.pinned (OpenSpec.ofChange fnDecideOtherSpec)

/-- ITS FALSE NEIGHBOUR: 'it returns false'. Refute it at one input. -/
def fnDecideOtherWrong : ChangeSpec := { name := "fnDecideOther", vars := ["loop.example/atomicpush/impl.errRefLocked", "loop.example/atomicpush/impl.errLocksInvalid"], fn := fun _ => fun
  | [d, g1, g2] => { results := [.lit (.bool false)], args := [d], vars := [g1, g2] }
  | _ => none }
def FnDecideOtherWrongFalsely : Prop := fnDecideOtherRow.holds Tryd.pinned (OpenSpec.ofChange fnDecideOtherWrong)

/-- 'laws.FnLocksPrepared': WHATEVER THE INPUT: true; the input reads as it did. -/
def fnLocksPreparedSpec : ChangeSpec := { name := "fnLocksPrepared", vars := ["loop.example/atomicpush/impl.errRefLocked", "loop.example/atomicpush/impl.errLocksInvalid"], fn := fun _ => fun
  | [d, g1, g2] => { results := [.lit (.bool true)], args := [d], vars := [g1, g2] }
  | _ => none }
def fnLocksPreparedRow : OpenClaim := { program := "ythmnaljncapmeaadoor", sum := "fa95b918608a39394fda22ef88e36557d2118df0ba163d6e6dc418887b32c174", func := "loop.example/atomicpush/laws.FnLocksPrepared", spec := "fnLocksPrepared", inPlace := ["internal/reflectlite.TypeOf"], unfollowed := true, recurses := true, named := ["loop.example/atomicpush/impl.errRefLocked", "loop.example/atomicpush/impl.errLocksInvalid"], ifaces := true, apart := false, laid := [("loop.example/atomicpush/impl.errLocksInvalid", laid_loop_example_atomicpush_impl_errLocksInvalid), ("loop.example/atomicpush/impl.errRefLocked", laid_loop_example_atomicpush_impl_errRefLocked)] }
def FnLocksPreparedSaid : Prop := fnLocksPreparedRow.holds Tryd.pinned (OpenSpec.ofChange fnLocksPreparedSpec)

/-- ITS FALSE NEIGHBOUR: 'it returns false'. Refute it at one input. -/
def fnLocksPreparedWrong : ChangeSpec := { name := "fnLocksPrepared", vars := ["loop.example/atomicpush/impl.errRefLocked", "loop.example/atomicpush/impl.errLocksInvalid"], fn := fun _ => fun
  | [d, g1, g2] => { results := [.lit (.bool false)], args := [d], vars := [g1, g2] }
  | _ => none }
def FnLocksPreparedWrongFalsely : Prop := fnLocksPreparedRow.holds Tryd.pinned (OpenSpec.ofChange fnLocksPreparedWrong)

/- THE SECOND FORM. 'bulk': how many values and letters a reading holds, each counted each time it is reached (what is shared counts as often as it is met; a slice's spare places count too). A statement '..UptoSaid' is the law's where the arguments, and the package variables that the reading takes, are together of bulk at most 1048576: NARROWER than '..Said'. Prove '..Said' where nothing that the law and all that it calls make is longer than what came in: it says more and counts as full. Else prove '..UptoSaid'. A law counts once. -/
mutual
def uptoBulk {H : Type} : DataW H → Nat
  | .lit (.string bytes) => bytes.length + 1
  | .lit _ => 1
  | .nil => 1
  | .ptr d => uptoBulk d + 1
  | .slice elems spare => uptoBulkAll elems + uptoBulkAll spare + 1
  | .agg parts => uptoBulkAll parts + 1
  | .iface _ d => uptoBulk d + 1
  | .map entries => uptoBulkEntries entries + 1
  | .held _ => 1
def uptoBulkAll {H : Type} : List (DataW H) → Nat
  | [] => 0
  | d :: r => uptoBulk d + uptoBulkAll r
def uptoBulkEntries {H : Type} : List (Lit × DataW H) → Nat
  | [] => 0
  | x :: r => uptoBulkEntry x + uptoBulkEntries r
def uptoBulkEntry {H : Type} : Lit × DataW H → Nat
  | (.string bytes, d) => bytes.length + uptoBulk d + 1
  | (_, d) => uptoBulk d + 1
 end
def uptoSmall : (H : Type) → List (DataW H) → Bool := fun _ ds => decide (uptoBulkAll ds ≤ 1048576)
def OpenSpec.upto (s : _root_.Go.ChangeSpec) : _root_.Go.OpenSpec := { _root_.Go.OpenSpec.ofChange s with cond := some uptoSmall }

/-- 'laws.FnPrepare', WHERE WHAT IT READS IS OF BULK AT MOST 1048576: true; the input reads as it did. -/
def fnPrepareUptoRow : OpenClaim := { program := "ythmnaljncapmeaadoor", sum := "fa95b918608a39394fda22ef88e36557d2118df0ba163d6e6dc418887b32c174", func := "loop.example/atomicpush/laws.FnPrepare", spec := "fnPrepare", inPlace := ["internal/reflectlite.TypeOf"], unfollowed := true, recurses := true, named := ["loop.example/atomicpush/impl.errRefLocked", "loop.example/atomicpush/impl.errLocksInvalid"], ifaces := true, apart := false, laid := [("loop.example/atomicpush/impl.errLocksInvalid", laid_loop_example_atomicpush_impl_errLocksInvalid), ("loop.example/atomicpush/impl.errRefLocked", laid_loop_example_atomicpush_impl_errRefLocked)], narrowed := true }
def FnPrepareUptoSaid : Prop := fnPrepareUptoRow.holds Tryd.pinned (OpenSpec.upto fnPrepareSpec)

/-- 'laws.FnPrepareNo', WHERE WHAT IT READS IS OF BULK AT MOST 1048576: true; the input reads as it did. -/
def fnPrepareNoUptoRow : OpenClaim := { program := "ythmnaljncapmeaadoor", sum := "fa95b918608a39394fda22ef88e36557d2118df0ba163d6e6dc418887b32c174", func := "loop.example/atomicpush/laws.FnPrepareNo", spec := "fnPrepareNo", inPlace := ["internal/reflectlite.TypeOf"], unfollowed := true, recurses := true, named := ["loop.example/atomicpush/impl.errRefLocked", "loop.example/atomicpush/impl.errLocksInvalid"], ifaces := true, apart := false, laid := [("loop.example/atomicpush/impl.errLocksInvalid", laid_loop_example_atomicpush_impl_errLocksInvalid), ("loop.example/atomicpush/impl.errRefLocked", laid_loop_example_atomicpush_impl_errRefLocked)], narrowed := true }
def FnPrepareNoUptoSaid : Prop := fnPrepareNoUptoRow.holds Tryd.pinned (OpenSpec.upto fnPrepareNoSpec)

/-- 'laws.FnPrepareAgain', WHERE WHAT IT READS IS OF BULK AT MOST 1048576: true; the input reads as it did. -/
def fnPrepareAgainUptoRow : OpenClaim := { program := "ythmnaljncapmeaadoor", sum := "fa95b918608a39394fda22ef88e36557d2118df0ba163d6e6dc418887b32c174", func := "loop.example/atomicpush/laws.FnPrepareAgain", spec := "fnPrepareAgain", inPlace := ["internal/reflectlite.TypeOf"], unfollowed := true, recurses := true, named := ["loop.example/atomicpush/impl.errRefLocked", "loop.example/atomicpush/impl.errLocksInvalid"], ifaces := true, apart := false, laid := [("loop.example/atomicpush/impl.errLocksInvalid", laid_loop_example_atomicpush_impl_errLocksInvalid), ("loop.example/atomicpush/impl.errRefLocked", laid_loop_example_atomicpush_impl_errRefLocked)], narrowed := true }
def FnPrepareAgainUptoSaid : Prop := fnPrepareAgainUptoRow.holds Tryd.pinned (OpenSpec.upto fnPrepareAgainSpec)

/-- 'laws.FnPrepareTwice', WHERE WHAT IT READS IS OF BULK AT MOST 1048576: true; the input reads as it did. -/
def fnPrepareTwiceUptoRow : OpenClaim := { program := "ythmnaljncapmeaadoor", sum := "fa95b918608a39394fda22ef88e36557d2118df0ba163d6e6dc418887b32c174", func := "loop.example/atomicpush/laws.FnPrepareTwice", spec := "fnPrepareTwice", inPlace := ["internal/reflectlite.TypeOf"], unfollowed := true, recurses := true, named := ["loop.example/atomicpush/impl.errRefLocked", "loop.example/atomicpush/impl.errLocksInvalid"], ifaces := true, apart := false, laid := [("loop.example/atomicpush/impl.errLocksInvalid", laid_loop_example_atomicpush_impl_errLocksInvalid), ("loop.example/atomicpush/impl.errRefLocked", laid_loop_example_atomicpush_impl_errRefLocked)], narrowed := true }
def FnPrepareTwiceUptoSaid : Prop := fnPrepareTwiceUptoRow.holds Tryd.pinned (OpenSpec.upto fnPrepareTwiceSpec)

/-- 'laws.FnPrepareFits', WHERE WHAT IT READS IS OF BULK AT MOST 1048576: true; the input reads as it did. -/
def fnPrepareFitsUptoRow : OpenClaim := { program := "ythmnaljncapmeaadoor", sum := "fa95b918608a39394fda22ef88e36557d2118df0ba163d6e6dc418887b32c174", func := "loop.example/atomicpush/laws.FnPrepareFits", spec := "fnPrepareFits", inPlace := ["internal/reflectlite.TypeOf"], unfollowed := true, recurses := true, named := ["loop.example/atomicpush/impl.errRefLocked", "loop.example/atomicpush/impl.errLocksInvalid"], ifaces := true, apart := false, laid := [("loop.example/atomicpush/impl.errLocksInvalid", laid_loop_example_atomicpush_impl_errLocksInvalid), ("loop.example/atomicpush/impl.errRefLocked", laid_loop_example_atomicpush_impl_errRefLocked)], narrowed := true }
def FnPrepareFitsUptoSaid : Prop := fnPrepareFitsUptoRow.holds Tryd.pinned (OpenSpec.upto fnPrepareFitsSpec)

/-- 'laws.FnDecide', WHERE WHAT IT READS IS OF BULK AT MOST 1048576: true; the input reads as it did. -/
def fnDecideUptoRow : OpenClaim := { program := "ythmnaljncapmeaadoor", sum := "fa95b918608a39394fda22ef88e36557d2118df0ba163d6e6dc418887b32c174", func := "loop.example/atomicpush/laws.FnDecide", spec := "fnDecide", inPlace := ["internal/reflectlite.TypeOf"], unfollowed := true, recurses := true, named := ["loop.example/atomicpush/impl.errRefLocked", "loop.example/atomicpush/impl.errLocksInvalid"], ifaces := true, apart := false, laid := [("loop.example/atomicpush/impl.errLocksInvalid", laid_loop_example_atomicpush_impl_errLocksInvalid), ("loop.example/atomicpush/impl.errRefLocked", laid_loop_example_atomicpush_impl_errRefLocked)], narrowed := true }
def FnDecideUptoSaid : Prop := fnDecideUptoRow.holds Tryd.pinned (OpenSpec.upto fnDecideSpec)

/-- 'laws.FnDecideAbort', WHERE WHAT IT READS IS OF BULK AT MOST 1048576: true; the input reads as it did. -/
def fnDecideAbortUptoRow : OpenClaim := { program := "ythmnaljncapmeaadoor", sum := "fa95b918608a39394fda22ef88e36557d2118df0ba163d6e6dc418887b32c174", func := "loop.example/atomicpush/laws.FnDecideAbort", spec := "fnDecideAbort", inPlace := ["internal/reflectlite.TypeOf"], unfollowed := true, recurses := true, named := ["loop.example/atomicpush/impl.errRefLocked", "loop.example/atomicpush/impl.errLocksInvalid"], ifaces := true, apart := false, laid := [("loop.example/atomicpush/impl.errLocksInvalid", laid_loop_example_atomicpush_impl_errLocksInvalid), ("loop.example/atomicpush/impl.errRefLocked", laid_loop_example_atomicpush_impl_errRefLocked)], narrowed := true }
def FnDecideAbortUptoSaid : Prop := fnDecideAbortUptoRow.holds Tryd.pinned (OpenSpec.upto fnDecideAbortSpec)

/-- 'laws.FnDecideTwice', WHERE WHAT IT READS IS OF BULK AT MOST 1048576: true; the input reads as it did. -/
def fnDecideTwiceUptoRow : OpenClaim := { program := "ythmnaljncapmeaadoor", sum := "fa95b918608a39394fda22ef88e36557d2118df0ba163d6e6dc418887b32c174", func := "loop.example/atomicpush/laws.FnDecideTwice", spec := "fnDecideTwice", inPlace := ["internal/reflectlite.TypeOf"], unfollowed := true, recurses := true, named := ["loop.example/atomicpush/impl.errRefLocked", "loop.example/atomicpush/impl.errLocksInvalid"], ifaces := true, apart := false, laid := [("loop.example/atomicpush/impl.errLocksInvalid", laid_loop_example_atomicpush_impl_errLocksInvalid), ("loop.example/atomicpush/impl.errRefLocked", laid_loop_example_atomicpush_impl_errRefLocked)], narrowed := true }
def FnDecideTwiceUptoSaid : Prop := fnDecideTwiceUptoRow.holds Tryd.pinned (OpenSpec.upto fnDecideTwiceSpec)

/-- 'laws.FnDecideUnknown', WHERE WHAT IT READS IS OF BULK AT MOST 1048576: true; the input reads as it did. -/
def fnDecideUnknownUptoRow : OpenClaim := { program := "ythmnaljncapmeaadoor", sum := "fa95b918608a39394fda22ef88e36557d2118df0ba163d6e6dc418887b32c174", func := "loop.example/atomicpush/laws.FnDecideUnknown", spec := "fnDecideUnknown", inPlace := ["internal/reflectlite.TypeOf"], unfollowed := true, recurses := true, named := ["loop.example/atomicpush/impl.errRefLocked", "loop.example/atomicpush/impl.errLocksInvalid"], ifaces := true, apart := false, laid := [("loop.example/atomicpush/impl.errLocksInvalid", laid_loop_example_atomicpush_impl_errLocksInvalid), ("loop.example/atomicpush/impl.errRefLocked", laid_loop_example_atomicpush_impl_errRefLocked)], narrowed := true }
def FnDecideUnknownUptoSaid : Prop := fnDecideUnknownUptoRow.holds Tryd.pinned (OpenSpec.upto fnDecideUnknownSpec)

/-- 'laws.FnPrepareOther', WHERE WHAT IT READS IS OF BULK AT MOST 1048576: true; the input reads as it did. -/
def fnPrepareOtherUptoRow : OpenClaim := { program := "ythmnaljncapmeaadoor", sum := "fa95b918608a39394fda22ef88e36557d2118df0ba163d6e6dc418887b32c174", func := "loop.example/atomicpush/laws.FnPrepareOther", spec := "fnPrepareOther", inPlace := ["internal/reflectlite.TypeOf"], unfollowed := true, recurses := true, named := ["loop.example/atomicpush/impl.errRefLocked", "loop.example/atomicpush/impl.errLocksInvalid"], ifaces := true, apart := false, laid := [("loop.example/atomicpush/impl.errLocksInvalid", laid_loop_example_atomicpush_impl_errLocksInvalid), ("loop.example/atomicpush/impl.errRefLocked", laid_loop_example_atomicpush_impl_errRefLocked)], narrowed := true }
def FnPrepareOtherUptoSaid : Prop := fnPrepareOtherUptoRow.holds Tryd.pinned (OpenSpec.upto fnPrepareOtherSpec)

/-- 'laws.FnDecideOther', WHERE WHAT IT READS IS OF BULK AT MOST 1048576: true; the input reads as it did. -/
def fnDecideOtherUptoRow : OpenClaim := { program := "ythmnaljncapmeaadoor", sum := "fa95b918608a39394fda22ef88e36557d2118df0ba163d6e6dc418887b32c174", func := "loop.example/atomicpush/laws.FnDecideOther", spec := "fnDecideOther", inPlace := ["internal/reflectlite.TypeOf"], unfollowed := true, recurses := true, named := ["loop.example/atomicpush/impl.errRefLocked", "loop.example/atomicpush/impl.errLocksInvalid"], ifaces := true, apart := false, laid := [("loop.example/atomicpush/impl.errLocksInvalid", laid_loop_example_atomicpush_impl_errLocksInvalid), ("loop.example/atomicpush/impl.errRefLocked", laid_loop_example_atomicpush_impl_errRefLocked)], narrowed := true }
def FnDecideOtherUptoSaid : Prop := fnDecideOtherUptoRow.holds Tryd.pinned (OpenSpec.upto fnDecideOtherSpec)

/-- 'laws.FnLocksPrepared', WHERE WHAT IT READS IS OF BULK AT MOST 1048576: true; the input reads as it did. -/
def fnLocksPreparedUptoRow : OpenClaim := { program := "ythmnaljncapmeaadoor", sum := "fa95b918608a39394fda22ef88e36557d2118df0ba163d6e6dc418887b32c174", func := "loop.example/atomicpush/laws.FnLocksPrepared", spec := "fnLocksPrepared", inPlace := ["internal/reflectlite.TypeOf"], unfollowed := true, recurses := true, named := ["loop.example/atomicpush/impl.errRefLocked", "loop.example/atomicpush/impl.errLocksInvalid"], ifaces := true, apart := false, laid := [("loop.example/atomicpush/impl.errLocksInvalid", laid_loop_example_atomicpush_impl_errLocksInvalid), ("loop.example/atomicpush/impl.errRefLocked", laid_loop_example_atomicpush_impl_errRefLocked)], narrowed := true }
def FnLocksPreparedUptoSaid : Prop := fnLocksPreparedUptoRow.holds Tryd.pinned (OpenSpec.upto fnLocksPreparedSpec)

end Rows
end Go.Proofs.YthmnaljncapmeaaDoor
