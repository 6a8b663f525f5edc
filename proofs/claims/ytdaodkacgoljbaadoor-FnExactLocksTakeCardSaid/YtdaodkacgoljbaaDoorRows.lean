/-
  NARROWER THAN 'FOR EVERY INPUT', by the rows' own cells (each row's printed sentence says how): FnTake: ifaces, laid · FnTakeNone: ifaces, laid · FnTakeTwice: ifaces, laid · FnTakeFree: ifaces, laid · FnTakeCross: ifaces, laid · FnExactLocksTake: ifaces, laid.
  DERIVED. THE GIVEN ROWS OF THIS SEAT. 6 by the template 'for every input the law returns true; each argument reads behind the call as it read before'; 0 by the template 'total and deterministic' (their statements: YtdaodkacgoljbaaDoorTotals.lean).
  GIVEN WITH THE SEED: the statements are not yours to turn. If you find one false, say at which input.
  Laid BY PROGRAM, IN A SANDBOX (cutbox-rows.mjs): the forced cells as the released guide's own fill.sh prints them over the translation 2fca73c95b1c012e… (all of the seat's roots in one cut). By AI agents, Wed Nov 11 2026. No macro, syntax, notation, axiom, sorry.
-/
import Derived.Test.YtdaodkacgoljbaaDoorChecked
import GoSem.Claim
import GoSem.ClaimJoined
import GoSem.ClaimMapViews
import Derived.JoinedTies
import Derived.KernelRfl
namespace Go.Proofs.YtdaodkacgoljbaaDoor
/- THE CELL 'sum', in the pinned program and in every row, IS THE sha256 OF THE DUMP (.gsa) THAT YtdaodkacgoljbaaDoorProg.lean LOADS. Nothing in Lean hashes anything: it is a label: what it is worth is what the hold of that sum in a sandbox is worth. -/
noncomputable def Tryd.pinned : Pinned := { name := "ytdaodkacgoljbaadoor", sum := "2fca73c95b1c012e1b8bc52f48ad188bfc69c7a4867b0bf6fd2a34fb36d17342", checked := Tryd.checked }
namespace Rows
def none {H : Type} : Left H := { results := [], args := [] }

/- WHAT THE LISTED PACKAGE-LEVEL VARIABLES READ AS WHEN THE CALL BEGINS. Each datum BY PROGRAM (the guide's laid-datum.mjs) off the statement by which the dump's own 'gosem.cut.vars' lays the variable. In a bare row this is a premise. The card (YtdaodkacgoljbaaDoorCards.lean) ties it to the program's text. -/
def laid_loop_example_atomicpush_impl_errLocksInvalid {H : Type} : DataW H := .iface "*errors.errorString" (.ptr (.agg [.lit (.string [105, 110, 118, 97, 108, 105, 100, 32, 108, 111, 99, 107, 115, 44, 32, 116, 114, 97, 110, 115, 97, 99, 116, 105, 111, 110, 32, 111, 114, 32, 117, 112, 100, 97, 116, 101, 115])]))
def laid_loop_example_atomicpush_impl_errRefLocked {H : Type} : DataW H := .iface "*errors.errorString" (.ptr (.agg [.lit (.string [108, 111, 99, 107, 101, 100, 32, 114, 101, 102])]))

/-- 'laws.FnTake': WHATEVER THE INPUT: true; the input reads as it did. -/
def fnTakeSpec : ChangeSpec := { name := "fnTake", vars := ["loop.example/atomicpush/impl.errRefLocked", "loop.example/atomicpush/impl.errLocksInvalid"], fn := fun _ => fun
  | [d, g1, g2] => { results := [.lit (.bool true)], args := [d], vars := [g1, g2] }
  | _ => none }
def fnTakeRow : OpenClaim := { program := "ytdaodkacgoljbaadoor", sum := "2fca73c95b1c012e1b8bc52f48ad188bfc69c7a4867b0bf6fd2a34fb36d17342", func := "loop.example/atomicpush/laws.FnTake", spec := "fnTake", inPlace := ["internal/reflectlite.TypeOf"], unfollowed := true, recurses := true, named := ["loop.example/atomicpush/impl.errRefLocked", "loop.example/atomicpush/impl.errLocksInvalid"], ifaces := true, apart := false, laid := [("loop.example/atomicpush/impl.errLocksInvalid", laid_loop_example_atomicpush_impl_errLocksInvalid), ("loop.example/atomicpush/impl.errRefLocked", laid_loop_example_atomicpush_impl_errRefLocked)] }
def FnTakeSaid : Prop := fnTakeRow.holds Tryd.pinned (OpenSpec.ofChange fnTakeSpec)

/-- ITS FALSE NEIGHBOUR: 'it returns false'. Refute it at one input. -/
def fnTakeWrong : ChangeSpec := { name := "fnTake", vars := ["loop.example/atomicpush/impl.errRefLocked", "loop.example/atomicpush/impl.errLocksInvalid"], fn := fun _ => fun
  | [d, g1, g2] => { results := [.lit (.bool false)], args := [d], vars := [g1, g2] }
  | _ => none }
def FnTakeWrongFalsely : Prop := fnTakeRow.holds Tryd.pinned (OpenSpec.ofChange fnTakeWrong)

/-- 'laws.FnTakeNone': WHATEVER THE INPUT: true; the input reads as it did. -/
def fnTakeNoneSpec : ChangeSpec := { name := "fnTakeNone", vars := ["loop.example/atomicpush/impl.errRefLocked", "loop.example/atomicpush/impl.errLocksInvalid"], fn := fun _ => fun
  | [d, g1, g2] => { results := [.lit (.bool true)], args := [d], vars := [g1, g2] }
  | _ => none }
def fnTakeNoneRow : OpenClaim := { program := "ytdaodkacgoljbaadoor", sum := "2fca73c95b1c012e1b8bc52f48ad188bfc69c7a4867b0bf6fd2a34fb36d17342", func := "loop.example/atomicpush/laws.FnTakeNone", spec := "fnTakeNone", inPlace := ["internal/reflectlite.TypeOf"], unfollowed := true, recurses := true, named := ["loop.example/atomicpush/impl.errRefLocked", "loop.example/atomicpush/impl.errLocksInvalid"], ifaces := true, apart := false, laid := [("loop.example/atomicpush/impl.errLocksInvalid", laid_loop_example_atomicpush_impl_errLocksInvalid), ("loop.example/atomicpush/impl.errRefLocked", laid_loop_example_atomicpush_impl_errRefLocked)] }
def FnTakeNoneSaid : Prop := fnTakeNoneRow.holds Tryd.pinned (OpenSpec.ofChange fnTakeNoneSpec)

/-- ITS FALSE NEIGHBOUR: 'it returns false'. Refute it at one input. -/
def fnTakeNoneWrong : ChangeSpec := { name := "fnTakeNone", vars := ["loop.example/atomicpush/impl.errRefLocked", "loop.example/atomicpush/impl.errLocksInvalid"], fn := fun _ => fun
  | [d, g1, g2] => { results := [.lit (.bool false)], args := [d], vars := [g1, g2] }
  | _ => none }
def FnTakeNoneWrongFalsely : Prop := fnTakeNoneRow.holds Tryd.pinned (OpenSpec.ofChange fnTakeNoneWrong)

/-- 'laws.FnTakeTwice': WHATEVER THE INPUT: true; the input reads as it did. -/
def fnTakeTwiceSpec : ChangeSpec := { name := "fnTakeTwice", vars := ["loop.example/atomicpush/impl.errRefLocked", "loop.example/atomicpush/impl.errLocksInvalid"], fn := fun _ => fun
  | [d1, d2, g1, g2] => { results := [.lit (.bool true)], args := [d1, d2], vars := [g1, g2] }
  | _ => none }
def fnTakeTwiceRow : OpenClaim := { program := "ytdaodkacgoljbaadoor", sum := "2fca73c95b1c012e1b8bc52f48ad188bfc69c7a4867b0bf6fd2a34fb36d17342", func := "loop.example/atomicpush/laws.FnTakeTwice", spec := "fnTakeTwice", inPlace := ["internal/reflectlite.TypeOf"], unfollowed := true, recurses := true, named := ["loop.example/atomicpush/impl.errRefLocked", "loop.example/atomicpush/impl.errLocksInvalid"], ifaces := true, apart := false, laid := [("loop.example/atomicpush/impl.errLocksInvalid", laid_loop_example_atomicpush_impl_errLocksInvalid), ("loop.example/atomicpush/impl.errRefLocked", laid_loop_example_atomicpush_impl_errRefLocked)] }
def FnTakeTwiceSaid : Prop := fnTakeTwiceRow.holds Tryd.pinned (OpenSpec.ofChange fnTakeTwiceSpec)

/-- ITS FALSE NEIGHBOUR: 'it returns false'. Refute it at one input. -/
def fnTakeTwiceWrong : ChangeSpec := { name := "fnTakeTwice", vars := ["loop.example/atomicpush/impl.errRefLocked", "loop.example/atomicpush/impl.errLocksInvalid"], fn := fun _ => fun
  | [d1, d2, g1, g2] => { results := [.lit (.bool false)], args := [d1, d2], vars := [g1, g2] }
  | _ => none }
def FnTakeTwiceWrongFalsely : Prop := fnTakeTwiceRow.holds Tryd.pinned (OpenSpec.ofChange fnTakeTwiceWrong)

/-- 'laws.FnTakeFree': WHATEVER THE INPUT: true; the input reads as it did. -/
def fnTakeFreeSpec : ChangeSpec := { name := "fnTakeFree", vars := ["loop.example/atomicpush/impl.errRefLocked", "loop.example/atomicpush/impl.errLocksInvalid"], fn := fun _ => fun
  | [d, g1, g2] => { results := [.lit (.bool true)], args := [d], vars := [g1, g2] }
  | _ => none }
def fnTakeFreeRow : OpenClaim := { program := "ytdaodkacgoljbaadoor", sum := "2fca73c95b1c012e1b8bc52f48ad188bfc69c7a4867b0bf6fd2a34fb36d17342", func := "loop.example/atomicpush/laws.FnTakeFree", spec := "fnTakeFree", inPlace := ["internal/reflectlite.TypeOf"], unfollowed := true, recurses := true, named := ["loop.example/atomicpush/impl.errRefLocked", "loop.example/atomicpush/impl.errLocksInvalid"], ifaces := true, apart := false, laid := [("loop.example/atomicpush/impl.errLocksInvalid", laid_loop_example_atomicpush_impl_errLocksInvalid), ("loop.example/atomicpush/impl.errRefLocked", laid_loop_example_atomicpush_impl_errRefLocked)] }
def FnTakeFreeSaid : Prop := fnTakeFreeRow.holds Tryd.pinned (OpenSpec.ofChange fnTakeFreeSpec)

/-- ITS FALSE NEIGHBOUR: 'it returns false'. Refute it at one input. -/
def fnTakeFreeWrong : ChangeSpec := { name := "fnTakeFree", vars := ["loop.example/atomicpush/impl.errRefLocked", "loop.example/atomicpush/impl.errLocksInvalid"], fn := fun _ => fun
  | [d, g1, g2] => { results := [.lit (.bool false)], args := [d], vars := [g1, g2] }
  | _ => none }
def FnTakeFreeWrongFalsely : Prop := fnTakeFreeRow.holds Tryd.pinned (OpenSpec.ofChange fnTakeFreeWrong)

/-- 'laws.FnTakeCross': WHATEVER THE INPUT: true; the input reads as it did. -/
def fnTakeCrossSpec : ChangeSpec := { name := "fnTakeCross", vars := ["loop.example/atomicpush/impl.errRefLocked", "loop.example/atomicpush/impl.errLocksInvalid"], fn := fun _ => fun
  | [d1, d2, g1, g2] => { results := [.lit (.bool true)], args := [d1, d2], vars := [g1, g2] }
  | _ => none }
def fnTakeCrossRow : OpenClaim := { program := "ytdaodkacgoljbaadoor", sum := "2fca73c95b1c012e1b8bc52f48ad188bfc69c7a4867b0bf6fd2a34fb36d17342", func := "loop.example/atomicpush/laws.FnTakeCross", spec := "fnTakeCross", inPlace := ["internal/reflectlite.TypeOf"], unfollowed := true, recurses := true, named := ["loop.example/atomicpush/impl.errRefLocked", "loop.example/atomicpush/impl.errLocksInvalid"], ifaces := true, apart := false, laid := [("loop.example/atomicpush/impl.errLocksInvalid", laid_loop_example_atomicpush_impl_errLocksInvalid), ("loop.example/atomicpush/impl.errRefLocked", laid_loop_example_atomicpush_impl_errRefLocked)] }
def FnTakeCrossSaid : Prop := fnTakeCrossRow.holds Tryd.pinned (OpenSpec.ofChange fnTakeCrossSpec)

/-- ITS FALSE NEIGHBOUR: 'it returns false'. Refute it at one input. -/
def fnTakeCrossWrong : ChangeSpec := { name := "fnTakeCross", vars := ["loop.example/atomicpush/impl.errRefLocked", "loop.example/atomicpush/impl.errLocksInvalid"], fn := fun _ => fun
  | [d1, d2, g1, g2] => { results := [.lit (.bool false)], args := [d1, d2], vars := [g1, g2] }
  | _ => none }
def FnTakeCrossWrongFalsely : Prop := fnTakeCrossRow.holds Tryd.pinned (OpenSpec.ofChange fnTakeCrossWrong)

/-- 'laws.FnExactLocksTake': WHATEVER THE INPUT: true; the input reads as it did. -/
def fnExactLocksTakeSpec : ChangeSpec := { name := "fnExactLocksTake", vars := ["loop.example/atomicpush/impl.errRefLocked", "loop.example/atomicpush/impl.errLocksInvalid"], fn := fun _ => fun
  | [d1, d2, d3, g1, g2] => { results := [.lit (.bool true)], args := [d1, d2, d3], vars := [g1, g2] }
  | _ => none }
def fnExactLocksTakeRow : OpenClaim := { program := "ytdaodkacgoljbaadoor", sum := "2fca73c95b1c012e1b8bc52f48ad188bfc69c7a4867b0bf6fd2a34fb36d17342", func := "loop.example/atomicpush/laws.FnExactLocksTake", spec := "fnExactLocksTake", inPlace := ["internal/reflectlite.TypeOf"], unfollowed := true, recurses := true, named := ["loop.example/atomicpush/impl.errRefLocked", "loop.example/atomicpush/impl.errLocksInvalid"], ifaces := true, apart := false, laid := [("loop.example/atomicpush/impl.errLocksInvalid", laid_loop_example_atomicpush_impl_errLocksInvalid), ("loop.example/atomicpush/impl.errRefLocked", laid_loop_example_atomicpush_impl_errRefLocked)] }
def FnExactLocksTakeSaid : Prop := fnExactLocksTakeRow.holds Tryd.pinned (OpenSpec.ofChange fnExactLocksTakeSpec)

/-- ITS FALSE NEIGHBOUR: 'it returns false'. Refute it at one input. -/
def fnExactLocksTakeWrong : ChangeSpec := { name := "fnExactLocksTake", vars := ["loop.example/atomicpush/impl.errRefLocked", "loop.example/atomicpush/impl.errLocksInvalid"], fn := fun _ => fun
  | [d1, d2, d3, g1, g2] => { results := [.lit (.bool false)], args := [d1, d2, d3], vars := [g1, g2] }
  | _ => none }
def FnExactLocksTakeWrongFalsely : Prop := fnExactLocksTakeRow.holds Tryd.pinned (OpenSpec.ofChange fnExactLocksTakeWrong)

/- THE SECOND FORM. 'bulk': how many values and letters a reading holds, each counted each time it is reached (what is shared counts as often as it is met; a slice's spare places count too). A statement '..UptoSaid' is the law's where the arguments, and the package variables that the reading takes, are together of bulk at most 1048576: NARROWER than '..Said'. Prove '..Said' where nothing that the law and all that it calls make is longer than what came in: it says more and counts as full. Else prove '..UptoSaid'. A law counts once. -/
mutual
def uptoBulk {H : Type} : DataW H → Nat
  | .lit (.string bytes) => bytes.length + 1
  | .lit _ => 1
  | .nil => 1
  | .ptr d => uptoBulk d + 1
  | .slice elems spare => uptoBulkAll elems + uptoBulkAll spare + 1
  | .agg parts => uptoBulkAll parts + 1
  | .iface _ d => uptoBulk d + 1
  | .map entries => uptoBulkEntries entries + 1
  | .held _ => 1
def uptoBulkAll {H : Type} : List (DataW H) → Nat
  | [] => 0
  | d :: r => uptoBulk d + uptoBulkAll r
def uptoBulkEntries {H : Type} : List (Lit × DataW H) → Nat
  | [] => 0
  | x :: r => uptoBulkEntry x + uptoBulkEntries r
def uptoBulkEntry {H : Type} : Lit × DataW H → Nat
  | (.string bytes, d) => bytes.length + uptoBulk d + 1
  | (_, d) => uptoBulk d + 1
 end
def uptoSmall : (H : Type) → List (DataW H) → Bool := fun _ ds => decide (uptoBulkAll ds ≤ 1048576)
def OpenSpec.upto (s : _root_.Go.ChangeSpec) : _root_.Go.OpenSpec := { _root_.Go.OpenSpec.ofChange s with cond := some uptoSmall }

/-- 'laws.FnTake', WHERE WHAT IT READS IS OF BULK AT MOST 1048576: true; the input reads as it did. -/
def fnTakeUptoRow : OpenClaim := { program := "ytdaodkacgoljbaadoor", sum := "2fca73c95b1c012e1b8bc52f48ad188bfc69c7a4867b0bf6fd2a34fb36d17342", func := "loop.example/atomicpush/laws.FnTake", spec := "fnTake", inPlace := ["internal/reflectlite.TypeOf"], unfollowed := true, recurses := true, named := ["loop.example/atomicpush/impl.errRefLocked", "loop.example/atomicpush/impl.errLocksInvalid"], ifaces := true, apart := false, laid := [("loop.example/atomicpush/impl.errLocksInvalid", laid_loop_example_atomicpush_impl_errLocksInvalid), ("loop.example/atomicpush/impl.errRefLocked", laid_loop_example_atomicpush_impl_errRefLocked)], narrowed := true }
def FnTakeUptoSaid : Prop := fnTakeUptoRow.holds Tryd.pinned (OpenSpec.upto fnTakeSpec)

/-- 'laws.FnTakeNone', WHERE WHAT IT READS IS OF BULK AT MOST 1048576: true; the input reads as it did. -/
def fnTakeNoneUptoRow : OpenClaim := { program := "ytdaodkacgoljbaadoor", sum := "2fca73c95b1c012e1b8bc52f48ad188bfc69c7a4867b0bf6fd2a34fb36d17342", func := "loop.example/atomicpush/laws.FnTakeNone", spec := "fnTakeNone", inPlace := ["internal/reflectlite.TypeOf"], unfollowed := true, recurses := true, named := ["loop.example/atomicpush/impl.errRefLocked", "loop.example/atomicpush/impl.errLocksInvalid"], ifaces := true, apart := false, laid := [("loop.example/atomicpush/impl.errLocksInvalid", laid_loop_example_atomicpush_impl_errLocksInvalid), ("loop.example/atomicpush/impl.errRefLocked", laid_loop_example_atomicpush_impl_errRefLocked)], narrowed := true }
def FnTakeNoneUptoSaid : Prop := fnTakeNoneUptoRow.holds Tryd.pinned (OpenSpec.upto fnTakeNoneSpec)

/-- 'laws.FnTakeTwice', WHERE WHAT IT READS IS OF BULK AT MOST 1048576: true; the input reads as it did. -/
def fnTakeTwiceUptoRow : OpenClaim := { program := "ytdaodkacgoljbaadoor", sum := "2fca73c95b1c012e1b8bc52f48ad188bfc69c7a4867b0bf6fd2a34fb36d17342", func := "loop.example/atomicpush/laws.FnTakeTwice", spec := "fnTakeTwice", inPlace := ["internal/reflectlite.TypeOf"], unfollowed := true, recurses := true, named := ["loop.example/atomicpush/impl.errRefLocked", "loop.example/atomicpush/impl.errLocksInvalid"], ifaces := true, apart := false, laid := [("loop.example/atomicpush/impl.errLocksInvalid", laid_loop_example_atomicpush_impl_errLocksInvalid), ("loop.example/atomicpush/impl.errRefLocked", laid_loop_example_atomicpush_impl_errRefLocked)], narrowed := true }
def FnTakeTwiceUptoSaid : Prop := fnTakeTwiceUptoRow.holds Tryd.pinned (OpenSpec.upto fnTakeTwiceSpec)

/-- 'laws.FnTakeFree', WHERE WHAT IT READS IS OF BULK AT MOST 1048576: true; the input reads as it did. -/
def fnTakeFreeUptoRow : OpenClaim := { program := "ytdaodkacgoljbaadoor", sum := "2fca73c95b1c012e1b8bc52f48ad188bfc69c7a4867b0bf6fd2a34fb36d17342", func := "loop.example/atomicpush/laws.FnTakeFree", spec := "fnTakeFree", inPlace := ["internal/reflectlite.TypeOf"], unfollowed := true, recurses := true, named := ["loop.example/atomicpush/impl.errRefLocked", "loop.example/atomicpush/impl.errLocksInvalid"], ifaces := true, apart := false, laid := [("loop.example/atomicpush/impl.errLocksInvalid", laid_loop_example_atomicpush_impl_errLocksInvalid), ("loop.example/atomicpush/impl.errRefLocked", laid_loop_example_atomicpush_impl_errRefLocked)], narrowed := true }
def FnTakeFreeUptoSaid : Prop := fnTakeFreeUptoRow.holds Tryd.pinned (OpenSpec.upto fnTakeFreeSpec)

/-- 'laws.FnTakeCross', WHERE WHAT IT READS IS OF BULK AT MOST 1048576: true; the input reads as it did. -/
def fnTakeCrossUptoRow : OpenClaim := { program := "ytdaodkacgoljbaadoor", sum := "2fca73c95b1c012e1b8bc52f48ad188bfc69c7a4867b0bf6fd2a34fb36d17342", func := "loop.example/atomicpush/laws.FnTakeCross", spec := "fnTakeCross", inPlace := ["internal/reflectlite.TypeOf"], unfollowed := true, recurses := true, named := ["loop.example/atomicpush/impl.errRefLocked", "loop.example/atomicpush/impl.errLocksInvalid"], ifaces := true, apart := false, laid := [("loop.example/atomicpush/impl.errLocksInvalid", laid_loop_example_atomicpush_impl_errLocksInvalid), ("loop.example/atomicpush/impl.errRefLocked", laid_loop_example_atomicpush_impl_errRefLocked)], narrowed := true }
def FnTakeCrossUptoSaid : Prop := fnTakeCrossUptoRow.holds Tryd.pinned (OpenSpec.upto fnTakeCrossSpec)

/-- 'laws.FnExactLocksTake', WHERE WHAT IT READS IS OF BULK AT MOST 1048576: true; the input reads as it did. -/
def fnExactLocksTakeUptoRow : OpenClaim := { program := "ytdaodkacgoljbaadoor", sum := "2fca73c95b1c012e1b8bc52f48ad188bfc69c7a4867b0bf6fd2a34fb36d17342", func := "loop.example/atomicpush/laws.FnExactLocksTake", spec := "fnExactLocksTake", inPlace := ["internal/reflectlite.TypeOf"], unfollowed := true, recurses := true, named := ["loop.example/atomicpush/impl.errRefLocked", "loop.example/atomicpush/impl.errLocksInvalid"], ifaces := true, apart := false, laid := [("loop.example/atomicpush/impl.errLocksInvalid", laid_loop_example_atomicpush_impl_errLocksInvalid), ("loop.example/atomicpush/impl.errRefLocked", laid_loop_example_atomicpush_impl_errRefLocked)], narrowed := true }
def FnExactLocksTakeUptoSaid : Prop := fnExactLocksTakeUptoRow.holds Tryd.pinned (OpenSpec.upto fnExactLocksTakeSpec)

end Rows
end Go.Proofs.YtdaodkacgoljbaaDoor
