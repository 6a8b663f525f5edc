/-
  NARROWER THAN 'FOR EVERY INPUT', by the rows' own cells (each row's printed sentence says how): FnReady: ifaces, laid · FnSnapshot: ifaces, laid · FnSnapshotNone: ifaces, laid · FnReadyMost: ifaces, laid · FnSnapshotLess: ifaces, laid · FnExactSnapshotReady: ifaces, laid · FnExactSnapshotRefs: ifaces, laid.
  DERIVED. THE GIVEN ROWS OF THIS SEAT. 7 by the template 'for every input the law returns true; each argument reads behind the call as it read before'; 0 by the template 'total and deterministic' (their statements: YteaibflloeipaaaGreatDoorTotals.lean).
  GIVEN WITH THE SEED: the statements are not yours to turn. If you find one false, say at which input.
  Laid BY PROGRAM, IN A SANDBOX (cutbox-rows.mjs): the forced cells as the released guide's own fill.sh prints them over the translation f3442323f6640526… (all of the seat's roots in one cut). By AI agents, Wed Nov 11 2026. No macro, syntax, notation, axiom, sorry.
-/
import Derived.Test.YteaibflloeipaaaGreatDoorChecked
import GoSem.Claim
import GoSem.ClaimJoined
import GoSem.ClaimMapViews
import Derived.JoinedTies
import Derived.KernelRfl
namespace Go.Proofs.YteaibflloeipaaaGreatDoor
/- THE CELL 'sum', in the pinned program and in every row, IS THE sha256 OF THE DUMP (.gsa) THAT YteaibflloeipaaaGreatDoorProg.lean LOADS. Nothing in Lean hashes anything: it is a label: what it is worth is what the hold of that sum in a sandbox is worth. -/
noncomputable def Tryz.pinned : Pinned := { name := "yteaibflloeipaaagreatdoor", sum := "f3442323f664052672e3cfccec8223c5282cfc22d01ce97a04851afda3d518f2", checked := Tryz.checked }
namespace Rows
def none {H : Type} : Left H := { results := [], args := [] }

/- WHAT THE LISTED PACKAGE-LEVEL VARIABLES READ AS WHEN THE CALL BEGINS. Each datum BY PROGRAM (the guide's laid-datum.mjs) off the statement by which the dump's own 'gosem.cut.vars' lays the variable. In a bare row this is a premise. The card (YteaibflloeipaaaGreatDoorCards.lean) ties it to the program's text. -/
def laid_loop_example_atomicpush_impl_errLocksInvalid {H : Type} : DataW H := .iface "*errors.errorString" (.ptr (.agg [.lit (.string [105, 110, 118, 97, 108, 105, 100, 32, 108, 111, 99, 107, 115, 44, 32, 116, 114, 97, 110, 115, 97, 99, 116, 105, 111, 110, 32, 111, 114, 32, 117, 112, 100, 97, 116, 101, 115])]))
def laid_loop_example_atomicpush_impl_errRefLocked {H : Type} : DataW H := .iface "*errors.errorString" (.ptr (.agg [.lit (.string [108, 111, 99, 107, 101, 100, 32, 114, 101, 102])]))

/-- 'laws.FnReady': WHATEVER THE INPUT: true; the input reads as it did. -/
def fnReadySpec : ChangeSpec := { name := "fnReady", vars := ["loop.example/atomicpush/impl.errRefLocked", "loop.example/atomicpush/impl.errLocksInvalid"], fn := fun _ => fun
  | [d, g1, g2] => { results := [.lit (.bool true)], args := [d], vars := [g1, g2] }
  | _ => none }
def fnReadyRow : OpenClaim := { program := "yteaibflloeipaaagreatdoor", sum := "f3442323f664052672e3cfccec8223c5282cfc22d01ce97a04851afda3d518f2", func := "loop.example/atomicpush/laws.FnReady", spec := "fnReady", inPlace := ["internal/reflectlite.TypeOf"], unfollowed := true, recurses := true, named := ["loop.example/atomicpush/impl.errRefLocked", "loop.example/atomicpush/impl.errLocksInvalid"], ifaces := true, apart := false, laid := [("loop.example/atomicpush/impl.errLocksInvalid", laid_loop_example_atomicpush_impl_errLocksInvalid), ("loop.example/atomicpush/impl.errRefLocked", laid_loop_example_atomicpush_impl_errRefLocked)] }
def FnReadySaid : Prop := fnReadyRow.holds Tryz.pinned (OpenSpec.ofChange fnReadySpec)

/-- ITS FALSE NEIGHBOUR: 'it returns false'. Refute it at one input. -/
def fnReadyWrong : ChangeSpec := { name := "fnReady", vars := ["loop.example/atomicpush/impl.errRefLocked", "loop.example/atomicpush/impl.errLocksInvalid"], fn := fun _ => fun
  | [d, g1, g2] => { results := [.lit (.bool false)], args := [d], vars := [g1, g2] }
  | _ => none }
def FnReadyWrongFalsely : Prop := fnReadyRow.holds Tryz.pinned (OpenSpec.ofChange fnReadyWrong)

/-- 'laws.FnSnapshot': WHATEVER THE INPUT: true; the input reads as it did. -/
def fnSnapshotSpec : ChangeSpec := { name := "fnSnapshot", vars := ["loop.example/atomicpush/impl.errRefLocked", "loop.example/atomicpush/impl.errLocksInvalid"], fn := fun _ => fun
  | [d, g1, g2] => { results := [.lit (.bool true)], args := [d], vars := [g1, g2] }
  | _ => none }
def fnSnapshotRow : OpenClaim := { program := "yteaibflloeipaaagreatdoor", sum := "f3442323f664052672e3cfccec8223c5282cfc22d01ce97a04851afda3d518f2", func := "loop.example/atomicpush/laws.FnSnapshot", spec := "fnSnapshot", inPlace := ["internal/reflectlite.TypeOf"], unfollowed := true, recurses := true, named := ["loop.example/atomicpush/impl.errRefLocked", "loop.example/atomicpush/impl.errLocksInvalid"], ifaces := true, apart := false, laid := [("loop.example/atomicpush/impl.errLocksInvalid", laid_loop_example_atomicpush_impl_errLocksInvalid), ("loop.example/atomicpush/impl.errRefLocked", laid_loop_example_atomicpush_impl_errRefLocked)] }
def FnSnapshotSaid : Prop := fnSnapshotRow.holds Tryz.pinned (OpenSpec.ofChange fnSnapshotSpec)

/-- ITS FALSE NEIGHBOUR: 'it returns false'. Refute it at one input. -/
def fnSnapshotWrong : ChangeSpec := { name := "fnSnapshot", vars := ["loop.example/atomicpush/impl.errRefLocked", "loop.example/atomicpush/impl.errLocksInvalid"], fn := fun _ => fun
  | [d, g1, g2] => { results := [.lit (.bool false)], args := [d], vars := [g1, g2] }
  | _ => none }
def FnSnapshotWrongFalsely : Prop := fnSnapshotRow.holds Tryz.pinned (OpenSpec.ofChange fnSnapshotWrong)

/-- 'laws.FnSnapshotNone': WHATEVER THE INPUT: true; the input reads as it did. -/
def fnSnapshotNoneSpec : ChangeSpec := { name := "fnSnapshotNone", vars := ["loop.example/atomicpush/impl.errRefLocked", "loop.example/atomicpush/impl.errLocksInvalid"], fn := fun _ => fun
  | [d, g1, g2] => { results := [.lit (.bool true)], args := [d], vars := [g1, g2] }
  | _ => none }
def fnSnapshotNoneRow : OpenClaim := { program := "yteaibflloeipaaagreatdoor", sum := "f3442323f664052672e3cfccec8223c5282cfc22d01ce97a04851afda3d518f2", func := "loop.example/atomicpush/laws.FnSnapshotNone", spec := "fnSnapshotNone", inPlace := ["internal/reflectlite.TypeOf"], unfollowed := true, recurses := true, named := ["loop.example/atomicpush/impl.errRefLocked", "loop.example/atomicpush/impl.errLocksInvalid"], ifaces := true, apart := false, laid := [("loop.example/atomicpush/impl.errLocksInvalid", laid_loop_example_atomicpush_impl_errLocksInvalid), ("loop.example/atomicpush/impl.errRefLocked", laid_loop_example_atomicpush_impl_errRefLocked)] }
def FnSnapshotNoneSaid : Prop := fnSnapshotNoneRow.holds Tryz.pinned (OpenSpec.ofChange fnSnapshotNoneSpec)

/-- ITS FALSE NEIGHBOUR: 'it returns false'. Refute it at one input. -/
def fnSnapshotNoneWrong : ChangeSpec := { name := "fnSnapshotNone", vars := ["loop.example/atomicpush/impl.errRefLocked", "loop.example/atomicpush/impl.errLocksInvalid"], fn := fun _ => fun
  | [d, g1, g2] => { results := [.lit (.bool false)], args := [d], vars := [g1, g2] }
  | _ => none }
def FnSnapshotNoneWrongFalsely : Prop := fnSnapshotNoneRow.holds Tryz.pinned (OpenSpec.ofChange fnSnapshotNoneWrong)

/-- 'laws.FnReadyMost': WHATEVER THE INPUT: true; the input reads as it did. -/
def fnReadyMostSpec : ChangeSpec := { name := "fnReadyMost", vars := ["loop.example/atomicpush/impl.errRefLocked", "loop.example/atomicpush/impl.errLocksInvalid"], fn := fun _ => fun
  | [d, g1, g2] => { results := [.lit (.bool true)], args := [d], vars := [g1, g2] }
  | _ => none }
def fnReadyMostRow : OpenClaim := { program := "yteaibflloeipaaagreatdoor", sum := "f3442323f664052672e3cfccec8223c5282cfc22d01ce97a04851afda3d518f2", func := "loop.example/atomicpush/laws.FnReadyMost", spec := "fnReadyMost", inPlace := ["internal/reflectlite.TypeOf"], unfollowed := true, recurses := true, named := ["loop.example/atomicpush/impl.errRefLocked", "loop.example/atomicpush/impl.errLocksInvalid"], ifaces := true, apart := false, laid := [("loop.example/atomicpush/impl.errLocksInvalid", laid_loop_example_atomicpush_impl_errLocksInvalid), ("loop.example/atomicpush/impl.errRefLocked", laid_loop_example_atomicpush_impl_errRefLocked)] }
def FnReadyMostSaid : Prop := fnReadyMostRow.holds Tryz.pinned (OpenSpec.ofChange fnReadyMostSpec)

/-- ITS FALSE NEIGHBOUR: 'it returns false'. Refute it at one input. -/
def fnReadyMostWrong : ChangeSpec := { name := "fnReadyMost", vars := ["loop.example/atomicpush/impl.errRefLocked", "loop.example/atomicpush/impl.errLocksInvalid"], fn := fun _ => fun
  | [d, g1, g2] => { results := [.lit (.bool false)], args := [d], vars := [g1, g2] }
  | _ => none }
def FnReadyMostWrongFalsely : Prop := fnReadyMostRow.holds Tryz.pinned (OpenSpec.ofChange fnReadyMostWrong)

/-- 'laws.FnSnapshotLess': WHATEVER THE INPUT: true; the input reads as it did. -/
def fnSnapshotLessSpec : ChangeSpec := { name := "fnSnapshotLess", vars := ["loop.example/atomicpush/impl.errRefLocked", "loop.example/atomicpush/impl.errLocksInvalid"], fn := fun _ => fun
  | [d1, d2, g1, g2] => { results := [.lit (.bool true)], args := [d1, d2], vars := [g1, g2] }
  | _ => none }
def fnSnapshotLessRow : OpenClaim := { program := "yteaibflloeipaaagreatdoor", sum := "f3442323f664052672e3cfccec8223c5282cfc22d01ce97a04851afda3d518f2", func := "loop.example/atomicpush/laws.FnSnapshotLess", spec := "fnSnapshotLess", inPlace := ["internal/reflectlite.TypeOf"], unfollowed := true, recurses := true, named := ["loop.example/atomicpush/impl.errRefLocked", "loop.example/atomicpush/impl.errLocksInvalid"], ifaces := true, apart := false, laid := [("loop.example/atomicpush/impl.errLocksInvalid", laid_loop_example_atomicpush_impl_errLocksInvalid), ("loop.example/atomicpush/impl.errRefLocked", laid_loop_example_atomicpush_impl_errRefLocked)] }
def FnSnapshotLessSaid : Prop := fnSnapshotLessRow.holds Tryz.pinned (OpenSpec.ofChange fnSnapshotLessSpec)

/-- ITS FALSE NEIGHBOUR: 'it returns false'. Refute it at one input. -/
def fnSnapshotLessWrong : ChangeSpec := { name := "fnSnapshotLess", vars := ["loop.example/atomicpush/impl.errRefLocked", "loop.example/atomicpush/impl.errLocksInvalid"], fn := fun _ => fun
  | [d1, d2, g1, g2] => { results := [.lit (.bool false)], args := [d1, d2], vars := [g1, g2] }
  | _ => none }
def FnSnapshotLessWrongFalsely : Prop := fnSnapshotLessRow.holds Tryz.pinned (OpenSpec.ofChange fnSnapshotLessWrong)

/-- 'laws.FnExactSnapshotReady': WHATEVER THE INPUT: true; the input reads as it did. -/
def fnExactSnapshotReadySpec : ChangeSpec := { name := "fnExactSnapshotReady", vars := ["loop.example/atomicpush/impl.errRefLocked", "loop.example/atomicpush/impl.errLocksInvalid"], fn := fun _ => fun
  | [d1, d2, g1, g2] => { results := [.lit (.bool true)], args := [d1, d2], vars := [g1, g2] }
  | _ => none }
def fnExactSnapshotReadyRow : OpenClaim := { program := "yteaibflloeipaaagreatdoor", sum := "f3442323f664052672e3cfccec8223c5282cfc22d01ce97a04851afda3d518f2", func := "loop.example/atomicpush/laws.FnExactSnapshotReady", spec := "fnExactSnapshotReady", inPlace := ["internal/reflectlite.TypeOf"], unfollowed := true, recurses := true, named := ["loop.example/atomicpush/impl.errRefLocked", "loop.example/atomicpush/impl.errLocksInvalid"], ifaces := true, apart := false, laid := [("loop.example/atomicpush/impl.errLocksInvalid", laid_loop_example_atomicpush_impl_errLocksInvalid), ("loop.example/atomicpush/impl.errRefLocked", laid_loop_example_atomicpush_impl_errRefLocked)] }
def FnExactSnapshotReadySaid : Prop := fnExactSnapshotReadyRow.holds Tryz.pinned (OpenSpec.ofChange fnExactSnapshotReadySpec)

/-- ITS FALSE NEIGHBOUR: 'it returns false'. Refute it at one input. -/
def fnExactSnapshotReadyWrong : ChangeSpec := { name := "fnExactSnapshotReady", vars := ["loop.example/atomicpush/impl.errRefLocked", "loop.example/atomicpush/impl.errLocksInvalid"], fn := fun _ => fun
  | [d1, d2, g1, g2] => { results := [.lit (.bool false)], args := [d1, d2], vars := [g1, g2] }
  | _ => none }
def FnExactSnapshotReadyWrongFalsely : Prop := fnExactSnapshotReadyRow.holds Tryz.pinned (OpenSpec.ofChange fnExactSnapshotReadyWrong)

/-- 'laws.FnExactSnapshotRefs': WHATEVER THE INPUT: true; the input reads as it did. -/
def fnExactSnapshotRefsSpec : ChangeSpec := { name := "fnExactSnapshotRefs", vars := ["loop.example/atomicpush/impl.errRefLocked", "loop.example/atomicpush/impl.errLocksInvalid"], fn := fun _ => fun
  | [d1, d2, d3, g1, g2] => { results := [.lit (.bool true)], args := [d1, d2, d3], vars := [g1, g2] }
  | _ => none }
def fnExactSnapshotRefsRow : OpenClaim := { program := "yteaibflloeipaaagreatdoor", sum := "f3442323f664052672e3cfccec8223c5282cfc22d01ce97a04851afda3d518f2", func := "loop.example/atomicpush/laws.FnExactSnapshotRefs", spec := "fnExactSnapshotRefs", inPlace := ["internal/reflectlite.TypeOf"], unfollowed := true, recurses := true, named := ["loop.example/atomicpush/impl.errRefLocked", "loop.example/atomicpush/impl.errLocksInvalid"], ifaces := true, apart := false, laid := [("loop.example/atomicpush/impl.errLocksInvalid", laid_loop_example_atomicpush_impl_errLocksInvalid), ("loop.example/atomicpush/impl.errRefLocked", laid_loop_example_atomicpush_impl_errRefLocked)] }
def FnExactSnapshotRefsSaid : Prop := fnExactSnapshotRefsRow.holds Tryz.pinned (OpenSpec.ofChange fnExactSnapshotRefsSpec)

/-- ITS FALSE NEIGHBOUR: 'it returns false'. Refute it at one input. -/
def fnExactSnapshotRefsWrong : ChangeSpec := { name := "fnExactSnapshotRefs", vars := ["loop.example/atomicpush/impl.errRefLocked", "loop.example/atomicpush/impl.errLocksInvalid"], fn := fun _ => fun
  | [d1, d2, d3, g1, g2] => { results := [.lit (.bool false)], args := [d1, d2, d3], vars := [g1, g2] }
  | _ => none }
def FnExactSnapshotRefsWrongFalsely : Prop := fnExactSnapshotRefsRow.holds Tryz.pinned (OpenSpec.ofChange fnExactSnapshotRefsWrong)

/- THE SECOND FORM. 'bulk': how many values and letters a reading holds, each counted each time it is reached (what is shared counts as often as it is met; a slice's spare places count too). A statement '..UptoSaid' is the law's where the arguments, and the package variables that the reading takes, are together of bulk at most 1048576: NARROWER than '..Said'. Prove '..Said' where nothing that the law and all that it calls make is longer than what came in: it says more and counts as full. Else prove '..UptoSaid'. A law counts once. -/
mutual
def uptoBulk {H : Type} : DataW H → Nat
  | .lit (.string bytes) => bytes.length + 1
  | .lit _ => 1
  | .nil => 1
  | .ptr d => uptoBulk d + 1
  | .slice elems spare => uptoBulkAll elems + uptoBulkAll spare + 1
  | .agg parts => uptoBulkAll parts + 1
  | .iface _ d => uptoBulk d + 1
  | .map entries => uptoBulkEntries entries + 1
  | .held _ => 1
def uptoBulkAll {H : Type} : List (DataW H) → Nat
  | [] => 0
  | d :: r => uptoBulk d + uptoBulkAll r
def uptoBulkEntries {H : Type} : List (Lit × DataW H) → Nat
  | [] => 0
  | x :: r => uptoBulkEntry x + uptoBulkEntries r
def uptoBulkEntry {H : Type} : Lit × DataW H → Nat
  | (.string bytes, d) => bytes.length + uptoBulk d + 1
  | (_, d) => uptoBulk d + 1
 end
def uptoSmall : (H : Type) → List (DataW H) → Bool := fun _ ds => decide (uptoBulkAll ds ≤ 1048576)
def OpenSpec.upto (s : _root_.Go.ChangeSpec) : _root_.Go.OpenSpec := { _root_.Go.OpenSpec.ofChange s with cond := some uptoSmall }

/-- 'laws.FnReady', WHERE WHAT IT READS IS OF BULK AT MOST 1048576: true; the input reads as it did. -/
def fnReadyUptoRow : OpenClaim := { program := "yteaibflloeipaaagreatdoor", sum := "f3442323f664052672e3cfccec8223c5282cfc22d01ce97a04851afda3d518f2", func := "loop.example/atomicpush/laws.FnReady", spec := "fnReady", inPlace := ["internal/reflectlite.TypeOf"], unfollowed := true, recurses := true, named := ["loop.example/atomicpush/impl.errRefLocked", "loop.example/atomicpush/impl.errLocksInvalid"], ifaces := true, apart := false, laid := [("loop.example/atomicpush/impl.errLocksInvalid", laid_loop_example_atomicpush_impl_errLocksInvalid), ("loop.example/atomicpush/impl.errRefLocked", laid_loop_example_atomicpush_impl_errRefLocked)], narrowed := true }
def FnReadyUptoSaid : Prop := fnReadyUptoRow.holds Tryz.pinned (OpenSpec.upto fnReadySpec)

/-- 'laws.FnSnapshot', WHERE WHAT IT READS IS OF BULK AT MOST 1048576: true; the input reads as it did. -/
def fnSnapshotUptoRow : OpenClaim := { program := "yteaibflloeipaaagreatdoor", sum := "f3442323f664052672e3cfccec8223c5282cfc22d01ce97a04851afda3d518f2", func := "loop.example/atomicpush/laws.FnSnapshot", spec := "fnSnapshot", inPlace := ["internal/reflectlite.TypeOf"], unfollowed := true, recurses := true, named := ["loop.example/atomicpush/impl.errRefLocked", "loop.example/atomicpush/impl.errLocksInvalid"], ifaces := true, apart := false, laid := [("loop.example/atomicpush/impl.errLocksInvalid", laid_loop_example_atomicpush_impl_errLocksInvalid), ("loop.example/atomicpush/impl.errRefLocked", laid_loop_example_atomicpush_impl_errRefLocked)], narrowed := true }
def FnSnapshotUptoSaid : Prop := fnSnapshotUptoRow.holds Tryz.pinned (OpenSpec.upto fnSnapshotSpec)

/-- 'laws.FnSnapshotNone', WHERE WHAT IT READS IS OF BULK AT MOST 1048576: true; the input reads as it did. -/
def fnSnapshotNoneUptoRow : OpenClaim := { program := "yteaibflloeipaaagreatdoor", sum := "f3442323f664052672e3cfccec8223c5282cfc22d01ce97a04851afda3d518f2", func := "loop.example/atomicpush/laws.FnSnapshotNone", spec := "fnSnapshotNone", inPlace := ["internal/reflectlite.TypeOf"], unfollowed := true, recurses := true, named := ["loop.example/atomicpush/impl.errRefLocked", "loop.example/atomicpush/impl.errLocksInvalid"], ifaces := true, apart := false, laid := [("loop.example/atomicpush/impl.errLocksInvalid", laid_loop_example_atomicpush_impl_errLocksInvalid), ("loop.example/atomicpush/impl.errRefLocked", laid_loop_example_atomicpush_impl_errRefLocked)], narrowed := true }
def FnSnapshotNoneUptoSaid : Prop := fnSnapshotNoneUptoRow.holds Tryz.pinned (OpenSpec.upto fnSnapshotNoneSpec)

/-- 'laws.FnReadyMost', WHERE WHAT IT READS IS OF BULK AT MOST 1048576: true; the input reads as it did. -/
def fnReadyMostUptoRow : OpenClaim := { program := "yteaibflloeipaaagreatdoor", sum := "f3442323f664052672e3cfccec8223c5282cfc22d01ce97a04851afda3d518f2", func := "loop.example/atomicpush/laws.FnReadyMost", spec := "fnReadyMost", inPlace := ["internal/reflectlite.TypeOf"], unfollowed := true, recurses := true, named := ["loop.example/atomicpush/impl.errRefLocked", "loop.example/atomicpush/impl.errLocksInvalid"], ifaces := true, apart := false, laid := [("loop.example/atomicpush/impl.errLocksInvalid", laid_loop_example_atomicpush_impl_errLocksInvalid), ("loop.example/atomicpush/impl.errRefLocked", laid_loop_example_atomicpush_impl_errRefLocked)], narrowed := true }
def FnReadyMostUptoSaid : Prop := fnReadyMostUptoRow.holds Tryz.pinned (OpenSpec.upto fnReadyMostSpec)

/-- 'laws.FnSnapshotLess', WHERE WHAT IT READS IS OF BULK AT MOST 1048576: true; the input reads as it did. -/
def fnSnapshotLessUptoRow : OpenClaim := { program := "yteaibflloeipaaagreatdoor", sum := "f3442323f664052672e3cfccec8223c5282cfc22d01ce97a04851afda3d518f2", func := "loop.example/atomicpush/laws.FnSnapshotLess", spec := "fnSnapshotLess", inPlace := ["internal/reflectlite.TypeOf"], unfollowed := true, recurses := true, named := ["loop.example/atomicpush/impl.errRefLocked", "loop.example/atomicpush/impl.errLocksInvalid"], ifaces := true, apart := false, laid := [("loop.example/atomicpush/impl.errLocksInvalid", laid_loop_example_atomicpush_impl_errLocksInvalid), ("loop.example/atomicpush/impl.errRefLocked", laid_loop_example_atomicpush_impl_errRefLocked)], narrowed := true }
def FnSnapshotLessUptoSaid : Prop := fnSnapshotLessUptoRow.holds Tryz.pinned (OpenSpec.upto fnSnapshotLessSpec)

/-- 'laws.FnExactSnapshotReady', WHERE WHAT IT READS IS OF BULK AT MOST 1048576: true; the input reads as it did. -/
def fnExactSnapshotReadyUptoRow : OpenClaim := { program := "yteaibflloeipaaagreatdoor", sum := "f3442323f664052672e3cfccec8223c5282cfc22d01ce97a04851afda3d518f2", func := "loop.example/atomicpush/laws.FnExactSnapshotReady", spec := "fnExactSnapshotReady", inPlace := ["internal/reflectlite.TypeOf"], unfollowed := true, recurses := true, named := ["loop.example/atomicpush/impl.errRefLocked", "loop.example/atomicpush/impl.errLocksInvalid"], ifaces := true, apart := false, laid := [("loop.example/atomicpush/impl.errLocksInvalid", laid_loop_example_atomicpush_impl_errLocksInvalid), ("loop.example/atomicpush/impl.errRefLocked", laid_loop_example_atomicpush_impl_errRefLocked)], narrowed := true }
def FnExactSnapshotReadyUptoSaid : Prop := fnExactSnapshotReadyUptoRow.holds Tryz.pinned (OpenSpec.upto fnExactSnapshotReadySpec)

/-- 'laws.FnExactSnapshotRefs', WHERE WHAT IT READS IS OF BULK AT MOST 1048576: true; the input reads as it did. -/
def fnExactSnapshotRefsUptoRow : OpenClaim := { program := "yteaibflloeipaaagreatdoor", sum := "f3442323f664052672e3cfccec8223c5282cfc22d01ce97a04851afda3d518f2", func := "loop.example/atomicpush/laws.FnExactSnapshotRefs", spec := "fnExactSnapshotRefs", inPlace := ["internal/reflectlite.TypeOf"], unfollowed := true, recurses := true, named := ["loop.example/atomicpush/impl.errRefLocked", "loop.example/atomicpush/impl.errLocksInvalid"], ifaces := true, apart := false, laid := [("loop.example/atomicpush/impl.errLocksInvalid", laid_loop_example_atomicpush_impl_errLocksInvalid), ("loop.example/atomicpush/impl.errRefLocked", laid_loop_example_atomicpush_impl_errRefLocked)], narrowed := true }
def FnExactSnapshotRefsUptoSaid : Prop := fnExactSnapshotRefsUptoRow.holds Tryz.pinned (OpenSpec.upto fnExactSnapshotRefsSpec)

end Rows
end Go.Proofs.YteaibflloeipaaaGreatDoor
