/-
  No cell of these rows narrows 'for every input' (looked for: loops, veiled, ifaces, maps, wideKeys, modest, calm, conditions, laid).
  DERIVED. THE GIVEN ROWS OF THIS SEAT. 9 by the template 'for every input the law returns true; each argument reads behind the call as it read before'; 0 by the template 'total and deterministic' (their statements: YtclonfhpabdpgabTotals.lean).
  GIVEN WITH THE SEED: the statements are not yours to turn. If you find one false, say at which input.
  Laid BY PROGRAM, IN A SANDBOX (cutbox-rows.mjs): the forced cells as the released guide's own fill.sh prints them over the translation 7ff74ac66b6a8206… (all of the seat's roots in one cut). By AI agents, Wed Nov 11 2026. No macro, syntax, notation, axiom, sorry.
-/
import Derived.Test.YtclonfhpabdpgabChecked
import GoSem.Claim
import GoSem.ClaimJoined
import GoSem.ClaimMapViews
import Derived.JoinedTies
import Derived.KernelRfl
namespace Go.Proofs.Ytclonfhpabdpgab
/- THE CELL 'sum', in the pinned program and in every row, IS THE sha256 OF THE DUMP (.gsa) THAT YtclonfhpabdpgabProg.lean LOADS. Nothing in Lean hashes anything: it is a label: what it is worth is what the hold of that sum in a sandbox is worth. -/
noncomputable def Try.pinned : Pinned := { name := "ytclonfhpabdpgab", sum := "7ff74ac66b6a82061281b08887b2dc946264099f9c036bb8648d35911f45424e", checked := Try.checked }
namespace Rows
def none {H : Type} : Left H := { results := [], args := [] }

/-- 'laws.FnFrameEmpty': WHATEVER THE INPUT: true; the input reads as it did. -/
def fnFrameEmptySpec : ChangeSpec := { name := "fnFrameEmpty", fn := fun _ => fun
  | [d] => { results := [.lit (.bool true)], args := [d] }
  | _ => none }
def fnFrameEmptyRow : OpenClaim := { program := "ytclonfhpabdpgab", sum := "7ff74ac66b6a82061281b08887b2dc946264099f9c036bb8648d35911f45424e", func := "loop.example/atomicpush/laws.FnFrameEmpty", spec := "fnFrameEmpty", apart := false }
def FnFrameEmptySaid : Prop := fnFrameEmptyRow.holds Try.pinned (OpenSpec.ofChange fnFrameEmptySpec)

/-- ITS FALSE NEIGHBOUR: 'it returns false'. Refute it at one input. -/
def fnFrameEmptyWrong : ChangeSpec := { name := "fnFrameEmpty", fn := fun _ => fun
  | [d] => { results := [.lit (.bool false)], args := [d] }
  | _ => none }
def FnFrameEmptyWrongFalsely : Prop := fnFrameEmptyRow.holds Try.pinned (OpenSpec.ofChange fnFrameEmptyWrong)

/-- 'laws.FnScanPart': WHATEVER THE INPUT: true; the input reads as it did. -/
def fnScanPartSpec : ChangeSpec := { name := "fnScanPart", fn := fun _ => fun
  | [d1, d2] => { results := [.lit (.bool true)], args := [d1, d2] }
  | _ => none }
def fnScanPartRow : OpenClaim := { program := "ytclonfhpabdpgab", sum := "7ff74ac66b6a82061281b08887b2dc946264099f9c036bb8648d35911f45424e", func := "loop.example/atomicpush/laws.FnScanPart", spec := "fnScanPart", unfollowed := true, recurses := true, apart := false }
def FnScanPartSaid : Prop := fnScanPartRow.holds Try.pinned (OpenSpec.ofChange fnScanPartSpec)

/-- ITS FALSE NEIGHBOUR: 'it returns false'. Refute it at one input. -/
def fnScanPartWrong : ChangeSpec := { name := "fnScanPart", fn := fun _ => fun
  | [d1, d2] => { results := [.lit (.bool false)], args := [d1, d2] }
  | _ => none }
def FnScanPartWrongFalsely : Prop := fnScanPartRow.holds Try.pinned (OpenSpec.ofChange fnScanPartWrong)

/-- 'laws.FnCrashNone': WHATEVER THE INPUT: true; the input reads as it did. -/
def fnCrashNoneSpec : ChangeSpec := { name := "fnCrashNone", fn := fun _ => fun
  | [d] => { results := [.lit (.bool true)], args := [d] }
  | _ => none }
def fnCrashNoneRow : OpenClaim := { program := "ytclonfhpabdpgab", sum := "7ff74ac66b6a82061281b08887b2dc946264099f9c036bb8648d35911f45424e", func := "loop.example/atomicpush/laws.FnCrashNone", spec := "fnCrashNone", unfollowed := true, recurses := true, apart := false }
def FnCrashNoneSaid : Prop := fnCrashNoneRow.holds Try.pinned (OpenSpec.ofChange fnCrashNoneSpec)

/-- ITS FALSE NEIGHBOUR: 'it returns false'. Refute it at one input. -/
def fnCrashNoneWrong : ChangeSpec := { name := "fnCrashNone", fn := fun _ => fun
  | [d] => { results := [.lit (.bool false)], args := [d] }
  | _ => none }
def FnCrashNoneWrongFalsely : Prop := fnCrashNoneRow.holds Try.pinned (OpenSpec.ofChange fnCrashNoneWrong)

/-- 'laws.FnExactDiskValid': WHATEVER THE INPUT: true; the input reads as it did. -/
def fnExactDiskValidSpec : ChangeSpec := { name := "fnExactDiskValid", fn := fun _ => fun
  | [d] => { results := [.lit (.bool true)], args := [d] }
  | _ => none }
def fnExactDiskValidRow : OpenClaim := { program := "ytclonfhpabdpgab", sum := "7ff74ac66b6a82061281b08887b2dc946264099f9c036bb8648d35911f45424e", func := "loop.example/atomicpush/laws.FnExactDiskValid", spec := "fnExactDiskValid", apart := false }
def FnExactDiskValidSaid : Prop := fnExactDiskValidRow.holds Try.pinned (OpenSpec.ofChange fnExactDiskValidSpec)

/-- ITS FALSE NEIGHBOUR: 'it returns false'. Refute it at one input. -/
def fnExactDiskValidWrong : ChangeSpec := { name := "fnExactDiskValid", fn := fun _ => fun
  | [d] => { results := [.lit (.bool false)], args := [d] }
  | _ => none }
def FnExactDiskValidWrongFalsely : Prop := fnExactDiskValidRow.holds Try.pinned (OpenSpec.ofChange fnExactDiskValidWrong)

/-- 'laws.FnExactLogFrame': WHATEVER THE INPUT: true; the input reads as it did. -/
def fnExactLogFrameSpec : ChangeSpec := { name := "fnExactLogFrame", fn := fun _ => fun
  | [d] => { results := [.lit (.bool true)], args := [d] }
  | _ => none }
def fnExactLogFrameRow : OpenClaim := { program := "ytclonfhpabdpgab", sum := "7ff74ac66b6a82061281b08887b2dc946264099f9c036bb8648d35911f45424e", func := "loop.example/atomicpush/laws.FnExactLogFrame", spec := "fnExactLogFrame", apart := false }
def FnExactLogFrameSaid : Prop := fnExactLogFrameRow.holds Try.pinned (OpenSpec.ofChange fnExactLogFrameSpec)

/-- ITS FALSE NEIGHBOUR: 'it returns false'. Refute it at one input. -/
def fnExactLogFrameWrong : ChangeSpec := { name := "fnExactLogFrame", fn := fun _ => fun
  | [d] => { results := [.lit (.bool false)], args := [d] }
  | _ => none }
def FnExactLogFrameWrongFalsely : Prop := fnExactLogFrameRow.holds Try.pinned (OpenSpec.ofChange fnExactLogFrameWrong)

/-- 'laws.FnExactLogScan': WHATEVER THE INPUT: true; the input reads as it did. -/
def fnExactLogScanSpec : ChangeSpec := { name := "fnExactLogScan", fn := fun _ => fun
  | [d] => { results := [.lit (.bool true)], args := [d] }
  | _ => none }
def fnExactLogScanRow : OpenClaim := { program := "ytclonfhpabdpgab", sum := "7ff74ac66b6a82061281b08887b2dc946264099f9c036bb8648d35911f45424e", func := "loop.example/atomicpush/laws.FnExactLogScan", spec := "fnExactLogScan", unfollowed := true, recurses := true, apart := false }
def FnExactLogScanSaid : Prop := fnExactLogScanRow.holds Try.pinned (OpenSpec.ofChange fnExactLogScanSpec)

/-- ITS FALSE NEIGHBOUR: 'it returns false'. Refute it at one input. -/
def fnExactLogScanWrong : ChangeSpec := { name := "fnExactLogScan", fn := fun _ => fun
  | [d] => { results := [.lit (.bool false)], args := [d] }
  | _ => none }
def FnExactLogScanWrongFalsely : Prop := fnExactLogScanRow.holds Try.pinned (OpenSpec.ofChange fnExactLogScanWrong)

/-- 'laws.FnExactLogAppend': WHATEVER THE INPUT: true; the input reads as it did. -/
def fnExactLogAppendSpec : ChangeSpec := { name := "fnExactLogAppend", fn := fun _ => fun
  | [d1, d2] => { results := [.lit (.bool true)], args := [d1, d2] }
  | _ => none }
def fnExactLogAppendRow : OpenClaim := { program := "ytclonfhpabdpgab", sum := "7ff74ac66b6a82061281b08887b2dc946264099f9c036bb8648d35911f45424e", func := "loop.example/atomicpush/laws.FnExactLogAppend", spec := "fnExactLogAppend", apart := false }
def FnExactLogAppendSaid : Prop := fnExactLogAppendRow.holds Try.pinned (OpenSpec.ofChange fnExactLogAppendSpec)

/-- ITS FALSE NEIGHBOUR: 'it returns false'. Refute it at one input. -/
def fnExactLogAppendWrong : ChangeSpec := { name := "fnExactLogAppend", fn := fun _ => fun
  | [d1, d2] => { results := [.lit (.bool false)], args := [d1, d2] }
  | _ => none }
def FnExactLogAppendWrongFalsely : Prop := fnExactLogAppendRow.holds Try.pinned (OpenSpec.ofChange fnExactLogAppendWrong)

/-- 'laws.FnExactLogSync': WHATEVER THE INPUT: true; the input reads as it did. -/
def fnExactLogSyncSpec : ChangeSpec := { name := "fnExactLogSync", fn := fun _ => fun
  | [d] => { results := [.lit (.bool true)], args := [d] }
  | _ => none }
def fnExactLogSyncRow : OpenClaim := { program := "ytclonfhpabdpgab", sum := "7ff74ac66b6a82061281b08887b2dc946264099f9c036bb8648d35911f45424e", func := "loop.example/atomicpush/laws.FnExactLogSync", spec := "fnExactLogSync", apart := false }
def FnExactLogSyncSaid : Prop := fnExactLogSyncRow.holds Try.pinned (OpenSpec.ofChange fnExactLogSyncSpec)

/-- ITS FALSE NEIGHBOUR: 'it returns false'. Refute it at one input. -/
def fnExactLogSyncWrong : ChangeSpec := { name := "fnExactLogSync", fn := fun _ => fun
  | [d] => { results := [.lit (.bool false)], args := [d] }
  | _ => none }
def FnExactLogSyncWrongFalsely : Prop := fnExactLogSyncRow.holds Try.pinned (OpenSpec.ofChange fnExactLogSyncWrong)

/-- 'laws.FnExactLogCrash': WHATEVER THE INPUT: true; the input reads as it did. -/
def fnExactLogCrashSpec : ChangeSpec := { name := "fnExactLogCrash", fn := fun _ => fun
  | [d1, d2] => { results := [.lit (.bool true)], args := [d1, d2] }
  | _ => none }
def fnExactLogCrashRow : OpenClaim := { program := "ytclonfhpabdpgab", sum := "7ff74ac66b6a82061281b08887b2dc946264099f9c036bb8648d35911f45424e", func := "loop.example/atomicpush/laws.FnExactLogCrash", spec := "fnExactLogCrash", unfollowed := true, recurses := true, apart := false }
def FnExactLogCrashSaid : Prop := fnExactLogCrashRow.holds Try.pinned (OpenSpec.ofChange fnExactLogCrashSpec)

/-- ITS FALSE NEIGHBOUR: 'it returns false'. Refute it at one input. -/
def fnExactLogCrashWrong : ChangeSpec := { name := "fnExactLogCrash", fn := fun _ => fun
  | [d1, d2] => { results := [.lit (.bool false)], args := [d1, d2] }
  | _ => none }
def FnExactLogCrashWrongFalsely : Prop := fnExactLogCrashRow.holds Try.pinned (OpenSpec.ofChange fnExactLogCrashWrong)

/- THE SECOND FORM. 'bulk': how many values and letters a reading holds, each counted each time it is reached (what is shared counts as often as it is met; a slice's spare places count too). A statement '..UptoSaid' is the law's where the arguments, and the package variables that the reading takes, are together of bulk at most 1048576: NARROWER than '..Said'. Prove '..Said' where nothing that the law and all that it calls make is longer than what came in: it says more and counts as full. Else prove '..UptoSaid'. A law counts once. -/
mutual
def uptoBulk {H : Type} : DataW H → Nat
  | .lit (.string bytes) => bytes.length + 1
  | .lit _ => 1
  | .nil => 1
  | .ptr d => uptoBulk d + 1
  | .slice elems spare => uptoBulkAll elems + uptoBulkAll spare + 1
  | .agg parts => uptoBulkAll parts + 1
  | .iface _ d => uptoBulk d + 1
  | .map entries => uptoBulkEntries entries + 1
  | .held _ => 1
def uptoBulkAll {H : Type} : List (DataW H) → Nat
  | [] => 0
  | d :: r => uptoBulk d + uptoBulkAll r
def uptoBulkEntries {H : Type} : List (Lit × DataW H) → Nat
  | [] => 0
  | x :: r => uptoBulkEntry x + uptoBulkEntries r
def uptoBulkEntry {H : Type} : Lit × DataW H → Nat
  | (.string bytes, d) => bytes.length + uptoBulk d + 1
  | (_, d) => uptoBulk d + 1
 end
def uptoSmall : (H : Type) → List (DataW H) → Bool := fun _ ds => decide (uptoBulkAll ds ≤ 1048576)
def OpenSpec.upto (s : _root_.Go.ChangeSpec) : _root_.Go.OpenSpec := { _root_.Go.OpenSpec.ofChange s with cond := some uptoSmall }

/-- 'laws.FnFrameEmpty', WHERE WHAT IT READS IS OF BULK AT MOST 1048576: true; the input reads as it did. -/
def fnFrameEmptyUptoRow : OpenClaim := { program := "ytclonfhpabdpgab", sum := "7ff74ac66b6a82061281b08887b2dc946264099f9c036bb8648d35911f45424e", func := "loop.example/atomicpush/laws.FnFrameEmpty", spec := "fnFrameEmpty", apart := false, narrowed := true }
def FnFrameEmptyUptoSaid : Prop := fnFrameEmptyUptoRow.holds Try.pinned (OpenSpec.upto fnFrameEmptySpec)

/-- 'laws.FnScanPart', WHERE WHAT IT READS IS OF BULK AT MOST 1048576: true; the input reads as it did. -/
def fnScanPartUptoRow : OpenClaim := { program := "ytclonfhpabdpgab", sum := "7ff74ac66b6a82061281b08887b2dc946264099f9c036bb8648d35911f45424e", func := "loop.example/atomicpush/laws.FnScanPart", spec := "fnScanPart", unfollowed := true, recurses := true, apart := false, narrowed := true }
def FnScanPartUptoSaid : Prop := fnScanPartUptoRow.holds Try.pinned (OpenSpec.upto fnScanPartSpec)

/-- 'laws.FnCrashNone', WHERE WHAT IT READS IS OF BULK AT MOST 1048576: true; the input reads as it did. -/
def fnCrashNoneUptoRow : OpenClaim := { program := "ytclonfhpabdpgab", sum := "7ff74ac66b6a82061281b08887b2dc946264099f9c036bb8648d35911f45424e", func := "loop.example/atomicpush/laws.FnCrashNone", spec := "fnCrashNone", unfollowed := true, recurses := true, apart := false, narrowed := true }
def FnCrashNoneUptoSaid : Prop := fnCrashNoneUptoRow.holds Try.pinned (OpenSpec.upto fnCrashNoneSpec)

/-- 'laws.FnExactDiskValid', WHERE WHAT IT READS IS OF BULK AT MOST 1048576: true; the input reads as it did. -/
def fnExactDiskValidUptoRow : OpenClaim := { program := "ytclonfhpabdpgab", sum := "7ff74ac66b6a82061281b08887b2dc946264099f9c036bb8648d35911f45424e", func := "loop.example/atomicpush/laws.FnExactDiskValid", spec := "fnExactDiskValid", apart := false, narrowed := true }
def FnExactDiskValidUptoSaid : Prop := fnExactDiskValidUptoRow.holds Try.pinned (OpenSpec.upto fnExactDiskValidSpec)

/-- 'laws.FnExactLogFrame', WHERE WHAT IT READS IS OF BULK AT MOST 1048576: true; the input reads as it did. -/
def fnExactLogFrameUptoRow : OpenClaim := { program := "ytclonfhpabdpgab", sum := "7ff74ac66b6a82061281b08887b2dc946264099f9c036bb8648d35911f45424e", func := "loop.example/atomicpush/laws.FnExactLogFrame", spec := "fnExactLogFrame", apart := false, narrowed := true }
def FnExactLogFrameUptoSaid : Prop := fnExactLogFrameUptoRow.holds Try.pinned (OpenSpec.upto fnExactLogFrameSpec)

/-- 'laws.FnExactLogScan', WHERE WHAT IT READS IS OF BULK AT MOST 1048576: true; the input reads as it did. -/
def fnExactLogScanUptoRow : OpenClaim := { program := "ytclonfhpabdpgab", sum := "7ff74ac66b6a82061281b08887b2dc946264099f9c036bb8648d35911f45424e", func := "loop.example/atomicpush/laws.FnExactLogScan", spec := "fnExactLogScan", unfollowed := true, recurses := true, apart := false, narrowed := true }
def FnExactLogScanUptoSaid : Prop := fnExactLogScanUptoRow.holds Try.pinned (OpenSpec.upto fnExactLogScanSpec)

/-- 'laws.FnExactLogAppend', WHERE WHAT IT READS IS OF BULK AT MOST 1048576: true; the input reads as it did. -/
def fnExactLogAppendUptoRow : OpenClaim := { program := "ytclonfhpabdpgab", sum := "7ff74ac66b6a82061281b08887b2dc946264099f9c036bb8648d35911f45424e", func := "loop.example/atomicpush/laws.FnExactLogAppend", spec := "fnExactLogAppend", apart := false, narrowed := true }
def FnExactLogAppendUptoSaid : Prop := fnExactLogAppendUptoRow.holds Try.pinned (OpenSpec.upto fnExactLogAppendSpec)

/-- 'laws.FnExactLogSync', WHERE WHAT IT READS IS OF BULK AT MOST 1048576: true; the input reads as it did. -/
def fnExactLogSyncUptoRow : OpenClaim := { program := "ytclonfhpabdpgab", sum := "7ff74ac66b6a82061281b08887b2dc946264099f9c036bb8648d35911f45424e", func := "loop.example/atomicpush/laws.FnExactLogSync", spec := "fnExactLogSync", apart := false, narrowed := true }
def FnExactLogSyncUptoSaid : Prop := fnExactLogSyncUptoRow.holds Try.pinned (OpenSpec.upto fnExactLogSyncSpec)

/-- 'laws.FnExactLogCrash', WHERE WHAT IT READS IS OF BULK AT MOST 1048576: true; the input reads as it did. -/
def fnExactLogCrashUptoRow : OpenClaim := { program := "ytclonfhpabdpgab", sum := "7ff74ac66b6a82061281b08887b2dc946264099f9c036bb8648d35911f45424e", func := "loop.example/atomicpush/laws.FnExactLogCrash", spec := "fnExactLogCrash", unfollowed := true, recurses := true, apart := false, narrowed := true }
def FnExactLogCrashUptoSaid : Prop := fnExactLogCrashUptoRow.holds Try.pinned (OpenSpec.upto fnExactLogCrashSpec)

end Rows
end Go.Proofs.Ytclonfhpabdpgab
