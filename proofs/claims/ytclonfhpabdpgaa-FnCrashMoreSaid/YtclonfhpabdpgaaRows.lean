/-
  No cell of these rows narrows 'for every input' (looked for: loops, veiled, ifaces, maps, wideKeys, modest, calm, conditions, laid).
  DERIVED. THE GIVEN ROWS OF THIS SEAT. 12 by the template 'for every input the law returns true; each argument reads behind the call as it read before'; 0 by the template 'total and deterministic' (their statements: YtclonfhpabdpgaaTotals.lean).
  GIVEN WITH THE SEED: the statements are not yours to turn. If you find one false, say at which input.
  Laid BY PROGRAM, IN A SANDBOX (cutbox-rows.mjs): the forced cells as the released guide's own fill.sh prints them over the translation e7673716725aa88c… (all of the seat's roots in one cut). By AI agents, Wed Nov 11 2026. No macro, syntax, notation, axiom, sorry.
-/
import Derived.Test.YtclonfhpabdpgaaChecked
import GoSem.Claim
import GoSem.ClaimJoined
import GoSem.ClaimMapViews
import Derived.JoinedTies
import Derived.KernelRfl
namespace Go.Proofs.Ytclonfhpabdpgaa
/- THE CELL 'sum', in the pinned program and in every row, IS THE sha256 OF THE DUMP (.gsa) THAT YtclonfhpabdpgaaProg.lean LOADS. Nothing in Lean hashes anything: it is a label: what it is worth is what the hold of that sum in a sandbox is worth. -/
noncomputable def Try.pinned : Pinned := { name := "ytclonfhpabdpgaa", sum := "e7673716725aa88c543fb0348eb8ecbb939bcb734a15401ace7e9bb76c93e3a8", checked := Try.checked }
namespace Rows
def none {H : Type} : Left H := { results := [], args := [] }

/-- 'laws.FnFrame': WHATEVER THE INPUT: true; the input reads as it did. -/
def fnFrameSpec : ChangeSpec := { name := "fnFrame", fn := fun _ => fun
  | [d] => { results := [.lit (.bool true)], args := [d] }
  | _ => none }
def fnFrameRow : OpenClaim := { program := "ytclonfhpabdpgaa", sum := "e7673716725aa88c543fb0348eb8ecbb939bcb734a15401ace7e9bb76c93e3a8", func := "loop.example/atomicpush/laws.FnFrame", spec := "fnFrame", unfollowed := true, recurses := true, apart := false }
def FnFrameSaid : Prop := fnFrameRow.holds Try.pinned (OpenSpec.ofChange fnFrameSpec)

/-- ITS FALSE NEIGHBOUR: 'it returns false'. Refute it at one input. -/
def fnFrameWrong : ChangeSpec := { name := "fnFrame", fn := fun _ => fun
  | [d] => { results := [.lit (.bool false)], args := [d] }
  | _ => none }
def FnFrameWrongFalsely : Prop := fnFrameRow.holds Try.pinned (OpenSpec.ofChange fnFrameWrong)

/-- 'laws.FnFrameChange': WHATEVER THE INPUT: true; the input reads as it did. -/
def fnFrameChangeSpec : ChangeSpec := { name := "fnFrameChange", fn := fun _ => fun
  | [d1, d2] => { results := [.lit (.bool true)], args := [d1, d2] }
  | _ => none }
def fnFrameChangeRow : OpenClaim := { program := "ytclonfhpabdpgaa", sum := "e7673716725aa88c543fb0348eb8ecbb939bcb734a15401ace7e9bb76c93e3a8", func := "loop.example/atomicpush/laws.FnFrameChange", spec := "fnFrameChange", unfollowed := true, recurses := true, apart := false }
def FnFrameChangeSaid : Prop := fnFrameChangeRow.holds Try.pinned (OpenSpec.ofChange fnFrameChangeSpec)

/-- ITS FALSE NEIGHBOUR: 'it returns false'. Refute it at one input. -/
def fnFrameChangeWrong : ChangeSpec := { name := "fnFrameChange", fn := fun _ => fun
  | [d1, d2] => { results := [.lit (.bool false)], args := [d1, d2] }
  | _ => none }
def FnFrameChangeWrongFalsely : Prop := fnFrameChangeRow.holds Try.pinned (OpenSpec.ofChange fnFrameChangeWrong)

/-- 'laws.FnFrameTorn': WHATEVER THE INPUT: true; the input reads as it did. -/
def fnFrameTornSpec : ChangeSpec := { name := "fnFrameTorn", fn := fun _ => fun
  | [d1, d2] => { results := [.lit (.bool true)], args := [d1, d2] }
  | _ => none }
def fnFrameTornRow : OpenClaim := { program := "ytclonfhpabdpgaa", sum := "e7673716725aa88c543fb0348eb8ecbb939bcb734a15401ace7e9bb76c93e3a8", func := "loop.example/atomicpush/laws.FnFrameTorn", spec := "fnFrameTorn", unfollowed := true, recurses := true, apart := false }
def FnFrameTornSaid : Prop := fnFrameTornRow.holds Try.pinned (OpenSpec.ofChange fnFrameTornSpec)

/-- ITS FALSE NEIGHBOUR: 'it returns false'. Refute it at one input. -/
def fnFrameTornWrong : ChangeSpec := { name := "fnFrameTorn", fn := fun _ => fun
  | [d1, d2] => { results := [.lit (.bool false)], args := [d1, d2] }
  | _ => none }
def FnFrameTornWrongFalsely : Prop := fnFrameTornRow.holds Try.pinned (OpenSpec.ofChange fnFrameTornWrong)

/-- 'laws.FnScan': WHATEVER THE INPUT: true; the input reads as it did. -/
def fnScanSpec : ChangeSpec := { name := "fnScan", fn := fun _ => fun
  | [d] => { results := [.lit (.bool true)], args := [d] }
  | _ => none }
def fnScanRow : OpenClaim := { program := "ytclonfhpabdpgaa", sum := "e7673716725aa88c543fb0348eb8ecbb939bcb734a15401ace7e9bb76c93e3a8", func := "loop.example/atomicpush/laws.FnScan", spec := "fnScan", unfollowed := true, recurses := true, apart := false }
def FnScanSaid : Prop := fnScanRow.holds Try.pinned (OpenSpec.ofChange fnScanSpec)

/-- ITS FALSE NEIGHBOUR: 'it returns false'. Refute it at one input. -/
def fnScanWrong : ChangeSpec := { name := "fnScan", fn := fun _ => fun
  | [d] => { results := [.lit (.bool false)], args := [d] }
  | _ => none }
def FnScanWrongFalsely : Prop := fnScanRow.holds Try.pinned (OpenSpec.ofChange fnScanWrong)

/-- 'laws.FnScanMore': WHATEVER THE INPUT: true; the input reads as it did. -/
def fnScanMoreSpec : ChangeSpec := { name := "fnScanMore", fn := fun _ => fun
  | [d1, d2] => { results := [.lit (.bool true)], args := [d1, d2] }
  | _ => none }
def fnScanMoreRow : OpenClaim := { program := "ytclonfhpabdpgaa", sum := "e7673716725aa88c543fb0348eb8ecbb939bcb734a15401ace7e9bb76c93e3a8", func := "loop.example/atomicpush/laws.FnScanMore", spec := "fnScanMore", unfollowed := true, recurses := true, apart := false }
def FnScanMoreSaid : Prop := fnScanMoreRow.holds Try.pinned (OpenSpec.ofChange fnScanMoreSpec)

/-- ITS FALSE NEIGHBOUR: 'it returns false'. Refute it at one input. -/
def fnScanMoreWrong : ChangeSpec := { name := "fnScanMore", fn := fun _ => fun
  | [d1, d2] => { results := [.lit (.bool false)], args := [d1, d2] }
  | _ => none }
def FnScanMoreWrongFalsely : Prop := fnScanMoreRow.holds Try.pinned (OpenSpec.ofChange fnScanMoreWrong)

/-- 'laws.FnScanAgain': WHATEVER THE INPUT: true; the input reads as it did. -/
def fnScanAgainSpec : ChangeSpec := { name := "fnScanAgain", fn := fun _ => fun
  | [d] => { results := [.lit (.bool true)], args := [d] }
  | _ => none }
def fnScanAgainRow : OpenClaim := { program := "ytclonfhpabdpgaa", sum := "e7673716725aa88c543fb0348eb8ecbb939bcb734a15401ace7e9bb76c93e3a8", func := "loop.example/atomicpush/laws.FnScanAgain", spec := "fnScanAgain", unfollowed := true, recurses := true, apart := false }
def FnScanAgainSaid : Prop := fnScanAgainRow.holds Try.pinned (OpenSpec.ofChange fnScanAgainSpec)

/-- ITS FALSE NEIGHBOUR: 'it returns false'. Refute it at one input. -/
def fnScanAgainWrong : ChangeSpec := { name := "fnScanAgain", fn := fun _ => fun
  | [d] => { results := [.lit (.bool false)], args := [d] }
  | _ => none }
def FnScanAgainWrongFalsely : Prop := fnScanAgainRow.holds Try.pinned (OpenSpec.ofChange fnScanAgainWrong)

/-- 'laws.FnAppend': WHATEVER THE INPUT: true; the input reads as it did. -/
def fnAppendSpec : ChangeSpec := { name := "fnAppend", fn := fun _ => fun
  | [d] => { results := [.lit (.bool true)], args := [d] }
  | _ => none }
def fnAppendRow : OpenClaim := { program := "ytclonfhpabdpgaa", sum := "e7673716725aa88c543fb0348eb8ecbb939bcb734a15401ace7e9bb76c93e3a8", func := "loop.example/atomicpush/laws.FnAppend", spec := "fnAppend", apart := false }
def FnAppendSaid : Prop := fnAppendRow.holds Try.pinned (OpenSpec.ofChange fnAppendSpec)

/-- ITS FALSE NEIGHBOUR: 'it returns false'. Refute it at one input. -/
def fnAppendWrong : ChangeSpec := { name := "fnAppend", fn := fun _ => fun
  | [d] => { results := [.lit (.bool false)], args := [d] }
  | _ => none }
def FnAppendWrongFalsely : Prop := fnAppendRow.holds Try.pinned (OpenSpec.ofChange fnAppendWrong)

/-- 'laws.FnAppendFull': WHATEVER THE INPUT: true; the input reads as it did. -/
def fnAppendFullSpec : ChangeSpec := { name := "fnAppendFull", fn := fun _ => fun
  | [d] => { results := [.lit (.bool true)], args := [d] }
  | _ => none }
def fnAppendFullRow : OpenClaim := { program := "ytclonfhpabdpgaa", sum := "e7673716725aa88c543fb0348eb8ecbb939bcb734a15401ace7e9bb76c93e3a8", func := "loop.example/atomicpush/laws.FnAppendFull", spec := "fnAppendFull", apart := false }
def FnAppendFullSaid : Prop := fnAppendFullRow.holds Try.pinned (OpenSpec.ofChange fnAppendFullSpec)

/-- ITS FALSE NEIGHBOUR: 'it returns false'. Refute it at one input. -/
def fnAppendFullWrong : ChangeSpec := { name := "fnAppendFull", fn := fun _ => fun
  | [d] => { results := [.lit (.bool false)], args := [d] }
  | _ => none }
def FnAppendFullWrongFalsely : Prop := fnAppendFullRow.holds Try.pinned (OpenSpec.ofChange fnAppendFullWrong)

/-- 'laws.FnSync': WHATEVER THE INPUT: true; the input reads as it did. -/
def fnSyncSpec : ChangeSpec := { name := "fnSync", fn := fun _ => fun
  | [d1, d2] => { results := [.lit (.bool true)], args := [d1, d2] }
  | _ => none }
def fnSyncRow : OpenClaim := { program := "ytclonfhpabdpgaa", sum := "e7673716725aa88c543fb0348eb8ecbb939bcb734a15401ace7e9bb76c93e3a8", func := "loop.example/atomicpush/laws.FnSync", spec := "fnSync", unfollowed := true, recurses := true, apart := false }
def FnSyncSaid : Prop := fnSyncRow.holds Try.pinned (OpenSpec.ofChange fnSyncSpec)

/-- ITS FALSE NEIGHBOUR: 'it returns false'. Refute it at one input. -/
def fnSyncWrong : ChangeSpec := { name := "fnSync", fn := fun _ => fun
  | [d1, d2] => { results := [.lit (.bool false)], args := [d1, d2] }
  | _ => none }
def FnSyncWrongFalsely : Prop := fnSyncRow.holds Try.pinned (OpenSpec.ofChange fnSyncWrong)

/-- 'laws.FnCrash': WHATEVER THE INPUT: true; the input reads as it did. -/
def fnCrashSpec : ChangeSpec := { name := "fnCrash", fn := fun _ => fun
  | [d] => { results := [.lit (.bool true)], args := [d] }
  | _ => none }
def fnCrashRow : OpenClaim := { program := "ytclonfhpabdpgaa", sum := "e7673716725aa88c543fb0348eb8ecbb939bcb734a15401ace7e9bb76c93e3a8", func := "loop.example/atomicpush/laws.FnCrash", spec := "fnCrash", unfollowed := true, recurses := true, apart := false }
def FnCrashSaid : Prop := fnCrashRow.holds Try.pinned (OpenSpec.ofChange fnCrashSpec)

/-- ITS FALSE NEIGHBOUR: 'it returns false'. Refute it at one input. -/
def fnCrashWrong : ChangeSpec := { name := "fnCrash", fn := fun _ => fun
  | [d] => { results := [.lit (.bool false)], args := [d] }
  | _ => none }
def FnCrashWrongFalsely : Prop := fnCrashRow.holds Try.pinned (OpenSpec.ofChange fnCrashWrong)

/-- 'laws.FnCrashTwice': WHATEVER THE INPUT: true; the input reads as it did. -/
def fnCrashTwiceSpec : ChangeSpec := { name := "fnCrashTwice", fn := fun _ => fun
  | [d1, d2] => { results := [.lit (.bool true)], args := [d1, d2] }
  | _ => none }
def fnCrashTwiceRow : OpenClaim := { program := "ytclonfhpabdpgaa", sum := "e7673716725aa88c543fb0348eb8ecbb939bcb734a15401ace7e9bb76c93e3a8", func := "loop.example/atomicpush/laws.FnCrashTwice", spec := "fnCrashTwice", unfollowed := true, recurses := true, apart := false }
def FnCrashTwiceSaid : Prop := fnCrashTwiceRow.holds Try.pinned (OpenSpec.ofChange fnCrashTwiceSpec)

/-- ITS FALSE NEIGHBOUR: 'it returns false'. Refute it at one input. -/
def fnCrashTwiceWrong : ChangeSpec := { name := "fnCrashTwice", fn := fun _ => fun
  | [d1, d2] => { results := [.lit (.bool false)], args := [d1, d2] }
  | _ => none }
def FnCrashTwiceWrongFalsely : Prop := fnCrashTwiceRow.holds Try.pinned (OpenSpec.ofChange fnCrashTwiceWrong)

/-- 'laws.FnCrashMore': WHATEVER THE INPUT: true; the input reads as it did. -/
def fnCrashMoreSpec : ChangeSpec := { name := "fnCrashMore", fn := fun _ => fun
  | [d] => { results := [.lit (.bool true)], args := [d] }
  | _ => none }
def fnCrashMoreRow : OpenClaim := { program := "ytclonfhpabdpgaa", sum := "e7673716725aa88c543fb0348eb8ecbb939bcb734a15401ace7e9bb76c93e3a8", func := "loop.example/atomicpush/laws.FnCrashMore", spec := "fnCrashMore", unfollowed := true, recurses := true, apart := false }
def FnCrashMoreSaid : Prop := fnCrashMoreRow.holds Try.pinned (OpenSpec.ofChange fnCrashMoreSpec)

/-- ITS FALSE NEIGHBOUR: 'it returns false'. Refute it at one input. -/
def fnCrashMoreWrong : ChangeSpec := { name := "fnCrashMore", fn := fun _ => fun
  | [d] => { results := [.lit (.bool false)], args := [d] }
  | _ => none }
def FnCrashMoreWrongFalsely : Prop := fnCrashMoreRow.holds Try.pinned (OpenSpec.ofChange fnCrashMoreWrong)

/- THE SECOND FORM. 'bulk': how many values and letters a reading holds, each counted each time it is reached (what is shared counts as often as it is met; a slice's spare places count too). A statement '..UptoSaid' is the law's where the arguments, and the package variables that the reading takes, are together of bulk at most 1048576: NARROWER than '..Said'. Prove '..Said' where nothing that the law and all that it calls make is longer than what came in: it says more and counts as full. Else prove '..UptoSaid'. A law counts once. -/
mutual
def uptoBulk {H : Type} : DataW H → Nat
  | .lit (.string bytes) => bytes.length + 1
  | .lit _ => 1
  | .nil => 1
  | .ptr d => uptoBulk d + 1
  | .slice elems spare => uptoBulkAll elems + uptoBulkAll spare + 1
  | .agg parts => uptoBulkAll parts + 1
  | .iface _ d => uptoBulk d + 1
  | .map entries => uptoBulkEntries entries + 1
  | .held _ => 1
def uptoBulkAll {H : Type} : List (DataW H) → Nat
  | [] => 0
  | d :: r => uptoBulk d + uptoBulkAll r
def uptoBulkEntries {H : Type} : List (Lit × DataW H) → Nat
  | [] => 0
  | x :: r => uptoBulkEntry x + uptoBulkEntries r
def uptoBulkEntry {H : Type} : Lit × DataW H → Nat
  | (.string bytes, d) => bytes.length + uptoBulk d + 1
  | (_, d) => uptoBulk d + 1
 end
def uptoSmall : (H : Type) → List (DataW H) → Bool := fun _ ds => decide (uptoBulkAll ds ≤ 1048576)
def OpenSpec.upto (s : _root_.Go.ChangeSpec) : _root_.Go.OpenSpec := { _root_.Go.OpenSpec.ofChange s with cond := some uptoSmall }

/-- 'laws.FnFrame', WHERE WHAT IT READS IS OF BULK AT MOST 1048576: true; the input reads as it did. -/
def fnFrameUptoRow : OpenClaim := { program := "ytclonfhpabdpgaa", sum := "e7673716725aa88c543fb0348eb8ecbb939bcb734a15401ace7e9bb76c93e3a8", func := "loop.example/atomicpush/laws.FnFrame", spec := "fnFrame", unfollowed := true, recurses := true, apart := false, narrowed := true }
def FnFrameUptoSaid : Prop := fnFrameUptoRow.holds Try.pinned (OpenSpec.upto fnFrameSpec)

/-- 'laws.FnFrameChange', WHERE WHAT IT READS IS OF BULK AT MOST 1048576: true; the input reads as it did. -/
def fnFrameChangeUptoRow : OpenClaim := { program := "ytclonfhpabdpgaa", sum := "e7673716725aa88c543fb0348eb8ecbb939bcb734a15401ace7e9bb76c93e3a8", func := "loop.example/atomicpush/laws.FnFrameChange", spec := "fnFrameChange", unfollowed := true, recurses := true, apart := false, narrowed := true }
def FnFrameChangeUptoSaid : Prop := fnFrameChangeUptoRow.holds Try.pinned (OpenSpec.upto fnFrameChangeSpec)

/-- 'laws.FnFrameTorn', WHERE WHAT IT READS IS OF BULK AT MOST 1048576: true; the input reads as it did. -/
def fnFrameTornUptoRow : OpenClaim := { program := "ytclonfhpabdpgaa", sum := "e7673716725aa88c543fb0348eb8ecbb939bcb734a15401ace7e9bb76c93e3a8", func := "loop.example/atomicpush/laws.FnFrameTorn", spec := "fnFrameTorn", unfollowed := true, recurses := true, apart := false, narrowed := true }
def FnFrameTornUptoSaid : Prop := fnFrameTornUptoRow.holds Try.pinned (OpenSpec.upto fnFrameTornSpec)

/-- 'laws.FnScan', WHERE WHAT IT READS IS OF BULK AT MOST 1048576: true; the input reads as it did. -/
def fnScanUptoRow : OpenClaim := { program := "ytclonfhpabdpgaa", sum := "e7673716725aa88c543fb0348eb8ecbb939bcb734a15401ace7e9bb76c93e3a8", func := "loop.example/atomicpush/laws.FnScan", spec := "fnScan", unfollowed := true, recurses := true, apart := false, narrowed := true }
def FnScanUptoSaid : Prop := fnScanUptoRow.holds Try.pinned (OpenSpec.upto fnScanSpec)

/-- 'laws.FnScanMore', WHERE WHAT IT READS IS OF BULK AT MOST 1048576: true; the input reads as it did. -/
def fnScanMoreUptoRow : OpenClaim := { program := "ytclonfhpabdpgaa", sum := "e7673716725aa88c543fb0348eb8ecbb939bcb734a15401ace7e9bb76c93e3a8", func := "loop.example/atomicpush/laws.FnScanMore", spec := "fnScanMore", unfollowed := true, recurses := true, apart := false, narrowed := true }
def FnScanMoreUptoSaid : Prop := fnScanMoreUptoRow.holds Try.pinned (OpenSpec.upto fnScanMoreSpec)

/-- 'laws.FnScanAgain', WHERE WHAT IT READS IS OF BULK AT MOST 1048576: true; the input reads as it did. -/
def fnScanAgainUptoRow : OpenClaim := { program := "ytclonfhpabdpgaa", sum := "e7673716725aa88c543fb0348eb8ecbb939bcb734a15401ace7e9bb76c93e3a8", func := "loop.example/atomicpush/laws.FnScanAgain", spec := "fnScanAgain", unfollowed := true, recurses := true, apart := false, narrowed := true }
def FnScanAgainUptoSaid : Prop := fnScanAgainUptoRow.holds Try.pinned (OpenSpec.upto fnScanAgainSpec)

/-- 'laws.FnAppend', WHERE WHAT IT READS IS OF BULK AT MOST 1048576: true; the input reads as it did. -/
def fnAppendUptoRow : OpenClaim := { program := "ytclonfhpabdpgaa", sum := "e7673716725aa88c543fb0348eb8ecbb939bcb734a15401ace7e9bb76c93e3a8", func := "loop.example/atomicpush/laws.FnAppend", spec := "fnAppend", apart := false, narrowed := true }
def FnAppendUptoSaid : Prop := fnAppendUptoRow.holds Try.pinned (OpenSpec.upto fnAppendSpec)

/-- 'laws.FnAppendFull', WHERE WHAT IT READS IS OF BULK AT MOST 1048576: true; the input reads as it did. -/
def fnAppendFullUptoRow : OpenClaim := { program := "ytclonfhpabdpgaa", sum := "e7673716725aa88c543fb0348eb8ecbb939bcb734a15401ace7e9bb76c93e3a8", func := "loop.example/atomicpush/laws.FnAppendFull", spec := "fnAppendFull", apart := false, narrowed := true }
def FnAppendFullUptoSaid : Prop := fnAppendFullUptoRow.holds Try.pinned (OpenSpec.upto fnAppendFullSpec)

/-- 'laws.FnSync', WHERE WHAT IT READS IS OF BULK AT MOST 1048576: true; the input reads as it did. -/
def fnSyncUptoRow : OpenClaim := { program := "ytclonfhpabdpgaa", sum := "e7673716725aa88c543fb0348eb8ecbb939bcb734a15401ace7e9bb76c93e3a8", func := "loop.example/atomicpush/laws.FnSync", spec := "fnSync", unfollowed := true, recurses := true, apart := false, narrowed := true }
def FnSyncUptoSaid : Prop := fnSyncUptoRow.holds Try.pinned (OpenSpec.upto fnSyncSpec)

/-- 'laws.FnCrash', WHERE WHAT IT READS IS OF BULK AT MOST 1048576: true; the input reads as it did. -/
def fnCrashUptoRow : OpenClaim := { program := "ytclonfhpabdpgaa", sum := "e7673716725aa88c543fb0348eb8ecbb939bcb734a15401ace7e9bb76c93e3a8", func := "loop.example/atomicpush/laws.FnCrash", spec := "fnCrash", unfollowed := true, recurses := true, apart := false, narrowed := true }
def FnCrashUptoSaid : Prop := fnCrashUptoRow.holds Try.pinned (OpenSpec.upto fnCrashSpec)

/-- 'laws.FnCrashTwice', WHERE WHAT IT READS IS OF BULK AT MOST 1048576: true; the input reads as it did. -/
def fnCrashTwiceUptoRow : OpenClaim := { program := "ytclonfhpabdpgaa", sum := "e7673716725aa88c543fb0348eb8ecbb939bcb734a15401ace7e9bb76c93e3a8", func := "loop.example/atomicpush/laws.FnCrashTwice", spec := "fnCrashTwice", unfollowed := true, recurses := true, apart := false, narrowed := true }
def FnCrashTwiceUptoSaid : Prop := fnCrashTwiceUptoRow.holds Try.pinned (OpenSpec.upto fnCrashTwiceSpec)

/-- 'laws.FnCrashMore', WHERE WHAT IT READS IS OF BULK AT MOST 1048576: true; the input reads as it did. -/
def fnCrashMoreUptoRow : OpenClaim := { program := "ytclonfhpabdpgaa", sum := "e7673716725aa88c543fb0348eb8ecbb939bcb734a15401ace7e9bb76c93e3a8", func := "loop.example/atomicpush/laws.FnCrashMore", spec := "fnCrashMore", unfollowed := true, recurses := true, apart := false, narrowed := true }
def FnCrashMoreUptoSaid : Prop := fnCrashMoreUptoRow.holds Try.pinned (OpenSpec.upto fnCrashMoreSpec)

end Rows
end Go.Proofs.Ytclonfhpabdpgaa
