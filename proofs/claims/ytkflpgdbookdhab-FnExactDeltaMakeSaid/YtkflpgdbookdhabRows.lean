/-
  No cell of these rows narrows 'for every input' (looked for: loops, veiled, ifaces, maps, wideKeys, modest, calm, conditions, laid).
  DERIVED. THE GIVEN ROWS OF THIS SEAT. 13 by the template 'for every input the law returns true; each argument reads behind the call as it read before'; 0 by the template 'total and deterministic' (their statements: YtkflpgdbookdhabTotals.lean).
  GIVEN WITH THE SEED: the statements are not yours to turn. If you find one false, say at which input.
  Laid BY PROGRAM, IN A SANDBOX (cutbox-rows.mjs): the forced cells as the released guide's own fill.sh prints them over the translation e83eb72eda2f2ea6… (all of the seat's roots in one cut). By AI agents, Wed Nov 11 2026. No macro, syntax, notation, axiom, sorry.
-/
import Derived.Test.YtkflpgdbookdhabChecked
import GoSem.Claim
import GoSem.ClaimJoined
import GoSem.ClaimMapViews
import Derived.JoinedTies
import Derived.KernelRfl
namespace Go.Proofs.Ytkflpgdbookdhab
/- THE CELL 'sum', in the pinned program and in every row, IS THE sha256 OF THE DUMP (.gsa) THAT YtkflpgdbookdhabProg.lean LOADS. Nothing in Lean hashes anything: it is a label: what it is worth is what the hold of that sum in a sandbox is worth. -/
noncomputable def Try.pinned : Pinned := { name := "ytkflpgdbookdhab", sum := "e83eb72eda2f2ea60cd2b193deaadf548c37648632efcc6f045b49fd11aa5d4a", checked := Try.checked }
namespace Rows
def none {H : Type} : Left H := { results := [], args := [] }

/-- 'laws.FnDelta': WHATEVER THE INPUT: true; the input reads as it did. -/
def fnDeltaSpec : ChangeSpec := { name := "fnDelta", fn := fun _ => fun
  | [d] => { results := [.lit (.bool true)], args := [d] }
  | _ => none }
def fnDeltaRow : OpenClaim := { program := "ytkflpgdbookdhab", sum := "e83eb72eda2f2ea60cd2b193deaadf548c37648632efcc6f045b49fd11aa5d4a", func := "loop.example/atomicpush/laws.FnDelta", spec := "fnDelta", apart := false }
def FnDeltaSaid : Prop := fnDeltaRow.holds Try.pinned (OpenSpec.ofChange fnDeltaSpec)

/-- ITS FALSE NEIGHBOUR: 'it returns false'. Refute it at one input. -/
def fnDeltaWrong : ChangeSpec := { name := "fnDelta", fn := fun _ => fun
  | [d] => { results := [.lit (.bool false)], args := [d] }
  | _ => none }
def FnDeltaWrongFalsely : Prop := fnDeltaRow.holds Try.pinned (OpenSpec.ofChange fnDeltaWrong)

/-- 'laws.FnDeltaSize': WHATEVER THE INPUT: true; the input reads as it did. -/
def fnDeltaSizeSpec : ChangeSpec := { name := "fnDeltaSize", fn := fun _ => fun
  | [d] => { results := [.lit (.bool true)], args := [d] }
  | _ => none }
def fnDeltaSizeRow : OpenClaim := { program := "ytkflpgdbookdhab", sum := "e83eb72eda2f2ea60cd2b193deaadf548c37648632efcc6f045b49fd11aa5d4a", func := "loop.example/atomicpush/laws.FnDeltaSize", spec := "fnDeltaSize", apart := false }
def FnDeltaSizeSaid : Prop := fnDeltaSizeRow.holds Try.pinned (OpenSpec.ofChange fnDeltaSizeSpec)

/-- ITS FALSE NEIGHBOUR: 'it returns false'. Refute it at one input. -/
def fnDeltaSizeWrong : ChangeSpec := { name := "fnDeltaSize", fn := fun _ => fun
  | [d] => { results := [.lit (.bool false)], args := [d] }
  | _ => none }
def FnDeltaSizeWrongFalsely : Prop := fnDeltaSizeRow.holds Try.pinned (OpenSpec.ofChange fnDeltaSizeWrong)

/-- 'laws.FnDeltaSelf': WHATEVER THE INPUT: true; the input reads as it did. -/
def fnDeltaSelfSpec : ChangeSpec := { name := "fnDeltaSelf", fn := fun _ => fun
  | [d] => { results := [.lit (.bool true)], args := [d] }
  | _ => none }
def fnDeltaSelfRow : OpenClaim := { program := "ytkflpgdbookdhab", sum := "e83eb72eda2f2ea60cd2b193deaadf548c37648632efcc6f045b49fd11aa5d4a", func := "loop.example/atomicpush/laws.FnDeltaSelf", spec := "fnDeltaSelf", apart := false }
def FnDeltaSelfSaid : Prop := fnDeltaSelfRow.holds Try.pinned (OpenSpec.ofChange fnDeltaSelfSpec)

/-- ITS FALSE NEIGHBOUR: 'it returns false'. Refute it at one input. -/
def fnDeltaSelfWrong : ChangeSpec := { name := "fnDeltaSelf", fn := fun _ => fun
  | [d] => { results := [.lit (.bool false)], args := [d] }
  | _ => none }
def FnDeltaSelfWrongFalsely : Prop := fnDeltaSelfRow.holds Try.pinned (OpenSpec.ofChange fnDeltaSelfWrong)

/-- 'laws.FnDeltaNone': WHATEVER THE INPUT: true; the input reads as it did. -/
def fnDeltaNoneSpec : ChangeSpec := { name := "fnDeltaNone", fn := fun _ => fun
  | [d] => { results := [.lit (.bool true)], args := [d] }
  | _ => none }
def fnDeltaNoneRow : OpenClaim := { program := "ytkflpgdbookdhab", sum := "e83eb72eda2f2ea60cd2b193deaadf548c37648632efcc6f045b49fd11aa5d4a", func := "loop.example/atomicpush/laws.FnDeltaNone", spec := "fnDeltaNone", apart := false }
def FnDeltaNoneSaid : Prop := fnDeltaNoneRow.holds Try.pinned (OpenSpec.ofChange fnDeltaNoneSpec)

/-- ITS FALSE NEIGHBOUR: 'it returns false'. Refute it at one input. -/
def fnDeltaNoneWrong : ChangeSpec := { name := "fnDeltaNone", fn := fun _ => fun
  | [d] => { results := [.lit (.bool false)], args := [d] }
  | _ => none }
def FnDeltaNoneWrongFalsely : Prop := fnDeltaNoneRow.holds Try.pinned (OpenSpec.ofChange fnDeltaNoneWrong)

/-- 'laws.FnDeltaCopies': WHATEVER THE INPUT: true; the input reads as it did. -/
def fnDeltaCopiesSpec : ChangeSpec := { name := "fnDeltaCopies", fn := fun _ => fun
  | [d] => { results := [.lit (.bool true)], args := [d] }
  | _ => none }
def fnDeltaCopiesRow : OpenClaim := { program := "ytkflpgdbookdhab", sum := "e83eb72eda2f2ea60cd2b193deaadf548c37648632efcc6f045b49fd11aa5d4a", func := "loop.example/atomicpush/laws.FnDeltaCopies", spec := "fnDeltaCopies", apart := false }
def FnDeltaCopiesSaid : Prop := fnDeltaCopiesRow.holds Try.pinned (OpenSpec.ofChange fnDeltaCopiesSpec)

/-- ITS FALSE NEIGHBOUR: 'it returns false'. Refute it at one input. -/
def fnDeltaCopiesWrong : ChangeSpec := { name := "fnDeltaCopies", fn := fun _ => fun
  | [d] => { results := [.lit (.bool false)], args := [d] }
  | _ => none }
def FnDeltaCopiesWrongFalsely : Prop := fnDeltaCopiesRow.holds Try.pinned (OpenSpec.ofChange fnDeltaCopiesWrong)

/-- 'laws.FnApplyParts': WHATEVER THE INPUT: true; the input reads as it did. -/
def fnApplyPartsSpec : ChangeSpec := { name := "fnApplyParts", fn := fun _ => fun
  | [d1, d2] => { results := [.lit (.bool true)], args := [d1, d2] }
  | _ => none }
def fnApplyPartsRow : OpenClaim := { program := "ytkflpgdbookdhab", sum := "e83eb72eda2f2ea60cd2b193deaadf548c37648632efcc6f045b49fd11aa5d4a", func := "loop.example/atomicpush/laws.FnApplyParts", spec := "fnApplyParts", apart := false }
def FnApplyPartsSaid : Prop := fnApplyPartsRow.holds Try.pinned (OpenSpec.ofChange fnApplyPartsSpec)

/-- ITS FALSE NEIGHBOUR: 'it returns false'. Refute it at one input. -/
def fnApplyPartsWrong : ChangeSpec := { name := "fnApplyParts", fn := fun _ => fun
  | [d1, d2] => { results := [.lit (.bool false)], args := [d1, d2] }
  | _ => none }
def FnApplyPartsWrongFalsely : Prop := fnApplyPartsRow.holds Try.pinned (OpenSpec.ofChange fnApplyPartsWrong)

/-- 'laws.FnApplyFits': WHATEVER THE INPUT: true; the input reads as it did. -/
def fnApplyFitsSpec : ChangeSpec := { name := "fnApplyFits", fn := fun _ => fun
  | [d] => { results := [.lit (.bool true)], args := [d] }
  | _ => none }
def fnApplyFitsRow : OpenClaim := { program := "ytkflpgdbookdhab", sum := "e83eb72eda2f2ea60cd2b193deaadf548c37648632efcc6f045b49fd11aa5d4a", func := "loop.example/atomicpush/laws.FnApplyFits", spec := "fnApplyFits", apart := false }
def FnApplyFitsSaid : Prop := fnApplyFitsRow.holds Try.pinned (OpenSpec.ofChange fnApplyFitsSpec)

/-- ITS FALSE NEIGHBOUR: 'it returns false'. Refute it at one input. -/
def fnApplyFitsWrong : ChangeSpec := { name := "fnApplyFits", fn := fun _ => fun
  | [d] => { results := [.lit (.bool false)], args := [d] }
  | _ => none }
def FnApplyFitsWrongFalsely : Prop := fnApplyFitsRow.holds Try.pinned (OpenSpec.ofChange fnApplyFitsWrong)

/-- 'laws.FnDeltaOps': WHATEVER THE INPUT: true; the input reads as it did. -/
def fnDeltaOpsSpec : ChangeSpec := { name := "fnDeltaOps", fn := fun _ => fun
  | [d] => { results := [.lit (.bool true)], args := [d] }
  | _ => none }
def fnDeltaOpsRow : OpenClaim := { program := "ytkflpgdbookdhab", sum := "e83eb72eda2f2ea60cd2b193deaadf548c37648632efcc6f045b49fd11aa5d4a", func := "loop.example/atomicpush/laws.FnDeltaOps", spec := "fnDeltaOps", apart := false }
def FnDeltaOpsSaid : Prop := fnDeltaOpsRow.holds Try.pinned (OpenSpec.ofChange fnDeltaOpsSpec)

/-- ITS FALSE NEIGHBOUR: 'it returns false'. Refute it at one input. -/
def fnDeltaOpsWrong : ChangeSpec := { name := "fnDeltaOps", fn := fun _ => fun
  | [d] => { results := [.lit (.bool false)], args := [d] }
  | _ => none }
def FnDeltaOpsWrongFalsely : Prop := fnDeltaOpsRow.holds Try.pinned (OpenSpec.ofChange fnDeltaOpsWrong)

/-- 'laws.FnApplyEmpty': WHATEVER THE INPUT: true; the input reads as it did. -/
def fnApplyEmptySpec : ChangeSpec := { name := "fnApplyEmpty", fn := fun _ => fun
  | [d] => { results := [.lit (.bool true)], args := [d] }
  | _ => none }
def fnApplyEmptyRow : OpenClaim := { program := "ytkflpgdbookdhab", sum := "e83eb72eda2f2ea60cd2b193deaadf548c37648632efcc6f045b49fd11aa5d4a", func := "loop.example/atomicpush/laws.FnApplyEmpty", spec := "fnApplyEmpty", apart := false }
def FnApplyEmptySaid : Prop := fnApplyEmptyRow.holds Try.pinned (OpenSpec.ofChange fnApplyEmptySpec)

/-- ITS FALSE NEIGHBOUR: 'it returns false'. Refute it at one input. -/
def fnApplyEmptyWrong : ChangeSpec := { name := "fnApplyEmpty", fn := fun _ => fun
  | [d] => { results := [.lit (.bool false)], args := [d] }
  | _ => none }
def FnApplyEmptyWrongFalsely : Prop := fnApplyEmptyRow.holds Try.pinned (OpenSpec.ofChange fnApplyEmptyWrong)

/-- 'laws.FnSizeSum': WHATEVER THE INPUT: true; the input reads as it did. -/
def fnSizeSumSpec : ChangeSpec := { name := "fnSizeSum", fn := fun _ => fun
  | [d1, d2] => { results := [.lit (.bool true)], args := [d1, d2] }
  | _ => none }
def fnSizeSumRow : OpenClaim := { program := "ytkflpgdbookdhab", sum := "e83eb72eda2f2ea60cd2b193deaadf548c37648632efcc6f045b49fd11aa5d4a", func := "loop.example/atomicpush/laws.FnSizeSum", spec := "fnSizeSum", apart := false }
def FnSizeSumSaid : Prop := fnSizeSumRow.holds Try.pinned (OpenSpec.ofChange fnSizeSumSpec)

/-- ITS FALSE NEIGHBOUR: 'it returns false'. Refute it at one input. -/
def fnSizeSumWrong : ChangeSpec := { name := "fnSizeSum", fn := fun _ => fun
  | [d1, d2] => { results := [.lit (.bool false)], args := [d1, d2] }
  | _ => none }
def FnSizeSumWrongFalsely : Prop := fnSizeSumRow.holds Try.pinned (OpenSpec.ofChange fnSizeSumWrong)

/-- 'laws.FnExactDeltaApply': WHATEVER THE INPUT: true; the input reads as it did. -/
def fnExactDeltaApplySpec : ChangeSpec := { name := "fnExactDeltaApply", fn := fun _ => fun
  | [d1, d2] => { results := [.lit (.bool true)], args := [d1, d2] }
  | _ => none }
def fnExactDeltaApplyRow : OpenClaim := { program := "ytkflpgdbookdhab", sum := "e83eb72eda2f2ea60cd2b193deaadf548c37648632efcc6f045b49fd11aa5d4a", func := "loop.example/atomicpush/laws.FnExactDeltaApply", spec := "fnExactDeltaApply", apart := false }
def FnExactDeltaApplySaid : Prop := fnExactDeltaApplyRow.holds Try.pinned (OpenSpec.ofChange fnExactDeltaApplySpec)

/-- ITS FALSE NEIGHBOUR: 'it returns false'. Refute it at one input. -/
def fnExactDeltaApplyWrong : ChangeSpec := { name := "fnExactDeltaApply", fn := fun _ => fun
  | [d1, d2] => { results := [.lit (.bool false)], args := [d1, d2] }
  | _ => none }
def FnExactDeltaApplyWrongFalsely : Prop := fnExactDeltaApplyRow.holds Try.pinned (OpenSpec.ofChange fnExactDeltaApplyWrong)

/-- 'laws.FnExactDeltaMake': WHATEVER THE INPUT: true; the input reads as it did. -/
def fnExactDeltaMakeSpec : ChangeSpec := { name := "fnExactDeltaMake", fn := fun _ => fun
  | [d1, d2] => { results := [.lit (.bool true)], args := [d1, d2] }
  | _ => none }
def fnExactDeltaMakeRow : OpenClaim := { program := "ytkflpgdbookdhab", sum := "e83eb72eda2f2ea60cd2b193deaadf548c37648632efcc6f045b49fd11aa5d4a", func := "loop.example/atomicpush/laws.FnExactDeltaMake", spec := "fnExactDeltaMake", apart := false }
def FnExactDeltaMakeSaid : Prop := fnExactDeltaMakeRow.holds Try.pinned (OpenSpec.ofChange fnExactDeltaMakeSpec)

/-- ITS FALSE NEIGHBOUR: 'it returns false'. Refute it at one input. -/
def fnExactDeltaMakeWrong : ChangeSpec := { name := "fnExactDeltaMake", fn := fun _ => fun
  | [d1, d2] => { results := [.lit (.bool false)], args := [d1, d2] }
  | _ => none }
def FnExactDeltaMakeWrongFalsely : Prop := fnExactDeltaMakeRow.holds Try.pinned (OpenSpec.ofChange fnExactDeltaMakeWrong)

/-- 'laws.FnExactDeltaSize': WHATEVER THE INPUT: true; the input reads as it did. -/
def fnExactDeltaSizeSpec : ChangeSpec := { name := "fnExactDeltaSize", fn := fun _ => fun
  | [d] => { results := [.lit (.bool true)], args := [d] }
  | _ => none }
def fnExactDeltaSizeRow : OpenClaim := { program := "ytkflpgdbookdhab", sum := "e83eb72eda2f2ea60cd2b193deaadf548c37648632efcc6f045b49fd11aa5d4a", func := "loop.example/atomicpush/laws.FnExactDeltaSize", spec := "fnExactDeltaSize", apart := false }
def FnExactDeltaSizeSaid : Prop := fnExactDeltaSizeRow.holds Try.pinned (OpenSpec.ofChange fnExactDeltaSizeSpec)

/-- ITS FALSE NEIGHBOUR: 'it returns false'. Refute it at one input. -/
def fnExactDeltaSizeWrong : ChangeSpec := { name := "fnExactDeltaSize", fn := fun _ => fun
  | [d] => { results := [.lit (.bool false)], args := [d] }
  | _ => none }
def FnExactDeltaSizeWrongFalsely : Prop := fnExactDeltaSizeRow.holds Try.pinned (OpenSpec.ofChange fnExactDeltaSizeWrong)

/- THE SECOND FORM. 'bulk': how many values and letters a reading holds, each counted each time it is reached (what is shared counts as often as it is met; a slice's spare places count too). A statement '..UptoSaid' is the law's where the arguments, and the package variables that the reading takes, are together of bulk at most 1048576: NARROWER than '..Said'. Prove '..Said' where nothing that the law and all that it calls make is longer than what came in: it says more and counts as full. Else prove '..UptoSaid'. A law counts once. -/
mutual
def uptoBulk {H : Type} : DataW H → Nat
  | .lit (.string bytes) => bytes.length + 1
  | .lit _ => 1
  | .nil => 1
  | .ptr d => uptoBulk d + 1
  | .slice elems spare => uptoBulkAll elems + uptoBulkAll spare + 1
  | .agg parts => uptoBulkAll parts + 1
  | .iface _ d => uptoBulk d + 1
  | .map entries => uptoBulkEntries entries + 1
  | .held _ => 1
def uptoBulkAll {H : Type} : List (DataW H) → Nat
  | [] => 0
  | d :: r => uptoBulk d + uptoBulkAll r
def uptoBulkEntries {H : Type} : List (Lit × DataW H) → Nat
  | [] => 0
  | x :: r => uptoBulkEntry x + uptoBulkEntries r
def uptoBulkEntry {H : Type} : Lit × DataW H → Nat
  | (.string bytes, d) => bytes.length + uptoBulk d + 1
  | (_, d) => uptoBulk d + 1
 end
def uptoSmall : (H : Type) → List (DataW H) → Bool := fun _ ds => decide (uptoBulkAll ds ≤ 1048576)
def OpenSpec.upto (s : _root_.Go.ChangeSpec) : _root_.Go.OpenSpec := { _root_.Go.OpenSpec.ofChange s with cond := some uptoSmall }

/-- 'laws.FnDelta', WHERE WHAT IT READS IS OF BULK AT MOST 1048576: true; the input reads as it did. -/
def fnDeltaUptoRow : OpenClaim := { program := "ytkflpgdbookdhab", sum := "e83eb72eda2f2ea60cd2b193deaadf548c37648632efcc6f045b49fd11aa5d4a", func := "loop.example/atomicpush/laws.FnDelta", spec := "fnDelta", apart := false, narrowed := true }
def FnDeltaUptoSaid : Prop := fnDeltaUptoRow.holds Try.pinned (OpenSpec.upto fnDeltaSpec)

/-- 'laws.FnDeltaSize', WHERE WHAT IT READS IS OF BULK AT MOST 1048576: true; the input reads as it did. -/
def fnDeltaSizeUptoRow : OpenClaim := { program := "ytkflpgdbookdhab", sum := "e83eb72eda2f2ea60cd2b193deaadf548c37648632efcc6f045b49fd11aa5d4a", func := "loop.example/atomicpush/laws.FnDeltaSize", spec := "fnDeltaSize", apart := false, narrowed := true }
def FnDeltaSizeUptoSaid : Prop := fnDeltaSizeUptoRow.holds Try.pinned (OpenSpec.upto fnDeltaSizeSpec)

/-- 'laws.FnDeltaSelf', WHERE WHAT IT READS IS OF BULK AT MOST 1048576: true; the input reads as it did. -/
def fnDeltaSelfUptoRow : OpenClaim := { program := "ytkflpgdbookdhab", sum := "e83eb72eda2f2ea60cd2b193deaadf548c37648632efcc6f045b49fd11aa5d4a", func := "loop.example/atomicpush/laws.FnDeltaSelf", spec := "fnDeltaSelf", apart := false, narrowed := true }
def FnDeltaSelfUptoSaid : Prop := fnDeltaSelfUptoRow.holds Try.pinned (OpenSpec.upto fnDeltaSelfSpec)

/-- 'laws.FnDeltaNone', WHERE WHAT IT READS IS OF BULK AT MOST 1048576: true; the input reads as it did. -/
def fnDeltaNoneUptoRow : OpenClaim := { program := "ytkflpgdbookdhab", sum := "e83eb72eda2f2ea60cd2b193deaadf548c37648632efcc6f045b49fd11aa5d4a", func := "loop.example/atomicpush/laws.FnDeltaNone", spec := "fnDeltaNone", apart := false, narrowed := true }
def FnDeltaNoneUptoSaid : Prop := fnDeltaNoneUptoRow.holds Try.pinned (OpenSpec.upto fnDeltaNoneSpec)

/-- 'laws.FnDeltaCopies', WHERE WHAT IT READS IS OF BULK AT MOST 1048576: true; the input reads as it did. -/
def fnDeltaCopiesUptoRow : OpenClaim := { program := "ytkflpgdbookdhab", sum := "e83eb72eda2f2ea60cd2b193deaadf548c37648632efcc6f045b49fd11aa5d4a", func := "loop.example/atomicpush/laws.FnDeltaCopies", spec := "fnDeltaCopies", apart := false, narrowed := true }
def FnDeltaCopiesUptoSaid : Prop := fnDeltaCopiesUptoRow.holds Try.pinned (OpenSpec.upto fnDeltaCopiesSpec)

/-- 'laws.FnApplyParts', WHERE WHAT IT READS IS OF BULK AT MOST 1048576: true; the input reads as it did. -/
def fnApplyPartsUptoRow : OpenClaim := { program := "ytkflpgdbookdhab", sum := "e83eb72eda2f2ea60cd2b193deaadf548c37648632efcc6f045b49fd11aa5d4a", func := "loop.example/atomicpush/laws.FnApplyParts", spec := "fnApplyParts", apart := false, narrowed := true }
def FnApplyPartsUptoSaid : Prop := fnApplyPartsUptoRow.holds Try.pinned (OpenSpec.upto fnApplyPartsSpec)

/-- 'laws.FnApplyFits', WHERE WHAT IT READS IS OF BULK AT MOST 1048576: true; the input reads as it did. -/
def fnApplyFitsUptoRow : OpenClaim := { program := "ytkflpgdbookdhab", sum := "e83eb72eda2f2ea60cd2b193deaadf548c37648632efcc6f045b49fd11aa5d4a", func := "loop.example/atomicpush/laws.FnApplyFits", spec := "fnApplyFits", apart := false, narrowed := true }
def FnApplyFitsUptoSaid : Prop := fnApplyFitsUptoRow.holds Try.pinned (OpenSpec.upto fnApplyFitsSpec)

/-- 'laws.FnDeltaOps', WHERE WHAT IT READS IS OF BULK AT MOST 1048576: true; the input reads as it did. -/
def fnDeltaOpsUptoRow : OpenClaim := { program := "ytkflpgdbookdhab", sum := "e83eb72eda2f2ea60cd2b193deaadf548c37648632efcc6f045b49fd11aa5d4a", func := "loop.example/atomicpush/laws.FnDeltaOps", spec := "fnDeltaOps", apart := false, narrowed := true }
def FnDeltaOpsUptoSaid : Prop := fnDeltaOpsUptoRow.holds Try.pinned (OpenSpec.upto fnDeltaOpsSpec)

/-- 'laws.FnApplyEmpty', WHERE WHAT IT READS IS OF BULK AT MOST 1048576: true; the input reads as it did. -/
def fnApplyEmptyUptoRow : OpenClaim := { program := "ytkflpgdbookdhab", sum := "e83eb72eda2f2ea60cd2b193deaadf548c37648632efcc6f045b49fd11aa5d4a", func := "loop.example/atomicpush/laws.FnApplyEmpty", spec := "fnApplyEmpty", apart := false, narrowed := true }
def FnApplyEmptyUptoSaid : Prop := fnApplyEmptyUptoRow.holds Try.pinned (OpenSpec.upto fnApplyEmptySpec)

/-- 'laws.FnSizeSum', WHERE WHAT IT READS IS OF BULK AT MOST 1048576: true; the input reads as it did. -/
def fnSizeSumUptoRow : OpenClaim := { program := "ytkflpgdbookdhab", sum := "e83eb72eda2f2ea60cd2b193deaadf548c37648632efcc6f045b49fd11aa5d4a", func := "loop.example/atomicpush/laws.FnSizeSum", spec := "fnSizeSum", apart := false, narrowed := true }
def FnSizeSumUptoSaid : Prop := fnSizeSumUptoRow.holds Try.pinned (OpenSpec.upto fnSizeSumSpec)

/-- 'laws.FnExactDeltaApply', WHERE WHAT IT READS IS OF BULK AT MOST 1048576: true; the input reads as it did. -/
def fnExactDeltaApplyUptoRow : OpenClaim := { program := "ytkflpgdbookdhab", sum := "e83eb72eda2f2ea60cd2b193deaadf548c37648632efcc6f045b49fd11aa5d4a", func := "loop.example/atomicpush/laws.FnExactDeltaApply", spec := "fnExactDeltaApply", apart := false, narrowed := true }
def FnExactDeltaApplyUptoSaid : Prop := fnExactDeltaApplyUptoRow.holds Try.pinned (OpenSpec.upto fnExactDeltaApplySpec)

/-- 'laws.FnExactDeltaMake', WHERE WHAT IT READS IS OF BULK AT MOST 1048576: true; the input reads as it did. -/
def fnExactDeltaMakeUptoRow : OpenClaim := { program := "ytkflpgdbookdhab", sum := "e83eb72eda2f2ea60cd2b193deaadf548c37648632efcc6f045b49fd11aa5d4a", func := "loop.example/atomicpush/laws.FnExactDeltaMake", spec := "fnExactDeltaMake", apart := false, narrowed := true }
def FnExactDeltaMakeUptoSaid : Prop := fnExactDeltaMakeUptoRow.holds Try.pinned (OpenSpec.upto fnExactDeltaMakeSpec)

/-- 'laws.FnExactDeltaSize', WHERE WHAT IT READS IS OF BULK AT MOST 1048576: true; the input reads as it did. -/
def fnExactDeltaSizeUptoRow : OpenClaim := { program := "ytkflpgdbookdhab", sum := "e83eb72eda2f2ea60cd2b193deaadf548c37648632efcc6f045b49fd11aa5d4a", func := "loop.example/atomicpush/laws.FnExactDeltaSize", spec := "fnExactDeltaSize", apart := false, narrowed := true }
def FnExactDeltaSizeUptoSaid : Prop := fnExactDeltaSizeUptoRow.holds Try.pinned (OpenSpec.upto fnExactDeltaSizeSpec)

end Rows
end Go.Proofs.Ytkflpgdbookdhab
