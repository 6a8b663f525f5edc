/-
  No cell of these rows narrows 'for every input' (looked for: loops, veiled, ifaces, maps, wideKeys, modest, calm, conditions, laid).
  DERIVED. THE GIVEN ROWS OF THIS SEAT. 16 by the template 'for every input the law returns true; each argument reads behind the call as it read before'; 0 by the template 'total and deterministic' (their statements: YtpcfabgjdefkiaaTotals.lean).
  GIVEN WITH THE SEED: the statements are not yours to turn. If you find one false, say at which input.
  Laid BY PROGRAM, IN A SANDBOX (cutbox-rows.mjs): the forced cells as the released guide's own fill.sh prints them over the translation 34def59b72a6cdaf… (all of the seat's roots in one cut). By AI agents, Wed Nov 11 2026. No macro, syntax, notation, axiom, sorry.
-/
import Derived.Test.YtpcfabgjdefkiaaChecked
import GoSem.Claim
import GoSem.ClaimJoined
import GoSem.ClaimMapViews
import Derived.JoinedTies
import Derived.KernelRfl
namespace Go.Proofs.Ytpcfabgjdefkiaa
/- THE CELL 'sum', in the pinned program and in every row, IS THE sha256 OF THE DUMP (.gsa) THAT YtpcfabgjdefkiaaProg.lean LOADS. Nothing in Lean hashes anything: it is a label: what it is worth is what the hold of that sum in a sandbox is worth. -/
noncomputable def Try.pinned : Pinned := { name := "ytpcfabgjdefkiaa", sum := "34def59b72a6cdafae7e6343033085aedf54a7c3ea09ca000bada325bc33f959", checked := Try.checked }
namespace Rows
def none {H : Type} : Left H := { results := [], args := [] }

/-- 'laws.FnPack': WHATEVER THE INPUT: true; the input reads as it did. -/
def fnPackSpec : ChangeSpec := { name := "fnPack", fn := fun _ => fun
  | [d] => { results := [.lit (.bool true)], args := [d] }
  | _ => none }
def fnPackRow : OpenClaim := { program := "ytpcfabgjdefkiaa", sum := "34def59b72a6cdafae7e6343033085aedf54a7c3ea09ca000bada325bc33f959", func := "loop.example/atomicpush/laws.FnPack", spec := "fnPack", apart := false }
def FnPackSaid : Prop := fnPackRow.holds Try.pinned (OpenSpec.ofChange fnPackSpec)

/-- ITS FALSE NEIGHBOUR: 'it returns false'. Refute it at one input. -/
def fnPackWrong : ChangeSpec := { name := "fnPack", fn := fun _ => fun
  | [d] => { results := [.lit (.bool false)], args := [d] }
  | _ => none }
def FnPackWrongFalsely : Prop := fnPackRow.holds Try.pinned (OpenSpec.ofChange fnPackWrong)

/-- 'laws.FnPackDepth': WHATEVER THE INPUT: true; the input reads as it did. -/
def fnPackDepthSpec : ChangeSpec := { name := "fnPackDepth", fn := fun _ => fun
  | [d] => { results := [.lit (.bool true)], args := [d] }
  | _ => none }
def fnPackDepthRow : OpenClaim := { program := "ytpcfabgjdefkiaa", sum := "34def59b72a6cdafae7e6343033085aedf54a7c3ea09ca000bada325bc33f959", func := "loop.example/atomicpush/laws.FnPackDepth", spec := "fnPackDepth", apart := false }
def FnPackDepthSaid : Prop := fnPackDepthRow.holds Try.pinned (OpenSpec.ofChange fnPackDepthSpec)

/-- ITS FALSE NEIGHBOUR: 'it returns false'. Refute it at one input. -/
def fnPackDepthWrong : ChangeSpec := { name := "fnPackDepth", fn := fun _ => fun
  | [d] => { results := [.lit (.bool false)], args := [d] }
  | _ => none }
def FnPackDepthWrongFalsely : Prop := fnPackDepthRow.holds Try.pinned (OpenSpec.ofChange fnPackDepthWrong)

/-- 'laws.FnPackSmall': WHATEVER THE INPUT: true; the input reads as it did. -/
def fnPackSmallSpec : ChangeSpec := { name := "fnPackSmall", fn := fun _ => fun
  | [d] => { results := [.lit (.bool true)], args := [d] }
  | _ => none }
def fnPackSmallRow : OpenClaim := { program := "ytpcfabgjdefkiaa", sum := "34def59b72a6cdafae7e6343033085aedf54a7c3ea09ca000bada325bc33f959", func := "loop.example/atomicpush/laws.FnPackSmall", spec := "fnPackSmall", apart := false }
def FnPackSmallSaid : Prop := fnPackSmallRow.holds Try.pinned (OpenSpec.ofChange fnPackSmallSpec)

/-- ITS FALSE NEIGHBOUR: 'it returns false'. Refute it at one input. -/
def fnPackSmallWrong : ChangeSpec := { name := "fnPackSmall", fn := fun _ => fun
  | [d] => { results := [.lit (.bool false)], args := [d] }
  | _ => none }
def FnPackSmallWrongFalsely : Prop := fnPackSmallRow.holds Try.pinned (OpenSpec.ofChange fnPackSmallWrong)

/-- 'laws.FnPackBest': WHATEVER THE INPUT: true; the input reads as it did. -/
def fnPackBestSpec : ChangeSpec := { name := "fnPackBest", fn := fun _ => fun
  | [d] => { results := [.lit (.bool true)], args := [d] }
  | _ => none }
def fnPackBestRow : OpenClaim := { program := "ytpcfabgjdefkiaa", sum := "34def59b72a6cdafae7e6343033085aedf54a7c3ea09ca000bada325bc33f959", func := "loop.example/atomicpush/laws.FnPackBest", spec := "fnPackBest", apart := false }
def FnPackBestSaid : Prop := fnPackBestRow.holds Try.pinned (OpenSpec.ofChange fnPackBestSpec)

/-- ITS FALSE NEIGHBOUR: 'it returns false'. Refute it at one input. -/
def fnPackBestWrong : ChangeSpec := { name := "fnPackBest", fn := fun _ => fun
  | [d] => { results := [.lit (.bool false)], args := [d] }
  | _ => none }
def FnPackBestWrongFalsely : Prop := fnPackBestRow.holds Try.pinned (OpenSpec.ofChange fnPackBestWrong)

/-- 'laws.FnPackFail': WHATEVER THE INPUT: true; the input reads as it did. -/
def fnPackFailSpec : ChangeSpec := { name := "fnPackFail", fn := fun _ => fun
  | [d] => { results := [.lit (.bool true)], args := [d] }
  | _ => none }
def fnPackFailRow : OpenClaim := { program := "ytpcfabgjdefkiaa", sum := "34def59b72a6cdafae7e6343033085aedf54a7c3ea09ca000bada325bc33f959", func := "loop.example/atomicpush/laws.FnPackFail", spec := "fnPackFail", apart := false }
def FnPackFailSaid : Prop := fnPackFailRow.holds Try.pinned (OpenSpec.ofChange fnPackFailSpec)

/-- ITS FALSE NEIGHBOUR: 'it returns false'. Refute it at one input. -/
def fnPackFailWrong : ChangeSpec := { name := "fnPackFail", fn := fun _ => fun
  | [d] => { results := [.lit (.bool false)], args := [d] }
  | _ => none }
def FnPackFailWrongFalsely : Prop := fnPackFailRow.holds Try.pinned (OpenSpec.ofChange fnPackFailWrong)

/-- 'laws.FnPackPrefix': WHATEVER THE INPUT: true; the input reads as it did. -/
def fnPackPrefixSpec : ChangeSpec := { name := "fnPackPrefix", fn := fun _ => fun
  | [d1, d2] => { results := [.lit (.bool true)], args := [d1, d2] }
  | _ => none }
def fnPackPrefixRow : OpenClaim := { program := "ytpcfabgjdefkiaa", sum := "34def59b72a6cdafae7e6343033085aedf54a7c3ea09ca000bada325bc33f959", func := "loop.example/atomicpush/laws.FnPackPrefix", spec := "fnPackPrefix", apart := false }
def FnPackPrefixSaid : Prop := fnPackPrefixRow.holds Try.pinned (OpenSpec.ofChange fnPackPrefixSpec)

/-- ITS FALSE NEIGHBOUR: 'it returns false'. Refute it at one input. -/
def fnPackPrefixWrong : ChangeSpec := { name := "fnPackPrefix", fn := fun _ => fun
  | [d1, d2] => { results := [.lit (.bool false)], args := [d1, d2] }
  | _ => none }
def FnPackPrefixWrongFalsely : Prop := fnPackPrefixRow.holds Try.pinned (OpenSpec.ofChange fnPackPrefixWrong)

/-- 'laws.FnPackBase': WHATEVER THE INPUT: true; the input reads as it did. -/
def fnPackBaseSpec : ChangeSpec := { name := "fnPackBase", fn := fun _ => fun
  | [d1, d2] => { results := [.lit (.bool true)], args := [d1, d2] }
  | _ => none }
def fnPackBaseRow : OpenClaim := { program := "ytpcfabgjdefkiaa", sum := "34def59b72a6cdafae7e6343033085aedf54a7c3ea09ca000bada325bc33f959", func := "loop.example/atomicpush/laws.FnPackBase", spec := "fnPackBase", apart := false }
def FnPackBaseSaid : Prop := fnPackBaseRow.holds Try.pinned (OpenSpec.ofChange fnPackBaseSpec)

/-- ITS FALSE NEIGHBOUR: 'it returns false'. Refute it at one input. -/
def fnPackBaseWrong : ChangeSpec := { name := "fnPackBase", fn := fun _ => fun
  | [d1, d2] => { results := [.lit (.bool false)], args := [d1, d2] }
  | _ => none }
def FnPackBaseWrongFalsely : Prop := fnPackBaseRow.holds Try.pinned (OpenSpec.ofChange fnPackBaseWrong)

/-- 'laws.FnPackSum': WHATEVER THE INPUT: true; the input reads as it did. -/
def fnPackSumSpec : ChangeSpec := { name := "fnPackSum", fn := fun _ => fun
  | [d] => { results := [.lit (.bool true)], args := [d] }
  | _ => none }
def fnPackSumRow : OpenClaim := { program := "ytpcfabgjdefkiaa", sum := "34def59b72a6cdafae7e6343033085aedf54a7c3ea09ca000bada325bc33f959", func := "loop.example/atomicpush/laws.FnPackSum", spec := "fnPackSum", apart := false }
def FnPackSumSaid : Prop := fnPackSumRow.holds Try.pinned (OpenSpec.ofChange fnPackSumSpec)

/-- ITS FALSE NEIGHBOUR: 'it returns false'. Refute it at one input. -/
def fnPackSumWrong : ChangeSpec := { name := "fnPackSum", fn := fun _ => fun
  | [d] => { results := [.lit (.bool false)], args := [d] }
  | _ => none }
def FnPackSumWrongFalsely : Prop := fnPackSumRow.holds Try.pinned (OpenSpec.ofChange fnPackSumWrong)

/-- 'laws.FnPackSumText': WHATEVER THE INPUT: true; the input reads as it did. -/
def fnPackSumTextSpec : ChangeSpec := { name := "fnPackSumText", fn := fun _ => fun
  | [d1, d2] => { results := [.lit (.bool true)], args := [d1, d2] }
  | _ => none }
def fnPackSumTextRow : OpenClaim := { program := "ytpcfabgjdefkiaa", sum := "34def59b72a6cdafae7e6343033085aedf54a7c3ea09ca000bada325bc33f959", func := "loop.example/atomicpush/laws.FnPackSumText", spec := "fnPackSumText", apart := false }
def FnPackSumTextSaid : Prop := fnPackSumTextRow.holds Try.pinned (OpenSpec.ofChange fnPackSumTextSpec)

/-- ITS FALSE NEIGHBOUR: 'it returns false'. Refute it at one input. -/
def fnPackSumTextWrong : ChangeSpec := { name := "fnPackSumText", fn := fun _ => fun
  | [d1, d2] => { results := [.lit (.bool false)], args := [d1, d2] }
  | _ => none }
def FnPackSumTextWrongFalsely : Prop := fnPackSumTextRow.holds Try.pinned (OpenSpec.ofChange fnPackSumTextWrong)

/-- 'laws.FnPackKinds': WHATEVER THE INPUT: true; the input reads as it did. -/
def fnPackKindsSpec : ChangeSpec := { name := "fnPackKinds", fn := fun _ => fun
  | [d] => { results := [.lit (.bool true)], args := [d] }
  | _ => none }
def fnPackKindsRow : OpenClaim := { program := "ytpcfabgjdefkiaa", sum := "34def59b72a6cdafae7e6343033085aedf54a7c3ea09ca000bada325bc33f959", func := "loop.example/atomicpush/laws.FnPackKinds", spec := "fnPackKinds", apart := false }
def FnPackKindsSaid : Prop := fnPackKindsRow.holds Try.pinned (OpenSpec.ofChange fnPackKindsSpec)

/-- ITS FALSE NEIGHBOUR: 'it returns false'. Refute it at one input. -/
def fnPackKindsWrong : ChangeSpec := { name := "fnPackKinds", fn := fun _ => fun
  | [d] => { results := [.lit (.bool false)], args := [d] }
  | _ => none }
def FnPackKindsWrongFalsely : Prop := fnPackKindsRow.holds Try.pinned (OpenSpec.ofChange fnPackKindsWrong)

/-- 'laws.FnPackObjects': WHATEVER THE INPUT: true; the input reads as it did. -/
def fnPackObjectsSpec : ChangeSpec := { name := "fnPackObjects", fn := fun _ => fun
  | [d] => { results := [.lit (.bool true)], args := [d] }
  | _ => none }
def fnPackObjectsRow : OpenClaim := { program := "ytpcfabgjdefkiaa", sum := "34def59b72a6cdafae7e6343033085aedf54a7c3ea09ca000bada325bc33f959", func := "loop.example/atomicpush/laws.FnPackObjects", spec := "fnPackObjects", apart := false }
def FnPackObjectsSaid : Prop := fnPackObjectsRow.holds Try.pinned (OpenSpec.ofChange fnPackObjectsSpec)

/-- ITS FALSE NEIGHBOUR: 'it returns false'. Refute it at one input. -/
def fnPackObjectsWrong : ChangeSpec := { name := "fnPackObjects", fn := fun _ => fun
  | [d] => { results := [.lit (.bool false)], args := [d] }
  | _ => none }
def FnPackObjectsWrongFalsely : Prop := fnPackObjectsRow.holds Try.pinned (OpenSpec.ofChange fnPackObjectsWrong)

/-- 'laws.FnPackCut': WHATEVER THE INPUT: true; the input reads as it did. -/
def fnPackCutSpec : ChangeSpec := { name := "fnPackCut", fn := fun _ => fun
  | [d1, d2] => { results := [.lit (.bool true)], args := [d1, d2] }
  | _ => none }
def fnPackCutRow : OpenClaim := { program := "ytpcfabgjdefkiaa", sum := "34def59b72a6cdafae7e6343033085aedf54a7c3ea09ca000bada325bc33f959", func := "loop.example/atomicpush/laws.FnPackCut", spec := "fnPackCut", apart := false }
def FnPackCutSaid : Prop := fnPackCutRow.holds Try.pinned (OpenSpec.ofChange fnPackCutSpec)

/-- ITS FALSE NEIGHBOUR: 'it returns false'. Refute it at one input. -/
def fnPackCutWrong : ChangeSpec := { name := "fnPackCut", fn := fun _ => fun
  | [d1, d2] => { results := [.lit (.bool false)], args := [d1, d2] }
  | _ => none }
def FnPackCutWrongFalsely : Prop := fnPackCutRow.holds Try.pinned (OpenSpec.ofChange fnPackCutWrong)

/-- 'laws.FnExactPackObjects': WHATEVER THE INPUT: true; the input reads as it did. -/
def fnExactPackObjectsSpec : ChangeSpec := { name := "fnExactPackObjects", fn := fun _ => fun
  | [d] => { results := [.lit (.bool true)], args := [d] }
  | _ => none }
def fnExactPackObjectsRow : OpenClaim := { program := "ytpcfabgjdefkiaa", sum := "34def59b72a6cdafae7e6343033085aedf54a7c3ea09ca000bada325bc33f959", func := "loop.example/atomicpush/laws.FnExactPackObjects", spec := "fnExactPackObjects", apart := false }
def FnExactPackObjectsSaid : Prop := fnExactPackObjectsRow.holds Try.pinned (OpenSpec.ofChange fnExactPackObjectsSpec)

/-- ITS FALSE NEIGHBOUR: 'it returns false'. Refute it at one input. -/
def fnExactPackObjectsWrong : ChangeSpec := { name := "fnExactPackObjects", fn := fun _ => fun
  | [d] => { results := [.lit (.bool false)], args := [d] }
  | _ => none }
def FnExactPackObjectsWrongFalsely : Prop := fnExactPackObjectsRow.holds Try.pinned (OpenSpec.ofChange fnExactPackObjectsWrong)

/-- 'laws.FnExactPackMake': WHATEVER THE INPUT: true; the input reads as it did. -/
def fnExactPackMakeSpec : ChangeSpec := { name := "fnExactPackMake", fn := fun _ => fun
  | [d] => { results := [.lit (.bool true)], args := [d] }
  | _ => none }
def fnExactPackMakeRow : OpenClaim := { program := "ytpcfabgjdefkiaa", sum := "34def59b72a6cdafae7e6343033085aedf54a7c3ea09ca000bada325bc33f959", func := "loop.example/atomicpush/laws.FnExactPackMake", spec := "fnExactPackMake", apart := false }
def FnExactPackMakeSaid : Prop := fnExactPackMakeRow.holds Try.pinned (OpenSpec.ofChange fnExactPackMakeSpec)

/-- ITS FALSE NEIGHBOUR: 'it returns false'. Refute it at one input. -/
def fnExactPackMakeWrong : ChangeSpec := { name := "fnExactPackMake", fn := fun _ => fun
  | [d] => { results := [.lit (.bool false)], args := [d] }
  | _ => none }
def FnExactPackMakeWrongFalsely : Prop := fnExactPackMakeRow.holds Try.pinned (OpenSpec.ofChange fnExactPackMakeWrong)

/-- 'laws.FnExactPackDepth': WHATEVER THE INPUT: true; the input reads as it did. -/
def fnExactPackDepthSpec : ChangeSpec := { name := "fnExactPackDepth", fn := fun _ => fun
  | [d1, d2] => { results := [.lit (.bool true)], args := [d1, d2] }
  | _ => none }
def fnExactPackDepthRow : OpenClaim := { program := "ytpcfabgjdefkiaa", sum := "34def59b72a6cdafae7e6343033085aedf54a7c3ea09ca000bada325bc33f959", func := "loop.example/atomicpush/laws.FnExactPackDepth", spec := "fnExactPackDepth", apart := false }
def FnExactPackDepthSaid : Prop := fnExactPackDepthRow.holds Try.pinned (OpenSpec.ofChange fnExactPackDepthSpec)

/-- ITS FALSE NEIGHBOUR: 'it returns false'. Refute it at one input. -/
def fnExactPackDepthWrong : ChangeSpec := { name := "fnExactPackDepth", fn := fun _ => fun
  | [d1, d2] => { results := [.lit (.bool false)], args := [d1, d2] }
  | _ => none }
def FnExactPackDepthWrongFalsely : Prop := fnExactPackDepthRow.holds Try.pinned (OpenSpec.ofChange fnExactPackDepthWrong)

/-- 'laws.FnExactPackSum': WHATEVER THE INPUT: true; the input reads as it did. -/
def fnExactPackSumSpec : ChangeSpec := { name := "fnExactPackSum", fn := fun _ => fun
  | [d] => { results := [.lit (.bool true)], args := [d] }
  | _ => none }
def fnExactPackSumRow : OpenClaim := { program := "ytpcfabgjdefkiaa", sum := "34def59b72a6cdafae7e6343033085aedf54a7c3ea09ca000bada325bc33f959", func := "loop.example/atomicpush/laws.FnExactPackSum", spec := "fnExactPackSum", apart := false }
def FnExactPackSumSaid : Prop := fnExactPackSumRow.holds Try.pinned (OpenSpec.ofChange fnExactPackSumSpec)

/-- ITS FALSE NEIGHBOUR: 'it returns false'. Refute it at one input. -/
def fnExactPackSumWrong : ChangeSpec := { name := "fnExactPackSum", fn := fun _ => fun
  | [d] => { results := [.lit (.bool false)], args := [d] }
  | _ => none }
def FnExactPackSumWrongFalsely : Prop := fnExactPackSumRow.holds Try.pinned (OpenSpec.ofChange fnExactPackSumWrong)

/- THE SECOND FORM. 'bulk': how many values and letters a reading holds, each counted each time it is reached (what is shared counts as often as it is met; a slice's spare places count too). A statement '..UptoSaid' is the law's where the arguments, and the package variables that the reading takes, are together of bulk at most 1048576: NARROWER than '..Said'. Prove '..Said' where nothing that the law and all that it calls make is longer than what came in: it says more and counts as full. Else prove '..UptoSaid'. A law counts once. -/
mutual
def uptoBulk {H : Type} : DataW H → Nat
  | .lit (.string bytes) => bytes.length + 1
  | .lit _ => 1
  | .nil => 1
  | .ptr d => uptoBulk d + 1
  | .slice elems spare => uptoBulkAll elems + uptoBulkAll spare + 1
  | .agg parts => uptoBulkAll parts + 1
  | .iface _ d => uptoBulk d + 1
  | .map entries => uptoBulkEntries entries + 1
  | .held _ => 1
def uptoBulkAll {H : Type} : List (DataW H) → Nat
  | [] => 0
  | d :: r => uptoBulk d + uptoBulkAll r
def uptoBulkEntries {H : Type} : List (Lit × DataW H) → Nat
  | [] => 0
  | x :: r => uptoBulkEntry x + uptoBulkEntries r
def uptoBulkEntry {H : Type} : Lit × DataW H → Nat
  | (.string bytes, d) => bytes.length + uptoBulk d + 1
  | (_, d) => uptoBulk d + 1
 end
def uptoSmall : (H : Type) → List (DataW H) → Bool := fun _ ds => decide (uptoBulkAll ds ≤ 1048576)
def OpenSpec.upto (s : _root_.Go.ChangeSpec) : _root_.Go.OpenSpec := { _root_.Go.OpenSpec.ofChange s with cond := some uptoSmall }

/-- 'laws.FnPack', WHERE WHAT IT READS IS OF BULK AT MOST 1048576: true; the input reads as it did. -/
def fnPackUptoRow : OpenClaim := { program := "ytpcfabgjdefkiaa", sum := "34def59b72a6cdafae7e6343033085aedf54a7c3ea09ca000bada325bc33f959", func := "loop.example/atomicpush/laws.FnPack", spec := "fnPack", apart := false, narrowed := true }
def FnPackUptoSaid : Prop := fnPackUptoRow.holds Try.pinned (OpenSpec.upto fnPackSpec)

/-- 'laws.FnPackDepth', WHERE WHAT IT READS IS OF BULK AT MOST 1048576: true; the input reads as it did. -/
def fnPackDepthUptoRow : OpenClaim := { program := "ytpcfabgjdefkiaa", sum := "34def59b72a6cdafae7e6343033085aedf54a7c3ea09ca000bada325bc33f959", func := "loop.example/atomicpush/laws.FnPackDepth", spec := "fnPackDepth", apart := false, narrowed := true }
def FnPackDepthUptoSaid : Prop := fnPackDepthUptoRow.holds Try.pinned (OpenSpec.upto fnPackDepthSpec)

/-- 'laws.FnPackSmall', WHERE WHAT IT READS IS OF BULK AT MOST 1048576: true; the input reads as it did. -/
def fnPackSmallUptoRow : OpenClaim := { program := "ytpcfabgjdefkiaa", sum := "34def59b72a6cdafae7e6343033085aedf54a7c3ea09ca000bada325bc33f959", func := "loop.example/atomicpush/laws.FnPackSmall", spec := "fnPackSmall", apart := false, narrowed := true }
def FnPackSmallUptoSaid : Prop := fnPackSmallUptoRow.holds Try.pinned (OpenSpec.upto fnPackSmallSpec)

/-- 'laws.FnPackBest', WHERE WHAT IT READS IS OF BULK AT MOST 1048576: true; the input reads as it did. -/
def fnPackBestUptoRow : OpenClaim := { program := "ytpcfabgjdefkiaa", sum := "34def59b72a6cdafae7e6343033085aedf54a7c3ea09ca000bada325bc33f959", func := "loop.example/atomicpush/laws.FnPackBest", spec := "fnPackBest", apart := false, narrowed := true }
def FnPackBestUptoSaid : Prop := fnPackBestUptoRow.holds Try.pinned (OpenSpec.upto fnPackBestSpec)

/-- 'laws.FnPackFail', WHERE WHAT IT READS IS OF BULK AT MOST 1048576: true; the input reads as it did. -/
def fnPackFailUptoRow : OpenClaim := { program := "ytpcfabgjdefkiaa", sum := "34def59b72a6cdafae7e6343033085aedf54a7c3ea09ca000bada325bc33f959", func := "loop.example/atomicpush/laws.FnPackFail", spec := "fnPackFail", apart := false, narrowed := true }
def FnPackFailUptoSaid : Prop := fnPackFailUptoRow.holds Try.pinned (OpenSpec.upto fnPackFailSpec)

/-- 'laws.FnPackPrefix', WHERE WHAT IT READS IS OF BULK AT MOST 1048576: true; the input reads as it did. -/
def fnPackPrefixUptoRow : OpenClaim := { program := "ytpcfabgjdefkiaa", sum := "34def59b72a6cdafae7e6343033085aedf54a7c3ea09ca000bada325bc33f959", func := "loop.example/atomicpush/laws.FnPackPrefix", spec := "fnPackPrefix", apart := false, narrowed := true }
def FnPackPrefixUptoSaid : Prop := fnPackPrefixUptoRow.holds Try.pinned (OpenSpec.upto fnPackPrefixSpec)

/-- 'laws.FnPackBase', WHERE WHAT IT READS IS OF BULK AT MOST 1048576: true; the input reads as it did. -/
def fnPackBaseUptoRow : OpenClaim := { program := "ytpcfabgjdefkiaa", sum := "34def59b72a6cdafae7e6343033085aedf54a7c3ea09ca000bada325bc33f959", func := "loop.example/atomicpush/laws.FnPackBase", spec := "fnPackBase", apart := false, narrowed := true }
def FnPackBaseUptoSaid : Prop := fnPackBaseUptoRow.holds Try.pinned (OpenSpec.upto fnPackBaseSpec)

/-- 'laws.FnPackSum', WHERE WHAT IT READS IS OF BULK AT MOST 1048576: true; the input reads as it did. -/
def fnPackSumUptoRow : OpenClaim := { program := "ytpcfabgjdefkiaa", sum := "34def59b72a6cdafae7e6343033085aedf54a7c3ea09ca000bada325bc33f959", func := "loop.example/atomicpush/laws.FnPackSum", spec := "fnPackSum", apart := false, narrowed := true }
def FnPackSumUptoSaid : Prop := fnPackSumUptoRow.holds Try.pinned (OpenSpec.upto fnPackSumSpec)

/-- 'laws.FnPackSumText', WHERE WHAT IT READS IS OF BULK AT MOST 1048576: true; the input reads as it did. -/
def fnPackSumTextUptoRow : OpenClaim := { program := "ytpcfabgjdefkiaa", sum := "34def59b72a6cdafae7e6343033085aedf54a7c3ea09ca000bada325bc33f959", func := "loop.example/atomicpush/laws.FnPackSumText", spec := "fnPackSumText", apart := false, narrowed := true }
def FnPackSumTextUptoSaid : Prop := fnPackSumTextUptoRow.holds Try.pinned (OpenSpec.upto fnPackSumTextSpec)

/-- 'laws.FnPackKinds', WHERE WHAT IT READS IS OF BULK AT MOST 1048576: true; the input reads as it did. -/
def fnPackKindsUptoRow : OpenClaim := { program := "ytpcfabgjdefkiaa", sum := "34def59b72a6cdafae7e6343033085aedf54a7c3ea09ca000bada325bc33f959", func := "loop.example/atomicpush/laws.FnPackKinds", spec := "fnPackKinds", apart := false, narrowed := true }
def FnPackKindsUptoSaid : Prop := fnPackKindsUptoRow.holds Try.pinned (OpenSpec.upto fnPackKindsSpec)

/-- 'laws.FnPackObjects', WHERE WHAT IT READS IS OF BULK AT MOST 1048576: true; the input reads as it did. -/
def fnPackObjectsUptoRow : OpenClaim := { program := "ytpcfabgjdefkiaa", sum := "34def59b72a6cdafae7e6343033085aedf54a7c3ea09ca000bada325bc33f959", func := "loop.example/atomicpush/laws.FnPackObjects", spec := "fnPackObjects", apart := false, narrowed := true }
def FnPackObjectsUptoSaid : Prop := fnPackObjectsUptoRow.holds Try.pinned (OpenSpec.upto fnPackObjectsSpec)

/-- 'laws.FnPackCut', WHERE WHAT IT READS IS OF BULK AT MOST 1048576: true; the input reads as it did. -/
def fnPackCutUptoRow : OpenClaim := { program := "ytpcfabgjdefkiaa", sum := "34def59b72a6cdafae7e6343033085aedf54a7c3ea09ca000bada325bc33f959", func := "loop.example/atomicpush/laws.FnPackCut", spec := "fnPackCut", apart := false, narrowed := true }
def FnPackCutUptoSaid : Prop := fnPackCutUptoRow.holds Try.pinned (OpenSpec.upto fnPackCutSpec)

/-- 'laws.FnExactPackObjects', WHERE WHAT IT READS IS OF BULK AT MOST 1048576: true; the input reads as it did. -/
def fnExactPackObjectsUptoRow : OpenClaim := { program := "ytpcfabgjdefkiaa", sum := "34def59b72a6cdafae7e6343033085aedf54a7c3ea09ca000bada325bc33f959", func := "loop.example/atomicpush/laws.FnExactPackObjects", spec := "fnExactPackObjects", apart := false, narrowed := true }
def FnExactPackObjectsUptoSaid : Prop := fnExactPackObjectsUptoRow.holds Try.pinned (OpenSpec.upto fnExactPackObjectsSpec)

/-- 'laws.FnExactPackMake', WHERE WHAT IT READS IS OF BULK AT MOST 1048576: true; the input reads as it did. -/
def fnExactPackMakeUptoRow : OpenClaim := { program := "ytpcfabgjdefkiaa", sum := "34def59b72a6cdafae7e6343033085aedf54a7c3ea09ca000bada325bc33f959", func := "loop.example/atomicpush/laws.FnExactPackMake", spec := "fnExactPackMake", apart := false, narrowed := true }
def FnExactPackMakeUptoSaid : Prop := fnExactPackMakeUptoRow.holds Try.pinned (OpenSpec.upto fnExactPackMakeSpec)

/-- 'laws.FnExactPackDepth', WHERE WHAT IT READS IS OF BULK AT MOST 1048576: true; the input reads as it did. -/
def fnExactPackDepthUptoRow : OpenClaim := { program := "ytpcfabgjdefkiaa", sum := "34def59b72a6cdafae7e6343033085aedf54a7c3ea09ca000bada325bc33f959", func := "loop.example/atomicpush/laws.FnExactPackDepth", spec := "fnExactPackDepth", apart := false, narrowed := true }
def FnExactPackDepthUptoSaid : Prop := fnExactPackDepthUptoRow.holds Try.pinned (OpenSpec.upto fnExactPackDepthSpec)

/-- 'laws.FnExactPackSum', WHERE WHAT IT READS IS OF BULK AT MOST 1048576: true; the input reads as it did. -/
def fnExactPackSumUptoRow : OpenClaim := { program := "ytpcfabgjdefkiaa", sum := "34def59b72a6cdafae7e6343033085aedf54a7c3ea09ca000bada325bc33f959", func := "loop.example/atomicpush/laws.FnExactPackSum", spec := "fnExactPackSum", apart := false, narrowed := true }
def FnExactPackSumUptoSaid : Prop := fnExactPackSumUptoRow.holds Try.pinned (OpenSpec.upto fnExactPackSumSpec)

end Rows
end Go.Proofs.Ytpcfabgjdefkiaa
