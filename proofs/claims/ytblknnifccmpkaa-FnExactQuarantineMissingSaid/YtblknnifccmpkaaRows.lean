/-
  No cell of these rows narrows 'for every input' (looked for: loops, veiled, ifaces, maps, wideKeys, modest, calm, conditions, laid).
  DERIVED. THE GIVEN ROWS OF THIS SEAT. 15 by the template 'for every input the law returns true; each argument reads behind the call as it read before'; 0 by the template 'total and deterministic' (their statements: YtblknnifccmpkaaTotals.lean).
  GIVEN WITH THE SEED: the statements are not yours to turn. If you find one false, say at which input.
  Laid BY PROGRAM, IN A SANDBOX (cutbox-rows.mjs): the forced cells as the released guide's own fill.sh prints them over the translation 11e711b2fcc15178… (all of the seat's roots in one cut). By AI agents, Wed Nov 11 2026. No macro, syntax, notation, axiom, sorry.
-/
import Derived.Test.YtblknnifccmpkaaChecked
import GoSem.Claim
import GoSem.ClaimJoined
import GoSem.ClaimMapViews
import Derived.JoinedTies
import Derived.KernelRfl
namespace Go.Proofs.Ytblknnifccmpkaa
/- THE CELL 'sum', in the pinned program and in every row, IS THE sha256 OF THE DUMP (.gsa) THAT YtblknnifccmpkaaProg.lean LOADS. Nothing in Lean hashes anything: it is a label: what it is worth is what the hold of that sum in a sandbox is worth. -/
noncomputable def Try.pinned : Pinned := { name := "ytblknnifccmpkaa", sum := "11e711b2fcc15178d93813db4cd5a078006fe353c90af4cc58d7fbec30771290", checked := Try.checked }
namespace Rows
def none {H : Type} : Left H := { results := [], args := [] }

/-- 'laws.FnQuarPut': WHATEVER THE INPUT: true; the input reads as it did. -/
def fnQuarPutSpec : ChangeSpec := { name := "fnQuarPut", fn := fun _ => fun
  | [d] => { results := [.lit (.bool true)], args := [d] }
  | _ => none }
def fnQuarPutRow : OpenClaim := { program := "ytblknnifccmpkaa", sum := "11e711b2fcc15178d93813db4cd5a078006fe353c90af4cc58d7fbec30771290", func := "loop.example/atomicpush/laws.FnQuarPut", spec := "fnQuarPut", inPlace := ["slices.overlaps[loop.example/atomicpush/impl.Object]"], apart := false }
def FnQuarPutSaid : Prop := fnQuarPutRow.holds Try.pinned (OpenSpec.ofChange fnQuarPutSpec)

/-- ITS FALSE NEIGHBOUR: 'it returns false'. Refute it at one input. -/
def fnQuarPutWrong : ChangeSpec := { name := "fnQuarPut", fn := fun _ => fun
  | [d] => { results := [.lit (.bool false)], args := [d] }
  | _ => none }
def FnQuarPutWrongFalsely : Prop := fnQuarPutRow.holds Try.pinned (OpenSpec.ofChange fnQuarPutWrong)

/-- 'laws.FnQuarTwice': WHATEVER THE INPUT: true; the input reads as it did. -/
def fnQuarTwiceSpec : ChangeSpec := { name := "fnQuarTwice", fn := fun _ => fun
  | [d] => { results := [.lit (.bool true)], args := [d] }
  | _ => none }
def fnQuarTwiceRow : OpenClaim := { program := "ytblknnifccmpkaa", sum := "11e711b2fcc15178d93813db4cd5a078006fe353c90af4cc58d7fbec30771290", func := "loop.example/atomicpush/laws.FnQuarTwice", spec := "fnQuarTwice", inPlace := ["slices.overlaps[loop.example/atomicpush/impl.Object]"], apart := false }
def FnQuarTwiceSaid : Prop := fnQuarTwiceRow.holds Try.pinned (OpenSpec.ofChange fnQuarTwiceSpec)

/-- ITS FALSE NEIGHBOUR: 'it returns false'. Refute it at one input. -/
def fnQuarTwiceWrong : ChangeSpec := { name := "fnQuarTwice", fn := fun _ => fun
  | [d] => { results := [.lit (.bool false)], args := [d] }
  | _ => none }
def FnQuarTwiceWrongFalsely : Prop := fnQuarTwiceRow.holds Try.pinned (OpenSpec.ofChange fnQuarTwiceWrong)

/-- 'laws.FnPromote': WHATEVER THE INPUT: true; the input reads as it did. -/
def fnPromoteSpec : ChangeSpec := { name := "fnPromote", fn := fun _ => fun
  | [d] => { results := [.lit (.bool true)], args := [d] }
  | _ => none }
def fnPromoteRow : OpenClaim := { program := "ytblknnifccmpkaa", sum := "11e711b2fcc15178d93813db4cd5a078006fe353c90af4cc58d7fbec30771290", func := "loop.example/atomicpush/laws.FnPromote", spec := "fnPromote", inPlace := ["slices.overlaps[loop.example/atomicpush/impl.Object]"], apart := false }
def FnPromoteSaid : Prop := fnPromoteRow.holds Try.pinned (OpenSpec.ofChange fnPromoteSpec)

/-- ITS FALSE NEIGHBOUR: 'it returns false'. Refute it at one input. -/
def fnPromoteWrong : ChangeSpec := { name := "fnPromote", fn := fun _ => fun
  | [d] => { results := [.lit (.bool false)], args := [d] }
  | _ => none }
def FnPromoteWrongFalsely : Prop := fnPromoteRow.holds Try.pinned (OpenSpec.ofChange fnPromoteWrong)

/-- 'laws.FnPromoteTwice': WHATEVER THE INPUT: true; the input reads as it did. -/
def fnPromoteTwiceSpec : ChangeSpec := { name := "fnPromoteTwice", fn := fun _ => fun
  | [d] => { results := [.lit (.bool true)], args := [d] }
  | _ => none }
def fnPromoteTwiceRow : OpenClaim := { program := "ytblknnifccmpkaa", sum := "11e711b2fcc15178d93813db4cd5a078006fe353c90af4cc58d7fbec30771290", func := "loop.example/atomicpush/laws.FnPromoteTwice", spec := "fnPromoteTwice", inPlace := ["slices.overlaps[loop.example/atomicpush/impl.Object]"], apart := false }
def FnPromoteTwiceSaid : Prop := fnPromoteTwiceRow.holds Try.pinned (OpenSpec.ofChange fnPromoteTwiceSpec)

/-- ITS FALSE NEIGHBOUR: 'it returns false'. Refute it at one input. -/
def fnPromoteTwiceWrong : ChangeSpec := { name := "fnPromoteTwice", fn := fun _ => fun
  | [d] => { results := [.lit (.bool false)], args := [d] }
  | _ => none }
def FnPromoteTwiceWrongFalsely : Prop := fnPromoteTwiceRow.holds Try.pinned (OpenSpec.ofChange fnPromoteTwiceWrong)

/-- 'laws.FnDiscard': WHATEVER THE INPUT: true; the input reads as it did. -/
def fnDiscardSpec : ChangeSpec := { name := "fnDiscard", fn := fun _ => fun
  | [d] => { results := [.lit (.bool true)], args := [d] }
  | _ => none }
def fnDiscardRow : OpenClaim := { program := "ytblknnifccmpkaa", sum := "11e711b2fcc15178d93813db4cd5a078006fe353c90af4cc58d7fbec30771290", func := "loop.example/atomicpush/laws.FnDiscard", spec := "fnDiscard", apart := false }
def FnDiscardSaid : Prop := fnDiscardRow.holds Try.pinned (OpenSpec.ofChange fnDiscardSpec)

/-- ITS FALSE NEIGHBOUR: 'it returns false'. Refute it at one input. -/
def fnDiscardWrong : ChangeSpec := { name := "fnDiscard", fn := fun _ => fun
  | [d] => { results := [.lit (.bool false)], args := [d] }
  | _ => none }
def FnDiscardWrongFalsely : Prop := fnDiscardRow.holds Try.pinned (OpenSpec.ofChange fnDiscardWrong)

/-- 'laws.FnDiscardPut': WHATEVER THE INPUT: true; the input reads as it did. -/
def fnDiscardPutSpec : ChangeSpec := { name := "fnDiscardPut", fn := fun _ => fun
  | [d] => { results := [.lit (.bool true)], args := [d] }
  | _ => none }
def fnDiscardPutRow : OpenClaim := { program := "ytblknnifccmpkaa", sum := "11e711b2fcc15178d93813db4cd5a078006fe353c90af4cc58d7fbec30771290", func := "loop.example/atomicpush/laws.FnDiscardPut", spec := "fnDiscardPut", inPlace := ["slices.overlaps[loop.example/atomicpush/impl.Object]"], apart := false }
def FnDiscardPutSaid : Prop := fnDiscardPutRow.holds Try.pinned (OpenSpec.ofChange fnDiscardPutSpec)

/-- ITS FALSE NEIGHBOUR: 'it returns false'. Refute it at one input. -/
def fnDiscardPutWrong : ChangeSpec := { name := "fnDiscardPut", fn := fun _ => fun
  | [d] => { results := [.lit (.bool false)], args := [d] }
  | _ => none }
def FnDiscardPutWrongFalsely : Prop := fnDiscardPutRow.holds Try.pinned (OpenSpec.ofChange fnDiscardPutWrong)

/-- 'laws.FnQuarMissing': WHATEVER THE INPUT: true; the input reads as it did. -/
def fnQuarMissingSpec : ChangeSpec := { name := "fnQuarMissing", fn := fun _ => fun
  | [d] => { results := [.lit (.bool true)], args := [d] }
  | _ => none }
def fnQuarMissingRow : OpenClaim := { program := "ytblknnifccmpkaa", sum := "11e711b2fcc15178d93813db4cd5a078006fe353c90af4cc58d7fbec30771290", func := "loop.example/atomicpush/laws.FnQuarMissing", spec := "fnQuarMissing", inPlace := ["slices.overlaps[loop.example/atomicpush/impl.Object]"], apart := false }
def FnQuarMissingSaid : Prop := fnQuarMissingRow.holds Try.pinned (OpenSpec.ofChange fnQuarMissingSpec)

/-- ITS FALSE NEIGHBOUR: 'it returns false'. Refute it at one input. -/
def fnQuarMissingWrong : ChangeSpec := { name := "fnQuarMissing", fn := fun _ => fun
  | [d] => { results := [.lit (.bool false)], args := [d] }
  | _ => none }
def FnQuarMissingWrongFalsely : Prop := fnQuarMissingRow.holds Try.pinned (OpenSpec.ofChange fnQuarMissingWrong)

/-- 'laws.FnQuarMissingPromote': WHATEVER THE INPUT: true; the input reads as it did. -/
def fnQuarMissingPromoteSpec : ChangeSpec := { name := "fnQuarMissingPromote", fn := fun _ => fun
  | [d] => { results := [.lit (.bool true)], args := [d] }
  | _ => none }
def fnQuarMissingPromoteRow : OpenClaim := { program := "ytblknnifccmpkaa", sum := "11e711b2fcc15178d93813db4cd5a078006fe353c90af4cc58d7fbec30771290", func := "loop.example/atomicpush/laws.FnQuarMissingPromote", spec := "fnQuarMissingPromote", inPlace := ["slices.overlaps[loop.example/atomicpush/impl.Object]"], apart := false }
def FnQuarMissingPromoteSaid : Prop := fnQuarMissingPromoteRow.holds Try.pinned (OpenSpec.ofChange fnQuarMissingPromoteSpec)

/-- ITS FALSE NEIGHBOUR: 'it returns false'. Refute it at one input. -/
def fnQuarMissingPromoteWrong : ChangeSpec := { name := "fnQuarMissingPromote", fn := fun _ => fun
  | [d] => { results := [.lit (.bool false)], args := [d] }
  | _ => none }
def FnQuarMissingPromoteWrongFalsely : Prop := fnQuarMissingPromoteRow.holds Try.pinned (OpenSpec.ofChange fnQuarMissingPromoteWrong)

/-- 'laws.FnQuarPart': WHATEVER THE INPUT: true; the input reads as it did. -/
def fnQuarPartSpec : ChangeSpec := { name := "fnQuarPart", fn := fun _ => fun
  | [d1, d2] => { results := [.lit (.bool true)], args := [d1, d2] }
  | _ => none }
def fnQuarPartRow : OpenClaim := { program := "ytblknnifccmpkaa", sum := "11e711b2fcc15178d93813db4cd5a078006fe353c90af4cc58d7fbec30771290", func := "loop.example/atomicpush/laws.FnQuarPart", spec := "fnQuarPart", apart := false }
def FnQuarPartSaid : Prop := fnQuarPartRow.holds Try.pinned (OpenSpec.ofChange fnQuarPartSpec)

/-- ITS FALSE NEIGHBOUR: 'it returns false'. Refute it at one input. -/
def fnQuarPartWrong : ChangeSpec := { name := "fnQuarPart", fn := fun _ => fun
  | [d1, d2] => { results := [.lit (.bool false)], args := [d1, d2] }
  | _ => none }
def FnQuarPartWrongFalsely : Prop := fnQuarPartRow.holds Try.pinned (OpenSpec.ofChange fnQuarPartWrong)

/-- 'laws.FnQuarNone': WHATEVER THE INPUT: true; the input reads as it did. -/
def fnQuarNoneSpec : ChangeSpec := { name := "fnQuarNone", fn := fun _ => fun
  | [d] => { results := [.lit (.bool true)], args := [d] }
  | _ => none }
def fnQuarNoneRow : OpenClaim := { program := "ytblknnifccmpkaa", sum := "11e711b2fcc15178d93813db4cd5a078006fe353c90af4cc58d7fbec30771290", func := "loop.example/atomicpush/laws.FnQuarNone", spec := "fnQuarNone", inPlace := ["slices.overlaps[loop.example/atomicpush/impl.Object]"], apart := false }
def FnQuarNoneSaid : Prop := fnQuarNoneRow.holds Try.pinned (OpenSpec.ofChange fnQuarNoneSpec)

/-- ITS FALSE NEIGHBOUR: 'it returns false'. Refute it at one input. -/
def fnQuarNoneWrong : ChangeSpec := { name := "fnQuarNone", fn := fun _ => fun
  | [d] => { results := [.lit (.bool false)], args := [d] }
  | _ => none }
def FnQuarNoneWrongFalsely : Prop := fnQuarNoneRow.holds Try.pinned (OpenSpec.ofChange fnQuarNoneWrong)

/-- 'laws.FnExactQuarantineValid': WHATEVER THE INPUT: true; the input reads as it did. -/
def fnExactQuarantineValidSpec : ChangeSpec := { name := "fnExactQuarantineValid", fn := fun _ => fun
  | [d] => { results := [.lit (.bool true)], args := [d] }
  | _ => none }
def fnExactQuarantineValidRow : OpenClaim := { program := "ytblknnifccmpkaa", sum := "11e711b2fcc15178d93813db4cd5a078006fe353c90af4cc58d7fbec30771290", func := "loop.example/atomicpush/laws.FnExactQuarantineValid", spec := "fnExactQuarantineValid", apart := false }
def FnExactQuarantineValidSaid : Prop := fnExactQuarantineValidRow.holds Try.pinned (OpenSpec.ofChange fnExactQuarantineValidSpec)

/-- ITS FALSE NEIGHBOUR: 'it returns false'. Refute it at one input. -/
def fnExactQuarantineValidWrong : ChangeSpec := { name := "fnExactQuarantineValid", fn := fun _ => fun
  | [d] => { results := [.lit (.bool false)], args := [d] }
  | _ => none }
def FnExactQuarantineValidWrongFalsely : Prop := fnExactQuarantineValidRow.holds Try.pinned (OpenSpec.ofChange fnExactQuarantineValidWrong)

/-- 'laws.FnExactQuarantinePut': WHATEVER THE INPUT: true; the input reads as it did. -/
def fnExactQuarantinePutSpec : ChangeSpec := { name := "fnExactQuarantinePut", fn := fun _ => fun
  | [d1, d2, d3] => { results := [.lit (.bool true)], args := [d1, d2, d3] }
  | _ => none }
def fnExactQuarantinePutRow : OpenClaim := { program := "ytblknnifccmpkaa", sum := "11e711b2fcc15178d93813db4cd5a078006fe353c90af4cc58d7fbec30771290", func := "loop.example/atomicpush/laws.FnExactQuarantinePut", spec := "fnExactQuarantinePut", inPlace := ["slices.overlaps[loop.example/atomicpush/impl.Object]"], apart := false }
def FnExactQuarantinePutSaid : Prop := fnExactQuarantinePutRow.holds Try.pinned (OpenSpec.ofChange fnExactQuarantinePutSpec)

/-- ITS FALSE NEIGHBOUR: 'it returns false'. Refute it at one input. -/
def fnExactQuarantinePutWrong : ChangeSpec := { name := "fnExactQuarantinePut", fn := fun _ => fun
  | [d1, d2, d3] => { results := [.lit (.bool false)], args := [d1, d2, d3] }
  | _ => none }
def FnExactQuarantinePutWrongFalsely : Prop := fnExactQuarantinePutRow.holds Try.pinned (OpenSpec.ofChange fnExactQuarantinePutWrong)

/-- 'laws.FnExactQuarantinePromote': WHATEVER THE INPUT: true; the input reads as it did. -/
def fnExactQuarantinePromoteSpec : ChangeSpec := { name := "fnExactQuarantinePromote", fn := fun _ => fun
  | [d1, d2] => { results := [.lit (.bool true)], args := [d1, d2] }
  | _ => none }
def fnExactQuarantinePromoteRow : OpenClaim := { program := "ytblknnifccmpkaa", sum := "11e711b2fcc15178d93813db4cd5a078006fe353c90af4cc58d7fbec30771290", func := "loop.example/atomicpush/laws.FnExactQuarantinePromote", spec := "fnExactQuarantinePromote", inPlace := ["slices.overlaps[loop.example/atomicpush/impl.Object]"], apart := false }
def FnExactQuarantinePromoteSaid : Prop := fnExactQuarantinePromoteRow.holds Try.pinned (OpenSpec.ofChange fnExactQuarantinePromoteSpec)

/-- ITS FALSE NEIGHBOUR: 'it returns false'. Refute it at one input. -/
def fnExactQuarantinePromoteWrong : ChangeSpec := { name := "fnExactQuarantinePromote", fn := fun _ => fun
  | [d1, d2] => { results := [.lit (.bool false)], args := [d1, d2] }
  | _ => none }
def FnExactQuarantinePromoteWrongFalsely : Prop := fnExactQuarantinePromoteRow.holds Try.pinned (OpenSpec.ofChange fnExactQuarantinePromoteWrong)

/-- 'laws.FnExactQuarantineDiscard': WHATEVER THE INPUT: true; the input reads as it did. -/
def fnExactQuarantineDiscardSpec : ChangeSpec := { name := "fnExactQuarantineDiscard", fn := fun _ => fun
  | [d1, d2] => { results := [.lit (.bool true)], args := [d1, d2] }
  | _ => none }
def fnExactQuarantineDiscardRow : OpenClaim := { program := "ytblknnifccmpkaa", sum := "11e711b2fcc15178d93813db4cd5a078006fe353c90af4cc58d7fbec30771290", func := "loop.example/atomicpush/laws.FnExactQuarantineDiscard", spec := "fnExactQuarantineDiscard", apart := false }
def FnExactQuarantineDiscardSaid : Prop := fnExactQuarantineDiscardRow.holds Try.pinned (OpenSpec.ofChange fnExactQuarantineDiscardSpec)

/-- ITS FALSE NEIGHBOUR: 'it returns false'. Refute it at one input. -/
def fnExactQuarantineDiscardWrong : ChangeSpec := { name := "fnExactQuarantineDiscard", fn := fun _ => fun
  | [d1, d2] => { results := [.lit (.bool false)], args := [d1, d2] }
  | _ => none }
def FnExactQuarantineDiscardWrongFalsely : Prop := fnExactQuarantineDiscardRow.holds Try.pinned (OpenSpec.ofChange fnExactQuarantineDiscardWrong)

/-- 'laws.FnExactQuarantineMissing': WHATEVER THE INPUT: true; the input reads as it did. -/
def fnExactQuarantineMissingSpec : ChangeSpec := { name := "fnExactQuarantineMissing", fn := fun _ => fun
  | [d1, d2, d3] => { results := [.lit (.bool true)], args := [d1, d2, d3] }
  | _ => none }
def fnExactQuarantineMissingRow : OpenClaim := { program := "ytblknnifccmpkaa", sum := "11e711b2fcc15178d93813db4cd5a078006fe353c90af4cc58d7fbec30771290", func := "loop.example/atomicpush/laws.FnExactQuarantineMissing", spec := "fnExactQuarantineMissing", inPlace := ["slices.overlaps[loop.example/atomicpush/impl.Object]"], apart := false }
def FnExactQuarantineMissingSaid : Prop := fnExactQuarantineMissingRow.holds Try.pinned (OpenSpec.ofChange fnExactQuarantineMissingSpec)

/-- ITS FALSE NEIGHBOUR: 'it returns false'. Refute it at one input. -/
def fnExactQuarantineMissingWrong : ChangeSpec := { name := "fnExactQuarantineMissing", fn := fun _ => fun
  | [d1, d2, d3] => { results := [.lit (.bool false)], args := [d1, d2, d3] }
  | _ => none }
def FnExactQuarantineMissingWrongFalsely : Prop := fnExactQuarantineMissingRow.holds Try.pinned (OpenSpec.ofChange fnExactQuarantineMissingWrong)

/- THE SECOND FORM. 'bulk': how many values and letters a reading holds, each counted each time it is reached (what is shared counts as often as it is met; a slice's spare places count too). A statement '..UptoSaid' is the law's where the arguments, and the package variables that the reading takes, are together of bulk at most 1048576: NARROWER than '..Said'. Prove '..Said' where nothing that the law and all that it calls make is longer than what came in: it says more and counts as full. Else prove '..UptoSaid'. A law counts once. -/
mutual
def uptoBulk {H : Type} : DataW H → Nat
  | .lit (.string bytes) => bytes.length + 1
  | .lit _ => 1
  | .nil => 1
  | .ptr d => uptoBulk d + 1
  | .slice elems spare => uptoBulkAll elems + uptoBulkAll spare + 1
  | .agg parts => uptoBulkAll parts + 1
  | .iface _ d => uptoBulk d + 1
  | .map entries => uptoBulkEntries entries + 1
  | .held _ => 1
def uptoBulkAll {H : Type} : List (DataW H) → Nat
  | [] => 0
  | d :: r => uptoBulk d + uptoBulkAll r
def uptoBulkEntries {H : Type} : List (Lit × DataW H) → Nat
  | [] => 0
  | x :: r => uptoBulkEntry x + uptoBulkEntries r
def uptoBulkEntry {H : Type} : Lit × DataW H → Nat
  | (.string bytes, d) => bytes.length + uptoBulk d + 1
  | (_, d) => uptoBulk d + 1
 end
def uptoSmall : (H : Type) → List (DataW H) → Bool := fun _ ds => decide (uptoBulkAll ds ≤ 1048576)
def OpenSpec.upto (s : _root_.Go.ChangeSpec) : _root_.Go.OpenSpec := { _root_.Go.OpenSpec.ofChange s with cond := some uptoSmall }

/-- 'laws.FnQuarPut', WHERE WHAT IT READS IS OF BULK AT MOST 1048576: true; the input reads as it did. -/
def fnQuarPutUptoRow : OpenClaim := { program := "ytblknnifccmpkaa", sum := "11e711b2fcc15178d93813db4cd5a078006fe353c90af4cc58d7fbec30771290", func := "loop.example/atomicpush/laws.FnQuarPut", spec := "fnQuarPut", inPlace := ["slices.overlaps[loop.example/atomicpush/impl.Object]"], apart := false, narrowed := true }
def FnQuarPutUptoSaid : Prop := fnQuarPutUptoRow.holds Try.pinned (OpenSpec.upto fnQuarPutSpec)

/-- 'laws.FnQuarTwice', WHERE WHAT IT READS IS OF BULK AT MOST 1048576: true; the input reads as it did. -/
def fnQuarTwiceUptoRow : OpenClaim := { program := "ytblknnifccmpkaa", sum := "11e711b2fcc15178d93813db4cd5a078006fe353c90af4cc58d7fbec30771290", func := "loop.example/atomicpush/laws.FnQuarTwice", spec := "fnQuarTwice", inPlace := ["slices.overlaps[loop.example/atomicpush/impl.Object]"], apart := false, narrowed := true }
def FnQuarTwiceUptoSaid : Prop := fnQuarTwiceUptoRow.holds Try.pinned (OpenSpec.upto fnQuarTwiceSpec)

/-- 'laws.FnPromote', WHERE WHAT IT READS IS OF BULK AT MOST 1048576: true; the input reads as it did. -/
def fnPromoteUptoRow : OpenClaim := { program := "ytblknnifccmpkaa", sum := "11e711b2fcc15178d93813db4cd5a078006fe353c90af4cc58d7fbec30771290", func := "loop.example/atomicpush/laws.FnPromote", spec := "fnPromote", inPlace := ["slices.overlaps[loop.example/atomicpush/impl.Object]"], apart := false, narrowed := true }
def FnPromoteUptoSaid : Prop := fnPromoteUptoRow.holds Try.pinned (OpenSpec.upto fnPromoteSpec)

/-- 'laws.FnPromoteTwice', WHERE WHAT IT READS IS OF BULK AT MOST 1048576: true; the input reads as it did. -/
def fnPromoteTwiceUptoRow : OpenClaim := { program := "ytblknnifccmpkaa", sum := "11e711b2fcc15178d93813db4cd5a078006fe353c90af4cc58d7fbec30771290", func := "loop.example/atomicpush/laws.FnPromoteTwice", spec := "fnPromoteTwice", inPlace := ["slices.overlaps[loop.example/atomicpush/impl.Object]"], apart := false, narrowed := true }
def FnPromoteTwiceUptoSaid : Prop := fnPromoteTwiceUptoRow.holds Try.pinned (OpenSpec.upto fnPromoteTwiceSpec)

/-- 'laws.FnDiscard', WHERE WHAT IT READS IS OF BULK AT MOST 1048576: true; the input reads as it did. -/
def fnDiscardUptoRow : OpenClaim := { program := "ytblknnifccmpkaa", sum := "11e711b2fcc15178d93813db4cd5a078006fe353c90af4cc58d7fbec30771290", func := "loop.example/atomicpush/laws.FnDiscard", spec := "fnDiscard", apart := false, narrowed := true }
def FnDiscardUptoSaid : Prop := fnDiscardUptoRow.holds Try.pinned (OpenSpec.upto fnDiscardSpec)

/-- 'laws.FnDiscardPut', WHERE WHAT IT READS IS OF BULK AT MOST 1048576: true; the input reads as it did. -/
def fnDiscardPutUptoRow : OpenClaim := { program := "ytblknnifccmpkaa", sum := "11e711b2fcc15178d93813db4cd5a078006fe353c90af4cc58d7fbec30771290", func := "loop.example/atomicpush/laws.FnDiscardPut", spec := "fnDiscardPut", inPlace := ["slices.overlaps[loop.example/atomicpush/impl.Object]"], apart := false, narrowed := true }
def FnDiscardPutUptoSaid : Prop := fnDiscardPutUptoRow.holds Try.pinned (OpenSpec.upto fnDiscardPutSpec)

/-- 'laws.FnQuarMissing', WHERE WHAT IT READS IS OF BULK AT MOST 1048576: true; the input reads as it did. -/
def fnQuarMissingUptoRow : OpenClaim := { program := "ytblknnifccmpkaa", sum := "11e711b2fcc15178d93813db4cd5a078006fe353c90af4cc58d7fbec30771290", func := "loop.example/atomicpush/laws.FnQuarMissing", spec := "fnQuarMissing", inPlace := ["slices.overlaps[loop.example/atomicpush/impl.Object]"], apart := false, narrowed := true }
def FnQuarMissingUptoSaid : Prop := fnQuarMissingUptoRow.holds Try.pinned (OpenSpec.upto fnQuarMissingSpec)

/-- 'laws.FnQuarMissingPromote', WHERE WHAT IT READS IS OF BULK AT MOST 1048576: true; the input reads as it did. -/
def fnQuarMissingPromoteUptoRow : OpenClaim := { program := "ytblknnifccmpkaa", sum := "11e711b2fcc15178d93813db4cd5a078006fe353c90af4cc58d7fbec30771290", func := "loop.example/atomicpush/laws.FnQuarMissingPromote", spec := "fnQuarMissingPromote", inPlace := ["slices.overlaps[loop.example/atomicpush/impl.Object]"], apart := false, narrowed := true }
def FnQuarMissingPromoteUptoSaid : Prop := fnQuarMissingPromoteUptoRow.holds Try.pinned (OpenSpec.upto fnQuarMissingPromoteSpec)

/-- 'laws.FnQuarPart', WHERE WHAT IT READS IS OF BULK AT MOST 1048576: true; the input reads as it did. -/
def fnQuarPartUptoRow : OpenClaim := { program := "ytblknnifccmpkaa", sum := "11e711b2fcc15178d93813db4cd5a078006fe353c90af4cc58d7fbec30771290", func := "loop.example/atomicpush/laws.FnQuarPart", spec := "fnQuarPart", apart := false, narrowed := true }
def FnQuarPartUptoSaid : Prop := fnQuarPartUptoRow.holds Try.pinned (OpenSpec.upto fnQuarPartSpec)

/-- 'laws.FnQuarNone', WHERE WHAT IT READS IS OF BULK AT MOST 1048576: true; the input reads as it did. -/
def fnQuarNoneUptoRow : OpenClaim := { program := "ytblknnifccmpkaa", sum := "11e711b2fcc15178d93813db4cd5a078006fe353c90af4cc58d7fbec30771290", func := "loop.example/atomicpush/laws.FnQuarNone", spec := "fnQuarNone", inPlace := ["slices.overlaps[loop.example/atomicpush/impl.Object]"], apart := false, narrowed := true }
def FnQuarNoneUptoSaid : Prop := fnQuarNoneUptoRow.holds Try.pinned (OpenSpec.upto fnQuarNoneSpec)

/-- 'laws.FnExactQuarantineValid', WHERE WHAT IT READS IS OF BULK AT MOST 1048576: true; the input reads as it did. -/
def fnExactQuarantineValidUptoRow : OpenClaim := { program := "ytblknnifccmpkaa", sum := "11e711b2fcc15178d93813db4cd5a078006fe353c90af4cc58d7fbec30771290", func := "loop.example/atomicpush/laws.FnExactQuarantineValid", spec := "fnExactQuarantineValid", apart := false, narrowed := true }
def FnExactQuarantineValidUptoSaid : Prop := fnExactQuarantineValidUptoRow.holds Try.pinned (OpenSpec.upto fnExactQuarantineValidSpec)

/-- 'laws.FnExactQuarantinePut', WHERE WHAT IT READS IS OF BULK AT MOST 1048576: true; the input reads as it did. -/
def fnExactQuarantinePutUptoRow : OpenClaim := { program := "ytblknnifccmpkaa", sum := "11e711b2fcc15178d93813db4cd5a078006fe353c90af4cc58d7fbec30771290", func := "loop.example/atomicpush/laws.FnExactQuarantinePut", spec := "fnExactQuarantinePut", inPlace := ["slices.overlaps[loop.example/atomicpush/impl.Object]"], apart := false, narrowed := true }
def FnExactQuarantinePutUptoSaid : Prop := fnExactQuarantinePutUptoRow.holds Try.pinned (OpenSpec.upto fnExactQuarantinePutSpec)

/-- 'laws.FnExactQuarantinePromote', WHERE WHAT IT READS IS OF BULK AT MOST 1048576: true; the input reads as it did. -/
def fnExactQuarantinePromoteUptoRow : OpenClaim := { program := "ytblknnifccmpkaa", sum := "11e711b2fcc15178d93813db4cd5a078006fe353c90af4cc58d7fbec30771290", func := "loop.example/atomicpush/laws.FnExactQuarantinePromote", spec := "fnExactQuarantinePromote", inPlace := ["slices.overlaps[loop.example/atomicpush/impl.Object]"], apart := false, narrowed := true }
def FnExactQuarantinePromoteUptoSaid : Prop := fnExactQuarantinePromoteUptoRow.holds Try.pinned (OpenSpec.upto fnExactQuarantinePromoteSpec)

/-- 'laws.FnExactQuarantineDiscard', WHERE WHAT IT READS IS OF BULK AT MOST 1048576: true; the input reads as it did. -/
def fnExactQuarantineDiscardUptoRow : OpenClaim := { program := "ytblknnifccmpkaa", sum := "11e711b2fcc15178d93813db4cd5a078006fe353c90af4cc58d7fbec30771290", func := "loop.example/atomicpush/laws.FnExactQuarantineDiscard", spec := "fnExactQuarantineDiscard", apart := false, narrowed := true }
def FnExactQuarantineDiscardUptoSaid : Prop := fnExactQuarantineDiscardUptoRow.holds Try.pinned (OpenSpec.upto fnExactQuarantineDiscardSpec)

/-- 'laws.FnExactQuarantineMissing', WHERE WHAT IT READS IS OF BULK AT MOST 1048576: true; the input reads as it did. -/
def fnExactQuarantineMissingUptoRow : OpenClaim := { program := "ytblknnifccmpkaa", sum := "11e711b2fcc15178d93813db4cd5a078006fe353c90af4cc58d7fbec30771290", func := "loop.example/atomicpush/laws.FnExactQuarantineMissing", spec := "fnExactQuarantineMissing", inPlace := ["slices.overlaps[loop.example/atomicpush/impl.Object]"], apart := false, narrowed := true }
def FnExactQuarantineMissingUptoSaid : Prop := fnExactQuarantineMissingUptoRow.holds Try.pinned (OpenSpec.upto fnExactQuarantineMissingSpec)

end Rows
end Go.Proofs.Ytblknnifccmpkaa
