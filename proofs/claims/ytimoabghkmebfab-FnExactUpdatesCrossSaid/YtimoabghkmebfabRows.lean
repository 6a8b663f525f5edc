/-
  No cell of these rows narrows 'for every input' (looked for: loops, veiled, ifaces, maps, wideKeys, modest, calm, conditions, laid).
  DERIVED. THE GIVEN ROWS OF THIS SEAT. 8 by the template 'for every input the law returns true; each argument reads behind the call as it read before'; 0 by the template 'total and deterministic' (their statements: YtimoabghkmebfabTotals.lean).
  GIVEN WITH THE SEED: the statements are not yours to turn. If you find one false, say at which input.
  Laid BY PROGRAM, IN A SANDBOX (cutbox-rows.mjs): the forced cells as the released guide's own fill.sh prints them over the translation 7c5ced849d2439b3… (all of the seat's roots in one cut). By AI agents, Wed Nov 11 2026. No macro, syntax, notation, axiom, sorry.
-/
import Derived.Test.YtimoabghkmebfabChecked
import GoSem.Claim
import GoSem.ClaimJoined
import GoSem.ClaimMapViews
import Derived.JoinedTies
import Derived.KernelRfl
namespace Go.Proofs.Ytimoabghkmebfab
/- THE CELL 'sum', in the pinned program and in every row, IS THE sha256 OF THE DUMP (.gsa) THAT YtimoabghkmebfabProg.lean LOADS. Nothing in Lean hashes anything: it is a label: what it is worth is what the hold of that sum in a sandbox is worth. -/
noncomputable def Try.pinned : Pinned := { name := "ytimoabghkmebfab", sum := "7c5ced849d2439b31d5df037e4af760830d9eae143fe8dc97f43323302402fe1", checked := Try.checked }
namespace Rows
def none {H : Type} : Left H := { results := [], args := [] }

/-- 'laws.FnUpdatesPart': WHATEVER THE INPUT: true; the input reads as it did. -/
def fnUpdatesPartSpec : ChangeSpec := { name := "fnUpdatesPart", fn := fun _ => fun
  | [d1, d2] => { results := [.lit (.bool true)], args := [d1, d2] }
  | _ => none }
def fnUpdatesPartRow : OpenClaim := { program := "ytimoabghkmebfab", sum := "7c5ced849d2439b31d5df037e4af760830d9eae143fe8dc97f43323302402fe1", func := "loop.example/atomicpush/laws.FnUpdatesPart", spec := "fnUpdatesPart", apart := false }
def FnUpdatesPartSaid : Prop := fnUpdatesPartRow.holds Try.pinned (OpenSpec.ofChange fnUpdatesPartSpec)

/-- ITS FALSE NEIGHBOUR: 'it returns false'. Refute it at one input. -/
def fnUpdatesPartWrong : ChangeSpec := { name := "fnUpdatesPart", fn := fun _ => fun
  | [d1, d2] => { results := [.lit (.bool false)], args := [d1, d2] }
  | _ => none }
def FnUpdatesPartWrongFalsely : Prop := fnUpdatesPartRow.holds Try.pinned (OpenSpec.ofChange fnUpdatesPartWrong)

/-- 'laws.FnRefsValid': WHATEVER THE INPUT: true; the input reads as it did. -/
def fnRefsValidSpec : ChangeSpec := { name := "fnRefsValid", fn := fun _ => fun
  | [d] => { results := [.lit (.bool true)], args := [d] }
  | _ => none }
def fnRefsValidRow : OpenClaim := { program := "ytimoabghkmebfab", sum := "7c5ced849d2439b31d5df037e4af760830d9eae143fe8dc97f43323302402fe1", func := "loop.example/atomicpush/laws.FnRefsValid", spec := "fnRefsValid", apart := false }
def FnRefsValidSaid : Prop := fnRefsValidRow.holds Try.pinned (OpenSpec.ofChange fnRefsValidSpec)

/-- ITS FALSE NEIGHBOUR: 'it returns false'. Refute it at one input. -/
def fnRefsValidWrong : ChangeSpec := { name := "fnRefsValid", fn := fun _ => fun
  | [d] => { results := [.lit (.bool false)], args := [d] }
  | _ => none }
def FnRefsValidWrongFalsely : Prop := fnRefsValidRow.holds Try.pinned (OpenSpec.ofChange fnRefsValidWrong)

/-- 'laws.FnDifferApply': WHATEVER THE INPUT: true; the input reads as it did. -/
def fnDifferApplySpec : ChangeSpec := { name := "fnDifferApply", fn := fun _ => fun
  | [d] => { results := [.lit (.bool true)], args := [d] }
  | _ => none }
def fnDifferApplyRow : OpenClaim := { program := "ytimoabghkmebfab", sum := "7c5ced849d2439b31d5df037e4af760830d9eae143fe8dc97f43323302402fe1", func := "loop.example/atomicpush/laws.FnDifferApply", spec := "fnDifferApply", apart := false }
def FnDifferApplySaid : Prop := fnDifferApplyRow.holds Try.pinned (OpenSpec.ofChange fnDifferApplySpec)

/-- ITS FALSE NEIGHBOUR: 'it returns false'. Refute it at one input. -/
def fnDifferApplyWrong : ChangeSpec := { name := "fnDifferApply", fn := fun _ => fun
  | [d] => { results := [.lit (.bool false)], args := [d] }
  | _ => none }
def FnDifferApplyWrongFalsely : Prop := fnDifferApplyRow.holds Try.pinned (OpenSpec.ofChange fnDifferApplyWrong)

/-- 'laws.FnExactRefsValid': WHATEVER THE INPUT: true; the input reads as it did. -/
def fnExactRefsValidSpec : ChangeSpec := { name := "fnExactRefsValid", fn := fun _ => fun
  | [d] => { results := [.lit (.bool true)], args := [d] }
  | _ => none }
def fnExactRefsValidRow : OpenClaim := { program := "ytimoabghkmebfab", sum := "7c5ced849d2439b31d5df037e4af760830d9eae143fe8dc97f43323302402fe1", func := "loop.example/atomicpush/laws.FnExactRefsValid", spec := "fnExactRefsValid", apart := false }
def FnExactRefsValidSaid : Prop := fnExactRefsValidRow.holds Try.pinned (OpenSpec.ofChange fnExactRefsValidSpec)

/-- ITS FALSE NEIGHBOUR: 'it returns false'. Refute it at one input. -/
def fnExactRefsValidWrong : ChangeSpec := { name := "fnExactRefsValid", fn := fun _ => fun
  | [d] => { results := [.lit (.bool false)], args := [d] }
  | _ => none }
def FnExactRefsValidWrongFalsely : Prop := fnExactRefsValidRow.holds Try.pinned (OpenSpec.ofChange fnExactRefsValidWrong)

/-- 'laws.FnExactUpdatesValid': WHATEVER THE INPUT: true; the input reads as it did. -/
def fnExactUpdatesValidSpec : ChangeSpec := { name := "fnExactUpdatesValid", fn := fun _ => fun
  | [d] => { results := [.lit (.bool true)], args := [d] }
  | _ => none }
def fnExactUpdatesValidRow : OpenClaim := { program := "ytimoabghkmebfab", sum := "7c5ced849d2439b31d5df037e4af760830d9eae143fe8dc97f43323302402fe1", func := "loop.example/atomicpush/laws.FnExactUpdatesValid", spec := "fnExactUpdatesValid", apart := false }
def FnExactUpdatesValidSaid : Prop := fnExactUpdatesValidRow.holds Try.pinned (OpenSpec.ofChange fnExactUpdatesValidSpec)

/-- ITS FALSE NEIGHBOUR: 'it returns false'. Refute it at one input. -/
def fnExactUpdatesValidWrong : ChangeSpec := { name := "fnExactUpdatesValid", fn := fun _ => fun
  | [d] => { results := [.lit (.bool false)], args := [d] }
  | _ => none }
def FnExactUpdatesValidWrongFalsely : Prop := fnExactUpdatesValidRow.holds Try.pinned (OpenSpec.ofChange fnExactUpdatesValidWrong)

/-- 'laws.FnExactRefsApply': WHATEVER THE INPUT: true; the input reads as it did. -/
def fnExactRefsApplySpec : ChangeSpec := { name := "fnExactRefsApply", fn := fun _ => fun
  | [d1, d2] => { results := [.lit (.bool true)], args := [d1, d2] }
  | _ => none }
def fnExactRefsApplyRow : OpenClaim := { program := "ytimoabghkmebfab", sum := "7c5ced849d2439b31d5df037e4af760830d9eae143fe8dc97f43323302402fe1", func := "loop.example/atomicpush/laws.FnExactRefsApply", spec := "fnExactRefsApply", apart := false }
def FnExactRefsApplySaid : Prop := fnExactRefsApplyRow.holds Try.pinned (OpenSpec.ofChange fnExactRefsApplySpec)

/-- ITS FALSE NEIGHBOUR: 'it returns false'. Refute it at one input. -/
def fnExactRefsApplyWrong : ChangeSpec := { name := "fnExactRefsApply", fn := fun _ => fun
  | [d1, d2] => { results := [.lit (.bool false)], args := [d1, d2] }
  | _ => none }
def FnExactRefsApplyWrongFalsely : Prop := fnExactRefsApplyRow.holds Try.pinned (OpenSpec.ofChange fnExactRefsApplyWrong)

/-- 'laws.FnExactRefsDiffer': WHATEVER THE INPUT: true; the input reads as it did. -/
def fnExactRefsDifferSpec : ChangeSpec := { name := "fnExactRefsDiffer", fn := fun _ => fun
  | [d1, d2] => { results := [.lit (.bool true)], args := [d1, d2] }
  | _ => none }
def fnExactRefsDifferRow : OpenClaim := { program := "ytimoabghkmebfab", sum := "7c5ced849d2439b31d5df037e4af760830d9eae143fe8dc97f43323302402fe1", func := "loop.example/atomicpush/laws.FnExactRefsDiffer", spec := "fnExactRefsDiffer", apart := false }
def FnExactRefsDifferSaid : Prop := fnExactRefsDifferRow.holds Try.pinned (OpenSpec.ofChange fnExactRefsDifferSpec)

/-- ITS FALSE NEIGHBOUR: 'it returns false'. Refute it at one input. -/
def fnExactRefsDifferWrong : ChangeSpec := { name := "fnExactRefsDiffer", fn := fun _ => fun
  | [d1, d2] => { results := [.lit (.bool false)], args := [d1, d2] }
  | _ => none }
def FnExactRefsDifferWrongFalsely : Prop := fnExactRefsDifferRow.holds Try.pinned (OpenSpec.ofChange fnExactRefsDifferWrong)

/-- 'laws.FnExactUpdatesCross': WHATEVER THE INPUT: true; the input reads as it did. -/
def fnExactUpdatesCrossSpec : ChangeSpec := { name := "fnExactUpdatesCross", fn := fun _ => fun
  | [d1, d2] => { results := [.lit (.bool true)], args := [d1, d2] }
  | _ => none }
def fnExactUpdatesCrossRow : OpenClaim := { program := "ytimoabghkmebfab", sum := "7c5ced849d2439b31d5df037e4af760830d9eae143fe8dc97f43323302402fe1", func := "loop.example/atomicpush/laws.FnExactUpdatesCross", spec := "fnExactUpdatesCross", apart := false }
def FnExactUpdatesCrossSaid : Prop := fnExactUpdatesCrossRow.holds Try.pinned (OpenSpec.ofChange fnExactUpdatesCrossSpec)

/-- ITS FALSE NEIGHBOUR: 'it returns false'. Refute it at one input. -/
def fnExactUpdatesCrossWrong : ChangeSpec := { name := "fnExactUpdatesCross", fn := fun _ => fun
  | [d1, d2] => { results := [.lit (.bool false)], args := [d1, d2] }
  | _ => none }
def FnExactUpdatesCrossWrongFalsely : Prop := fnExactUpdatesCrossRow.holds Try.pinned (OpenSpec.ofChange fnExactUpdatesCrossWrong)

/- THE SECOND FORM. 'bulk': how many values and letters a reading holds, each counted each time it is reached (what is shared counts as often as it is met; a slice's spare places count too). A statement '..UptoSaid' is the law's where the arguments, and the package variables that the reading takes, are together of bulk at most 1048576: NARROWER than '..Said'. Prove '..Said' where nothing that the law and all that it calls make is longer than what came in: it says more and counts as full. Else prove '..UptoSaid'. A law counts once. -/
mutual
def uptoBulk {H : Type} : DataW H → Nat
  | .lit (.string bytes) => bytes.length + 1
  | .lit _ => 1
  | .nil => 1
  | .ptr d => uptoBulk d + 1
  | .slice elems spare => uptoBulkAll elems + uptoBulkAll spare + 1
  | .agg parts => uptoBulkAll parts + 1
  | .iface _ d => uptoBulk d + 1
  | .map entries => uptoBulkEntries entries + 1
  | .held _ => 1
def uptoBulkAll {H : Type} : List (DataW H) → Nat
  | [] => 0
  | d :: r => uptoBulk d + uptoBulkAll r
def uptoBulkEntries {H : Type} : List (Lit × DataW H) → Nat
  | [] => 0
  | x :: r => uptoBulkEntry x + uptoBulkEntries r
def uptoBulkEntry {H : Type} : Lit × DataW H → Nat
  | (.string bytes, d) => bytes.length + uptoBulk d + 1
  | (_, d) => uptoBulk d + 1
 end
def uptoSmall : (H : Type) → List (DataW H) → Bool := fun _ ds => decide (uptoBulkAll ds ≤ 1048576)
def OpenSpec.upto (s : _root_.Go.ChangeSpec) : _root_.Go.OpenSpec := { _root_.Go.OpenSpec.ofChange s with cond := some uptoSmall }

/-- 'laws.FnUpdatesPart', WHERE WHAT IT READS IS OF BULK AT MOST 1048576: true; the input reads as it did. -/
def fnUpdatesPartUptoRow : OpenClaim := { program := "ytimoabghkmebfab", sum := "7c5ced849d2439b31d5df037e4af760830d9eae143fe8dc97f43323302402fe1", func := "loop.example/atomicpush/laws.FnUpdatesPart", spec := "fnUpdatesPart", apart := false, narrowed := true }
def FnUpdatesPartUptoSaid : Prop := fnUpdatesPartUptoRow.holds Try.pinned (OpenSpec.upto fnUpdatesPartSpec)

/-- 'laws.FnRefsValid', WHERE WHAT IT READS IS OF BULK AT MOST 1048576: true; the input reads as it did. -/
def fnRefsValidUptoRow : OpenClaim := { program := "ytimoabghkmebfab", sum := "7c5ced849d2439b31d5df037e4af760830d9eae143fe8dc97f43323302402fe1", func := "loop.example/atomicpush/laws.FnRefsValid", spec := "fnRefsValid", apart := false, narrowed := true }
def FnRefsValidUptoSaid : Prop := fnRefsValidUptoRow.holds Try.pinned (OpenSpec.upto fnRefsValidSpec)

/-- 'laws.FnDifferApply', WHERE WHAT IT READS IS OF BULK AT MOST 1048576: true; the input reads as it did. -/
def fnDifferApplyUptoRow : OpenClaim := { program := "ytimoabghkmebfab", sum := "7c5ced849d2439b31d5df037e4af760830d9eae143fe8dc97f43323302402fe1", func := "loop.example/atomicpush/laws.FnDifferApply", spec := "fnDifferApply", apart := false, narrowed := true }
def FnDifferApplyUptoSaid : Prop := fnDifferApplyUptoRow.holds Try.pinned (OpenSpec.upto fnDifferApplySpec)

/-- 'laws.FnExactRefsValid', WHERE WHAT IT READS IS OF BULK AT MOST 1048576: true; the input reads as it did. -/
def fnExactRefsValidUptoRow : OpenClaim := { program := "ytimoabghkmebfab", sum := "7c5ced849d2439b31d5df037e4af760830d9eae143fe8dc97f43323302402fe1", func := "loop.example/atomicpush/laws.FnExactRefsValid", spec := "fnExactRefsValid", apart := false, narrowed := true }
def FnExactRefsValidUptoSaid : Prop := fnExactRefsValidUptoRow.holds Try.pinned (OpenSpec.upto fnExactRefsValidSpec)

/-- 'laws.FnExactUpdatesValid', WHERE WHAT IT READS IS OF BULK AT MOST 1048576: true; the input reads as it did. -/
def fnExactUpdatesValidUptoRow : OpenClaim := { program := "ytimoabghkmebfab", sum := "7c5ced849d2439b31d5df037e4af760830d9eae143fe8dc97f43323302402fe1", func := "loop.example/atomicpush/laws.FnExactUpdatesValid", spec := "fnExactUpdatesValid", apart := false, narrowed := true }
def FnExactUpdatesValidUptoSaid : Prop := fnExactUpdatesValidUptoRow.holds Try.pinned (OpenSpec.upto fnExactUpdatesValidSpec)

/-- 'laws.FnExactRefsApply', WHERE WHAT IT READS IS OF BULK AT MOST 1048576: true; the input reads as it did. -/
def fnExactRefsApplyUptoRow : OpenClaim := { program := "ytimoabghkmebfab", sum := "7c5ced849d2439b31d5df037e4af760830d9eae143fe8dc97f43323302402fe1", func := "loop.example/atomicpush/laws.FnExactRefsApply", spec := "fnExactRefsApply", apart := false, narrowed := true }
def FnExactRefsApplyUptoSaid : Prop := fnExactRefsApplyUptoRow.holds Try.pinned (OpenSpec.upto fnExactRefsApplySpec)

/-- 'laws.FnExactRefsDiffer', WHERE WHAT IT READS IS OF BULK AT MOST 1048576: true; the input reads as it did. -/
def fnExactRefsDifferUptoRow : OpenClaim := { program := "ytimoabghkmebfab", sum := "7c5ced849d2439b31d5df037e4af760830d9eae143fe8dc97f43323302402fe1", func := "loop.example/atomicpush/laws.FnExactRefsDiffer", spec := "fnExactRefsDiffer", apart := false, narrowed := true }
def FnExactRefsDifferUptoSaid : Prop := fnExactRefsDifferUptoRow.holds Try.pinned (OpenSpec.upto fnExactRefsDifferSpec)

/-- 'laws.FnExactUpdatesCross', WHERE WHAT IT READS IS OF BULK AT MOST 1048576: true; the input reads as it did. -/
def fnExactUpdatesCrossUptoRow : OpenClaim := { program := "ytimoabghkmebfab", sum := "7c5ced849d2439b31d5df037e4af760830d9eae143fe8dc97f43323302402fe1", func := "loop.example/atomicpush/laws.FnExactUpdatesCross", spec := "fnExactUpdatesCross", apart := false, narrowed := true }
def FnExactUpdatesCrossUptoSaid : Prop := fnExactUpdatesCrossUptoRow.holds Try.pinned (OpenSpec.upto fnExactUpdatesCrossSpec)

end Rows
end Go.Proofs.Ytimoabghkmebfab
