/-
  No cell of these rows narrows 'for every input' (looked for: loops, veiled, ifaces, maps, wideKeys, modest, calm, conditions, laid).
  DERIVED. THE GIVEN ROWS OF THIS SEAT. 7 by the template 'for every input the law returns true; each argument reads behind the call as it read before'; 0 by the template 'total and deterministic' (their statements: YtnojhfidljipoaaTotals.lean).
  GIVEN WITH THE SEED: the statements are not yours to turn. If you find one false, say at which input.
  Laid BY PROGRAM, IN A SANDBOX (cutbox-rows.mjs): the forced cells as the released guide's own fill.sh prints them over the translation c38f75c01d3c434b… (all of the seat's roots in one cut). By AI agents, Wed Nov 11 2026. No macro, syntax, notation, axiom, sorry.
-/
import Derived.Test.YtnojhfidljipoaaChecked
import GoSem.Claim
import GoSem.ClaimJoined
import GoSem.ClaimMapViews
import Derived.JoinedTies
import Derived.KernelRfl
namespace Go.Proofs.Ytnojhfidljipoaa
/- THE CELL 'sum', in the pinned program and in every row, IS THE sha256 OF THE DUMP (.gsa) THAT YtnojhfidljipoaaProg.lean LOADS. Nothing in Lean hashes anything: it is a label: what it is worth is what the hold of that sum in a sandbox is worth. -/
noncomputable def Try.pinned : Pinned := { name := "ytnojhfidljipoaa", sum := "c38f75c01d3c434bda35272765b629d979cffc0e3b21a069911499989f641952", checked := Try.checked }
namespace Rows
def none {H : Type} : Left H := { results := [], args := [] }

/-- 'laws.FnAgree': WHATEVER THE INPUT: true; the input reads as it did. -/
def fnAgreeSpec : ChangeSpec := { name := "fnAgree", fn := fun _ => fun
  | [d] => { results := [.lit (.bool true)], args := [d] }
  | _ => none }
def fnAgreeRow : OpenClaim := { program := "ytnojhfidljipoaa", sum := "c38f75c01d3c434bda35272765b629d979cffc0e3b21a069911499989f641952", func := "loop.example/atomicpush/laws.FnAgree", spec := "fnAgree", apart := false }
def FnAgreeSaid : Prop := fnAgreeRow.holds Try.pinned (OpenSpec.ofChange fnAgreeSpec)

/-- ITS FALSE NEIGHBOUR: 'it returns false'. Refute it at one input. -/
def fnAgreeWrong : ChangeSpec := { name := "fnAgree", fn := fun _ => fun
  | [d] => { results := [.lit (.bool false)], args := [d] }
  | _ => none }
def FnAgreeWrongFalsely : Prop := fnAgreeRow.holds Try.pinned (OpenSpec.ofChange fnAgreeWrong)

/-- 'laws.FnTermDecide': WHATEVER THE INPUT: true; the input reads as it did. -/
def fnTermDecideSpec : ChangeSpec := { name := "fnTermDecide", fn := fun _ => fun
  | [d] => { results := [.lit (.bool true)], args := [d] }
  | _ => none }
def fnTermDecideRow : OpenClaim := { program := "ytnojhfidljipoaa", sum := "c38f75c01d3c434bda35272765b629d979cffc0e3b21a069911499989f641952", func := "loop.example/atomicpush/laws.FnTermDecide", spec := "fnTermDecide", apart := false }
def FnTermDecideSaid : Prop := fnTermDecideRow.holds Try.pinned (OpenSpec.ofChange fnTermDecideSpec)

/-- ITS FALSE NEIGHBOUR: 'it returns false'. Refute it at one input. -/
def fnTermDecideWrong : ChangeSpec := { name := "fnTermDecide", fn := fun _ => fun
  | [d] => { results := [.lit (.bool false)], args := [d] }
  | _ => none }
def FnTermDecideWrongFalsely : Prop := fnTermDecideRow.holds Try.pinned (OpenSpec.ofChange fnTermDecideWrong)

/-- 'laws.FnTermMore': WHATEVER THE INPUT: true; the input reads as it did. -/
def fnTermMoreSpec : ChangeSpec := { name := "fnTermMore", fn := fun _ => fun
  | [d1, d2] => { results := [.lit (.bool true)], args := [d1, d2] }
  | _ => none }
def fnTermMoreRow : OpenClaim := { program := "ytnojhfidljipoaa", sum := "c38f75c01d3c434bda35272765b629d979cffc0e3b21a069911499989f641952", func := "loop.example/atomicpush/laws.FnTermMore", spec := "fnTermMore", apart := false }
def FnTermMoreSaid : Prop := fnTermMoreRow.holds Try.pinned (OpenSpec.ofChange fnTermMoreSpec)

/-- ITS FALSE NEIGHBOUR: 'it returns false'. Refute it at one input. -/
def fnTermMoreWrong : ChangeSpec := { name := "fnTermMore", fn := fun _ => fun
  | [d1, d2] => { results := [.lit (.bool false)], args := [d1, d2] }
  | _ => none }
def FnTermMoreWrongFalsely : Prop := fnTermMoreRow.holds Try.pinned (OpenSpec.ofChange fnTermMoreWrong)

/-- 'laws.FnTermAll': WHATEVER THE INPUT: true; the input reads as it did. -/
def fnTermAllSpec : ChangeSpec := { name := "fnTermAll", fn := fun _ => fun
  | [d1, d2] => { results := [.lit (.bool true)], args := [d1, d2] }
  | _ => none }
def fnTermAllRow : OpenClaim := { program := "ytnojhfidljipoaa", sum := "c38f75c01d3c434bda35272765b629d979cffc0e3b21a069911499989f641952", func := "loop.example/atomicpush/laws.FnTermAll", spec := "fnTermAll", apart := false }
def FnTermAllSaid : Prop := fnTermAllRow.holds Try.pinned (OpenSpec.ofChange fnTermAllSpec)

/-- ITS FALSE NEIGHBOUR: 'it returns false'. Refute it at one input. -/
def fnTermAllWrong : ChangeSpec := { name := "fnTermAll", fn := fun _ => fun
  | [d1, d2] => { results := [.lit (.bool false)], args := [d1, d2] }
  | _ => none }
def FnTermAllWrongFalsely : Prop := fnTermAllRow.holds Try.pinned (OpenSpec.ofChange fnTermAllWrong)

/-- 'laws.FnTermBad': WHATEVER THE INPUT: true; the input reads as it did. -/
def fnTermBadSpec : ChangeSpec := { name := "fnTermBad", fn := fun _ => fun
  | [d] => { results := [.lit (.bool true)], args := [d] }
  | _ => none }
def fnTermBadRow : OpenClaim := { program := "ytnojhfidljipoaa", sum := "c38f75c01d3c434bda35272765b629d979cffc0e3b21a069911499989f641952", func := "loop.example/atomicpush/laws.FnTermBad", spec := "fnTermBad", apart := false }
def FnTermBadSaid : Prop := fnTermBadRow.holds Try.pinned (OpenSpec.ofChange fnTermBadSpec)

/-- ITS FALSE NEIGHBOUR: 'it returns false'. Refute it at one input. -/
def fnTermBadWrong : ChangeSpec := { name := "fnTermBad", fn := fun _ => fun
  | [d] => { results := [.lit (.bool false)], args := [d] }
  | _ => none }
def FnTermBadWrongFalsely : Prop := fnTermBadRow.holds Try.pinned (OpenSpec.ofChange fnTermBadWrong)

/-- 'laws.FnExactTermDecide': WHATEVER THE INPUT: true; the input reads as it did. -/
def fnExactTermDecideSpec : ChangeSpec := { name := "fnExactTermDecide", fn := fun _ => fun
  | [d] => { results := [.lit (.bool true)], args := [d] }
  | _ => none }
def fnExactTermDecideRow : OpenClaim := { program := "ytnojhfidljipoaa", sum := "c38f75c01d3c434bda35272765b629d979cffc0e3b21a069911499989f641952", func := "loop.example/atomicpush/laws.FnExactTermDecide", spec := "fnExactTermDecide", apart := false }
def FnExactTermDecideSaid : Prop := fnExactTermDecideRow.holds Try.pinned (OpenSpec.ofChange fnExactTermDecideSpec)

/-- ITS FALSE NEIGHBOUR: 'it returns false'. Refute it at one input. -/
def fnExactTermDecideWrong : ChangeSpec := { name := "fnExactTermDecide", fn := fun _ => fun
  | [d] => { results := [.lit (.bool false)], args := [d] }
  | _ => none }
def FnExactTermDecideWrongFalsely : Prop := fnExactTermDecideRow.holds Try.pinned (OpenSpec.ofChange fnExactTermDecideWrong)

/-- 'laws.FnExactTermAgree': WHATEVER THE INPUT: true; the input reads as it did. -/
def fnExactTermAgreeSpec : ChangeSpec := { name := "fnExactTermAgree", fn := fun _ => fun
  | [d] => { results := [.lit (.bool true)], args := [d] }
  | _ => none }
def fnExactTermAgreeRow : OpenClaim := { program := "ytnojhfidljipoaa", sum := "c38f75c01d3c434bda35272765b629d979cffc0e3b21a069911499989f641952", func := "loop.example/atomicpush/laws.FnExactTermAgree", spec := "fnExactTermAgree", apart := false }
def FnExactTermAgreeSaid : Prop := fnExactTermAgreeRow.holds Try.pinned (OpenSpec.ofChange fnExactTermAgreeSpec)

/-- ITS FALSE NEIGHBOUR: 'it returns false'. Refute it at one input. -/
def fnExactTermAgreeWrong : ChangeSpec := { name := "fnExactTermAgree", fn := fun _ => fun
  | [d] => { results := [.lit (.bool false)], args := [d] }
  | _ => none }
def FnExactTermAgreeWrongFalsely : Prop := fnExactTermAgreeRow.holds Try.pinned (OpenSpec.ofChange fnExactTermAgreeWrong)

/- THE SECOND FORM. 'bulk': how many values and letters a reading holds, each counted each time it is reached (what is shared counts as often as it is met; a slice's spare places count too). A statement '..UptoSaid' is the law's where the arguments, and the package variables that the reading takes, are together of bulk at most 1048576: NARROWER than '..Said'. Prove '..Said' where nothing that the law and all that it calls make is longer than what came in: it says more and counts as full. Else prove '..UptoSaid'. A law counts once. -/
mutual
def uptoBulk {H : Type} : DataW H → Nat
  | .lit (.string bytes) => bytes.length + 1
  | .lit _ => 1
  | .nil => 1
  | .ptr d => uptoBulk d + 1
  | .slice elems spare => uptoBulkAll elems + uptoBulkAll spare + 1
  | .agg parts => uptoBulkAll parts + 1
  | .iface _ d => uptoBulk d + 1
  | .map entries => uptoBulkEntries entries + 1
  | .held _ => 1
def uptoBulkAll {H : Type} : List (DataW H) → Nat
  | [] => 0
  | d :: r => uptoBulk d + uptoBulkAll r
def uptoBulkEntries {H : Type} : List (Lit × DataW H) → Nat
  | [] => 0
  | x :: r => uptoBulkEntry x + uptoBulkEntries r
def uptoBulkEntry {H : Type} : Lit × DataW H → Nat
  | (.string bytes, d) => bytes.length + uptoBulk d + 1
  | (_, d) => uptoBulk d + 1
 end
def uptoSmall : (H : Type) → List (DataW H) → Bool := fun _ ds => decide (uptoBulkAll ds ≤ 1048576)
def OpenSpec.upto (s : _root_.Go.ChangeSpec) : _root_.Go.OpenSpec := { _root_.Go.OpenSpec.ofChange s with cond := some uptoSmall }

/-- 'laws.FnAgree', WHERE WHAT IT READS IS OF BULK AT MOST 1048576: true; the input reads as it did. -/
def fnAgreeUptoRow : OpenClaim := { program := "ytnojhfidljipoaa", sum := "c38f75c01d3c434bda35272765b629d979cffc0e3b21a069911499989f641952", func := "loop.example/atomicpush/laws.FnAgree", spec := "fnAgree", apart := false, narrowed := true }
def FnAgreeUptoSaid : Prop := fnAgreeUptoRow.holds Try.pinned (OpenSpec.upto fnAgreeSpec)

/-- 'laws.FnTermDecide', WHERE WHAT IT READS IS OF BULK AT MOST 1048576: true; the input reads as it did. -/
def fnTermDecideUptoRow : OpenClaim := { program := "ytnojhfidljipoaa", sum := "c38f75c01d3c434bda35272765b629d979cffc0e3b21a069911499989f641952", func := "loop.example/atomicpush/laws.FnTermDecide", spec := "fnTermDecide", apart := false, narrowed := true }
def FnTermDecideUptoSaid : Prop := fnTermDecideUptoRow.holds Try.pinned (OpenSpec.upto fnTermDecideSpec)

/-- 'laws.FnTermMore', WHERE WHAT IT READS IS OF BULK AT MOST 1048576: true; the input reads as it did. -/
def fnTermMoreUptoRow : OpenClaim := { program := "ytnojhfidljipoaa", sum := "c38f75c01d3c434bda35272765b629d979cffc0e3b21a069911499989f641952", func := "loop.example/atomicpush/laws.FnTermMore", spec := "fnTermMore", apart := false, narrowed := true }
def FnTermMoreUptoSaid : Prop := fnTermMoreUptoRow.holds Try.pinned (OpenSpec.upto fnTermMoreSpec)

/-- 'laws.FnTermAll', WHERE WHAT IT READS IS OF BULK AT MOST 1048576: true; the input reads as it did. -/
def fnTermAllUptoRow : OpenClaim := { program := "ytnojhfidljipoaa", sum := "c38f75c01d3c434bda35272765b629d979cffc0e3b21a069911499989f641952", func := "loop.example/atomicpush/laws.FnTermAll", spec := "fnTermAll", apart := false, narrowed := true }
def FnTermAllUptoSaid : Prop := fnTermAllUptoRow.holds Try.pinned (OpenSpec.upto fnTermAllSpec)

/-- 'laws.FnTermBad', WHERE WHAT IT READS IS OF BULK AT MOST 1048576: true; the input reads as it did. -/
def fnTermBadUptoRow : OpenClaim := { program := "ytnojhfidljipoaa", sum := "c38f75c01d3c434bda35272765b629d979cffc0e3b21a069911499989f641952", func := "loop.example/atomicpush/laws.FnTermBad", spec := "fnTermBad", apart := false, narrowed := true }
def FnTermBadUptoSaid : Prop := fnTermBadUptoRow.holds Try.pinned (OpenSpec.upto fnTermBadSpec)

/-- 'laws.FnExactTermDecide', WHERE WHAT IT READS IS OF BULK AT MOST 1048576: true; the input reads as it did. -/
def fnExactTermDecideUptoRow : OpenClaim := { program := "ytnojhfidljipoaa", sum := "c38f75c01d3c434bda35272765b629d979cffc0e3b21a069911499989f641952", func := "loop.example/atomicpush/laws.FnExactTermDecide", spec := "fnExactTermDecide", apart := false, narrowed := true }
def FnExactTermDecideUptoSaid : Prop := fnExactTermDecideUptoRow.holds Try.pinned (OpenSpec.upto fnExactTermDecideSpec)

/-- 'laws.FnExactTermAgree', WHERE WHAT IT READS IS OF BULK AT MOST 1048576: true; the input reads as it did. -/
def fnExactTermAgreeUptoRow : OpenClaim := { program := "ytnojhfidljipoaa", sum := "c38f75c01d3c434bda35272765b629d979cffc0e3b21a069911499989f641952", func := "loop.example/atomicpush/laws.FnExactTermAgree", spec := "fnExactTermAgree", apart := false, narrowed := true }
def FnExactTermAgreeUptoSaid : Prop := fnExactTermAgreeUptoRow.holds Try.pinned (OpenSpec.upto fnExactTermAgreeSpec)

end Rows
end Go.Proofs.Ytnojhfidljipoaa
