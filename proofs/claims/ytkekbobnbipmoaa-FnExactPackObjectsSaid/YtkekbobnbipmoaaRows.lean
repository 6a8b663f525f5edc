/-
  No cell of these rows narrows 'for every input' (looked for: loops, veiled, ifaces, maps, wideKeys, modest, calm, conditions, laid).
  DERIVED. THE GIVEN ROWS OF THIS SEAT. 7 by the template 'for every input the law returns true; each argument reads behind the call as it read before'; 0 by the template 'total and deterministic' (their statements: YtkekbobnbipmoaaTotals.lean).
  GIVEN WITH THE SEED: the statements are not yours to turn. If you find one false, say at which input.
  Laid BY PROGRAM, IN A SANDBOX (cutbox-rows.mjs): the forced cells as the released guide's own fill.sh prints them over the translation b2f9eb6b40b77d2f… (all of the seat's roots in one cut). By AI agents, Wed Nov 11 2026. No macro, syntax, notation, axiom, sorry.
-/
import Derived.Test.YtkekbobnbipmoaaChecked
import GoSem.Claim
import GoSem.ClaimJoined
import GoSem.ClaimMapViews
import Derived.JoinedTies
import Derived.KernelRfl
namespace Go.Proofs.Ytkekbobnbipmoaa
/- THE CELL 'sum', in the pinned program and in every row, IS THE sha256 OF THE DUMP (.gsa) THAT YtkekbobnbipmoaaProg.lean LOADS. Nothing in Lean hashes anything: it is a label: what it is worth is what the hold of that sum in a sandbox is worth. -/
noncomputable def Try.pinned : Pinned := { name := "ytkekbobnbipmoaa", sum := "b2f9eb6b40b77d2f544cbca1d414c58ebc260eeb2a6e3469899a721dde15883d", checked := Try.checked }
namespace Rows
def none {H : Type} : Left H := { results := [], args := [] }

/-- 'laws.FnPackDepth': WHATEVER THE INPUT: true; the input reads as it did. -/
def fnPackDepthSpec : ChangeSpec := { name := "fnPackDepth", fn := fun _ => fun
  | [d] => { results := [.lit (.bool true)], args := [d] }
  | _ => none }
def fnPackDepthRow : OpenClaim := { program := "ytkekbobnbipmoaa", sum := "b2f9eb6b40b77d2f544cbca1d414c58ebc260eeb2a6e3469899a721dde15883d", func := "loop.example/atomicpush/laws.FnPackDepth", spec := "fnPackDepth", apart := false }
def FnPackDepthSaid : Prop := fnPackDepthRow.holds Try.pinned (OpenSpec.ofChange fnPackDepthSpec)

/-- ITS FALSE NEIGHBOUR: 'it returns false'. Refute it at one input. -/
def fnPackDepthWrong : ChangeSpec := { name := "fnPackDepth", fn := fun _ => fun
  | [d] => { results := [.lit (.bool false)], args := [d] }
  | _ => none }
def FnPackDepthWrongFalsely : Prop := fnPackDepthRow.holds Try.pinned (OpenSpec.ofChange fnPackDepthWrong)

/-- 'laws.FnPackSum': WHATEVER THE INPUT: true; the input reads as it did. -/
def fnPackSumSpec : ChangeSpec := { name := "fnPackSum", fn := fun _ => fun
  | [d] => { results := [.lit (.bool true)], args := [d] }
  | _ => none }
def fnPackSumRow : OpenClaim := { program := "ytkekbobnbipmoaa", sum := "b2f9eb6b40b77d2f544cbca1d414c58ebc260eeb2a6e3469899a721dde15883d", func := "loop.example/atomicpush/laws.FnPackSum", spec := "fnPackSum", apart := false }
def FnPackSumSaid : Prop := fnPackSumRow.holds Try.pinned (OpenSpec.ofChange fnPackSumSpec)

/-- ITS FALSE NEIGHBOUR: 'it returns false'. Refute it at one input. -/
def fnPackSumWrong : ChangeSpec := { name := "fnPackSum", fn := fun _ => fun
  | [d] => { results := [.lit (.bool false)], args := [d] }
  | _ => none }
def FnPackSumWrongFalsely : Prop := fnPackSumRow.holds Try.pinned (OpenSpec.ofChange fnPackSumWrong)

/-- 'laws.FnPackObjects': WHATEVER THE INPUT: true; the input reads as it did. -/
def fnPackObjectsSpec : ChangeSpec := { name := "fnPackObjects", fn := fun _ => fun
  | [d] => { results := [.lit (.bool true)], args := [d] }
  | _ => none }
def fnPackObjectsRow : OpenClaim := { program := "ytkekbobnbipmoaa", sum := "b2f9eb6b40b77d2f544cbca1d414c58ebc260eeb2a6e3469899a721dde15883d", func := "loop.example/atomicpush/laws.FnPackObjects", spec := "fnPackObjects", apart := false }
def FnPackObjectsSaid : Prop := fnPackObjectsRow.holds Try.pinned (OpenSpec.ofChange fnPackObjectsSpec)

/-- ITS FALSE NEIGHBOUR: 'it returns false'. Refute it at one input. -/
def fnPackObjectsWrong : ChangeSpec := { name := "fnPackObjects", fn := fun _ => fun
  | [d] => { results := [.lit (.bool false)], args := [d] }
  | _ => none }
def FnPackObjectsWrongFalsely : Prop := fnPackObjectsRow.holds Try.pinned (OpenSpec.ofChange fnPackObjectsWrong)

/-- 'laws.FnExactPackObjects': WHATEVER THE INPUT: true; the input reads as it did. -/
def fnExactPackObjectsSpec : ChangeSpec := { name := "fnExactPackObjects", fn := fun _ => fun
  | [d] => { results := [.lit (.bool true)], args := [d] }
  | _ => none }
def fnExactPackObjectsRow : OpenClaim := { program := "ytkekbobnbipmoaa", sum := "b2f9eb6b40b77d2f544cbca1d414c58ebc260eeb2a6e3469899a721dde15883d", func := "loop.example/atomicpush/laws.FnExactPackObjects", spec := "fnExactPackObjects", apart := false }
def FnExactPackObjectsSaid : Prop := fnExactPackObjectsRow.holds Try.pinned (OpenSpec.ofChange fnExactPackObjectsSpec)

/-- ITS FALSE NEIGHBOUR: 'it returns false'. Refute it at one input. -/
def fnExactPackObjectsWrong : ChangeSpec := { name := "fnExactPackObjects", fn := fun _ => fun
  | [d] => { results := [.lit (.bool false)], args := [d] }
  | _ => none }
def FnExactPackObjectsWrongFalsely : Prop := fnExactPackObjectsRow.holds Try.pinned (OpenSpec.ofChange fnExactPackObjectsWrong)

/-- 'laws.FnExactPackMake': WHATEVER THE INPUT: true; the input reads as it did. -/
def fnExactPackMakeSpec : ChangeSpec := { name := "fnExactPackMake", fn := fun _ => fun
  | [d] => { results := [.lit (.bool true)], args := [d] }
  | _ => none }
def fnExactPackMakeRow : OpenClaim := { program := "ytkekbobnbipmoaa", sum := "b2f9eb6b40b77d2f544cbca1d414c58ebc260eeb2a6e3469899a721dde15883d", func := "loop.example/atomicpush/laws.FnExactPackMake", spec := "fnExactPackMake", apart := false }
def FnExactPackMakeSaid : Prop := fnExactPackMakeRow.holds Try.pinned (OpenSpec.ofChange fnExactPackMakeSpec)

/-- ITS FALSE NEIGHBOUR: 'it returns false'. Refute it at one input. -/
def fnExactPackMakeWrong : ChangeSpec := { name := "fnExactPackMake", fn := fun _ => fun
  | [d] => { results := [.lit (.bool false)], args := [d] }
  | _ => none }
def FnExactPackMakeWrongFalsely : Prop := fnExactPackMakeRow.holds Try.pinned (OpenSpec.ofChange fnExactPackMakeWrong)

/-- 'laws.FnExactPackDepth': WHATEVER THE INPUT: true; the input reads as it did. -/
def fnExactPackDepthSpec : ChangeSpec := { name := "fnExactPackDepth", fn := fun _ => fun
  | [d1, d2] => { results := [.lit (.bool true)], args := [d1, d2] }
  | _ => none }
def fnExactPackDepthRow : OpenClaim := { program := "ytkekbobnbipmoaa", sum := "b2f9eb6b40b77d2f544cbca1d414c58ebc260eeb2a6e3469899a721dde15883d", func := "loop.example/atomicpush/laws.FnExactPackDepth", spec := "fnExactPackDepth", apart := false }
def FnExactPackDepthSaid : Prop := fnExactPackDepthRow.holds Try.pinned (OpenSpec.ofChange fnExactPackDepthSpec)

/-- ITS FALSE NEIGHBOUR: 'it returns false'. Refute it at one input. -/
def fnExactPackDepthWrong : ChangeSpec := { name := "fnExactPackDepth", fn := fun _ => fun
  | [d1, d2] => { results := [.lit (.bool false)], args := [d1, d2] }
  | _ => none }
def FnExactPackDepthWrongFalsely : Prop := fnExactPackDepthRow.holds Try.pinned (OpenSpec.ofChange fnExactPackDepthWrong)

/-- 'laws.FnExactPackSum': WHATEVER THE INPUT: true; the input reads as it did. -/
def fnExactPackSumSpec : ChangeSpec := { name := "fnExactPackSum", fn := fun _ => fun
  | [d] => { results := [.lit (.bool true)], args := [d] }
  | _ => none }
def fnExactPackSumRow : OpenClaim := { program := "ytkekbobnbipmoaa", sum := "b2f9eb6b40b77d2f544cbca1d414c58ebc260eeb2a6e3469899a721dde15883d", func := "loop.example/atomicpush/laws.FnExactPackSum", spec := "fnExactPackSum", apart := false }
def FnExactPackSumSaid : Prop := fnExactPackSumRow.holds Try.pinned (OpenSpec.ofChange fnExactPackSumSpec)

/-- ITS FALSE NEIGHBOUR: 'it returns false'. Refute it at one input. -/
def fnExactPackSumWrong : ChangeSpec := { name := "fnExactPackSum", fn := fun _ => fun
  | [d] => { results := [.lit (.bool false)], args := [d] }
  | _ => none }
def FnExactPackSumWrongFalsely : Prop := fnExactPackSumRow.holds Try.pinned (OpenSpec.ofChange fnExactPackSumWrong)

/- THE SECOND FORM. 'bulk': how many values and letters a reading holds, each counted each time it is reached (what is shared counts as often as it is met; a slice's spare places count too). A statement '..UptoSaid' is the law's where the arguments, and the package variables that the reading takes, are together of bulk at most 1048576: NARROWER than '..Said'. Prove '..Said' where nothing that the law and all that it calls make is longer than what came in: it says more and counts as full. Else prove '..UptoSaid'. A law counts once. -/
mutual
def uptoBulk {H : Type} : DataW H → Nat
  | .lit (.string bytes) => bytes.length + 1
  | .lit _ => 1
  | .nil => 1
  | .ptr d => uptoBulk d + 1
  | .slice elems spare => uptoBulkAll elems + uptoBulkAll spare + 1
  | .agg parts => uptoBulkAll parts + 1
  | .iface _ d => uptoBulk d + 1
  | .map entries => uptoBulkEntries entries + 1
  | .held _ => 1
def uptoBulkAll {H : Type} : List (DataW H) → Nat
  | [] => 0
  | d :: r => uptoBulk d + uptoBulkAll r
def uptoBulkEntries {H : Type} : List (Lit × DataW H) → Nat
  | [] => 0
  | x :: r => uptoBulkEntry x + uptoBulkEntries r
def uptoBulkEntry {H : Type} : Lit × DataW H → Nat
  | (.string bytes, d) => bytes.length + uptoBulk d + 1
  | (_, d) => uptoBulk d + 1
 end
def uptoSmall : (H : Type) → List (DataW H) → Bool := fun _ ds => decide (uptoBulkAll ds ≤ 1048576)
def OpenSpec.upto (s : _root_.Go.ChangeSpec) : _root_.Go.OpenSpec := { _root_.Go.OpenSpec.ofChange s with cond := some uptoSmall }

/-- 'laws.FnPackDepth', WHERE WHAT IT READS IS OF BULK AT MOST 1048576: true; the input reads as it did. -/
def fnPackDepthUptoRow : OpenClaim := { program := "ytkekbobnbipmoaa", sum := "b2f9eb6b40b77d2f544cbca1d414c58ebc260eeb2a6e3469899a721dde15883d", func := "loop.example/atomicpush/laws.FnPackDepth", spec := "fnPackDepth", apart := false, narrowed := true }
def FnPackDepthUptoSaid : Prop := fnPackDepthUptoRow.holds Try.pinned (OpenSpec.upto fnPackDepthSpec)

/-- 'laws.FnPackSum', WHERE WHAT IT READS IS OF BULK AT MOST 1048576: true; the input reads as it did. -/
def fnPackSumUptoRow : OpenClaim := { program := "ytkekbobnbipmoaa", sum := "b2f9eb6b40b77d2f544cbca1d414c58ebc260eeb2a6e3469899a721dde15883d", func := "loop.example/atomicpush/laws.FnPackSum", spec := "fnPackSum", apart := false, narrowed := true }
def FnPackSumUptoSaid : Prop := fnPackSumUptoRow.holds Try.pinned (OpenSpec.upto fnPackSumSpec)

/-- 'laws.FnPackObjects', WHERE WHAT IT READS IS OF BULK AT MOST 1048576: true; the input reads as it did. -/
def fnPackObjectsUptoRow : OpenClaim := { program := "ytkekbobnbipmoaa", sum := "b2f9eb6b40b77d2f544cbca1d414c58ebc260eeb2a6e3469899a721dde15883d", func := "loop.example/atomicpush/laws.FnPackObjects", spec := "fnPackObjects", apart := false, narrowed := true }
def FnPackObjectsUptoSaid : Prop := fnPackObjectsUptoRow.holds Try.pinned (OpenSpec.upto fnPackObjectsSpec)

/-- 'laws.FnExactPackObjects', WHERE WHAT IT READS IS OF BULK AT MOST 1048576: true; the input reads as it did. -/
def fnExactPackObjectsUptoRow : OpenClaim := { program := "ytkekbobnbipmoaa", sum := "b2f9eb6b40b77d2f544cbca1d414c58ebc260eeb2a6e3469899a721dde15883d", func := "loop.example/atomicpush/laws.FnExactPackObjects", spec := "fnExactPackObjects", apart := false, narrowed := true }
def FnExactPackObjectsUptoSaid : Prop := fnExactPackObjectsUptoRow.holds Try.pinned (OpenSpec.upto fnExactPackObjectsSpec)

/-- 'laws.FnExactPackMake', WHERE WHAT IT READS IS OF BULK AT MOST 1048576: true; the input reads as it did. -/
def fnExactPackMakeUptoRow : OpenClaim := { program := "ytkekbobnbipmoaa", sum := "b2f9eb6b40b77d2f544cbca1d414c58ebc260eeb2a6e3469899a721dde15883d", func := "loop.example/atomicpush/laws.FnExactPackMake", spec := "fnExactPackMake", apart := false, narrowed := true }
def FnExactPackMakeUptoSaid : Prop := fnExactPackMakeUptoRow.holds Try.pinned (OpenSpec.upto fnExactPackMakeSpec)

/-- 'laws.FnExactPackDepth', WHERE WHAT IT READS IS OF BULK AT MOST 1048576: true; the input reads as it did. -/
def fnExactPackDepthUptoRow : OpenClaim := { program := "ytkekbobnbipmoaa", sum := "b2f9eb6b40b77d2f544cbca1d414c58ebc260eeb2a6e3469899a721dde15883d", func := "loop.example/atomicpush/laws.FnExactPackDepth", spec := "fnExactPackDepth", apart := false, narrowed := true }
def FnExactPackDepthUptoSaid : Prop := fnExactPackDepthUptoRow.holds Try.pinned (OpenSpec.upto fnExactPackDepthSpec)

/-- 'laws.FnExactPackSum', WHERE WHAT IT READS IS OF BULK AT MOST 1048576: true; the input reads as it did. -/
def fnExactPackSumUptoRow : OpenClaim := { program := "ytkekbobnbipmoaa", sum := "b2f9eb6b40b77d2f544cbca1d414c58ebc260eeb2a6e3469899a721dde15883d", func := "loop.example/atomicpush/laws.FnExactPackSum", spec := "fnExactPackSum", apart := false, narrowed := true }
def FnExactPackSumUptoSaid : Prop := fnExactPackSumUptoRow.holds Try.pinned (OpenSpec.upto fnExactPackSumSpec)

end Rows
end Go.Proofs.Ytkekbobnbipmoaa
