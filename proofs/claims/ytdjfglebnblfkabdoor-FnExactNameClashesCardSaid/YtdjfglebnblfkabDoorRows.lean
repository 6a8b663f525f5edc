/-
  NARROWER THAN 'FOR EVERY INPUT', by the rows' own cells (each row's printed sentence says how): FnClashParts: laid · FnClashNot: laid · FnPartsCount: laid · FnExactNameValid: laid · FnExactNameParts: laid · FnExactNameMatches: laid · FnExactNameClashes: laid.
  DERIVED. THE GIVEN ROWS OF THIS SEAT. 7 by the template 'for every input the law returns true; each argument reads behind the call as it read before'; 0 by the template 'total and deterministic' (their statements: YtdjfglebnblfkabDoorTotals.lean).
  GIVEN WITH THE SEED: the statements are not yours to turn. If you find one false, say at which input.
  Laid BY PROGRAM, IN A SANDBOX (cutbox-rows.mjs): the forced cells as the released guide's own fill.sh prints them over the translation d576536f7b6c2d8f… (all of the seat's roots in one cut). By AI agents, Wed Nov 11 2026. No macro, syntax, notation, axiom, sorry.
-/
import Derived.Test.YtdjfglebnblfkabDoorChecked
import GoSem.PinnedTables
import GoSem.Claim
import GoSem.ClaimJoined
import GoSem.ClaimMapViews
import Derived.JoinedTies
import Derived.KernelRfl
namespace Go.Proofs.YtdjfglebnblfkabDoor
/- THE CELL 'sum', in the pinned program and in every row, IS THE sha256 OF THE DUMP (.gsa) THAT YtdjfglebnblfkabDoorProg.lean LOADS. Nothing in Lean hashes anything: it is a label: what it is worth is what the hold of that sum in a sandbox is worth. -/
noncomputable def Tryd.pinned : Pinned := { name := "ytdjfglebnblfkabdoor", sum := "d576536f7b6c2d8fed7d5c3c43892e7ec8cb271855d7d4f1f48a0340ab492c0a", checked := Tryd.checked }
namespace Rows
def none {H : Type} : Left H := { results := [], args := [] }

/- WHAT THE LISTED PACKAGE-LEVEL VARIABLES READ AS WHEN THE CALL BEGINS. Each datum BY PROGRAM (the guide's laid-datum.mjs) off the statement by which the dump's own 'gosem.cut.vars' lays the variable. In a bare row this is a premise. The card (YtdjfglebnblfkabDoorCards.lean) ties it to the program's text. -/
def laid_unicode_utf8_acceptRanges {H : Type} : DataW H := .agg [.agg [.lit (.int .u8 128), .lit (.int .u8 191)], .agg [.lit (.int .u8 160), .lit (.int .u8 191)], .agg [.lit (.int .u8 128), .lit (.int .u8 159)], .agg [.lit (.int .u8 144), .lit (.int .u8 191)], .agg [.lit (.int .u8 128), .lit (.int .u8 143)], .agg [.lit (.int .u8 0), .lit (.int .u8 0)], .agg [.lit (.int .u8 0), .lit (.int .u8 0)], .agg [.lit (.int .u8 0), .lit (.int .u8 0)], .agg [.lit (.int .u8 0), .lit (.int .u8 0)], .agg [.lit (.int .u8 0), .lit (.int .u8 0)], .agg [.lit (.int .u8 0), .lit (.int .u8 0)], .agg [.lit (.int .u8 0), .lit (.int .u8 0)], .agg [.lit (.int .u8 0), .lit (.int .u8 0)], .agg [.lit (.int .u8 0), .lit (.int .u8 0)], .agg [.lit (.int .u8 0), .lit (.int .u8 0)], .agg [.lit (.int .u8 0), .lit (.int .u8 0)]]
/-- One of Go's own tables, pinned by name: the form's constant. -/
def laid_unicode_utf8_first : DataW Unit := Go.Pinned.utf8First

/-- 'laws.FnClashParts': WHATEVER THE INPUT: true; the input reads as it did. -/
def fnClashPartsSpec : ChangeSpec := { name := "fnClashParts", fn := fun _ => fun
  | [d] => { results := [.lit (.bool true)], args := [d] }
  | _ => none }
def fnClashPartsRow : OpenClaim := { program := "ytdjfglebnblfkabdoor", sum := "d576536f7b6c2d8fed7d5c3c43892e7ec8cb271855d7d4f1f48a0340ab492c0a", func := "loop.example/atomicpush/laws.FnClashParts", spec := "fnClashParts", inPlace := ["internal/bytealg.CountString", "internal/bytealg.IndexByteString", "internal/bytealg.IndexString"], named := ["unicode/utf8.first", "unicode/utf8.acceptRanges", "internal/bytealg.MaxLen"], apart := false, laid := [("unicode/utf8.acceptRanges", laid_unicode_utf8_acceptRanges), ("unicode/utf8.first", laid_unicode_utf8_first)] }
def FnClashPartsSaid : Prop := fnClashPartsRow.holds Tryd.pinned (OpenSpec.ofChange fnClashPartsSpec)

/-- ITS FALSE NEIGHBOUR: 'it returns false'. Refute it at one input. -/
def fnClashPartsWrong : ChangeSpec := { name := "fnClashParts", fn := fun _ => fun
  | [d] => { results := [.lit (.bool false)], args := [d] }
  | _ => none }
def FnClashPartsWrongFalsely : Prop := fnClashPartsRow.holds Tryd.pinned (OpenSpec.ofChange fnClashPartsWrong)

/-- 'laws.FnClashNot': WHATEVER THE INPUT: true; the input reads as it did. -/
def fnClashNotSpec : ChangeSpec := { name := "fnClashNot", fn := fun _ => fun
  | [d] => { results := [.lit (.bool true)], args := [d] }
  | _ => none }
def fnClashNotRow : OpenClaim := { program := "ytdjfglebnblfkabdoor", sum := "d576536f7b6c2d8fed7d5c3c43892e7ec8cb271855d7d4f1f48a0340ab492c0a", func := "loop.example/atomicpush/laws.FnClashNot", spec := "fnClashNot", inPlace := ["internal/bytealg.CountString", "internal/bytealg.IndexByteString", "internal/bytealg.IndexString"], named := ["unicode/utf8.first", "unicode/utf8.acceptRanges", "internal/bytealg.MaxLen"], apart := false, laid := [("unicode/utf8.acceptRanges", laid_unicode_utf8_acceptRanges), ("unicode/utf8.first", laid_unicode_utf8_first)] }
def FnClashNotSaid : Prop := fnClashNotRow.holds Tryd.pinned (OpenSpec.ofChange fnClashNotSpec)

/-- ITS FALSE NEIGHBOUR: 'it returns false'. Refute it at one input. -/
def fnClashNotWrong : ChangeSpec := { name := "fnClashNot", fn := fun _ => fun
  | [d] => { results := [.lit (.bool false)], args := [d] }
  | _ => none }
def FnClashNotWrongFalsely : Prop := fnClashNotRow.holds Tryd.pinned (OpenSpec.ofChange fnClashNotWrong)

/-- 'laws.FnPartsCount': WHATEVER THE INPUT: true; the input reads as it did. -/
def fnPartsCountSpec : ChangeSpec := { name := "fnPartsCount", fn := fun _ => fun
  | [d] => { results := [.lit (.bool true)], args := [d] }
  | _ => none }
def fnPartsCountRow : OpenClaim := { program := "ytdjfglebnblfkabdoor", sum := "d576536f7b6c2d8fed7d5c3c43892e7ec8cb271855d7d4f1f48a0340ab492c0a", func := "loop.example/atomicpush/laws.FnPartsCount", spec := "fnPartsCount", inPlace := ["internal/bytealg.CountString", "internal/bytealg.IndexByteString", "internal/bytealg.IndexString"], named := ["unicode/utf8.first", "unicode/utf8.acceptRanges", "internal/bytealg.MaxLen"], apart := false, laid := [("unicode/utf8.acceptRanges", laid_unicode_utf8_acceptRanges), ("unicode/utf8.first", laid_unicode_utf8_first)] }
def FnPartsCountSaid : Prop := fnPartsCountRow.holds Tryd.pinned (OpenSpec.ofChange fnPartsCountSpec)

/-- ITS FALSE NEIGHBOUR: 'it returns false'. Refute it at one input. -/
def fnPartsCountWrong : ChangeSpec := { name := "fnPartsCount", fn := fun _ => fun
  | [d] => { results := [.lit (.bool false)], args := [d] }
  | _ => none }
def FnPartsCountWrongFalsely : Prop := fnPartsCountRow.holds Tryd.pinned (OpenSpec.ofChange fnPartsCountWrong)

/-- 'laws.FnExactNameValid': WHATEVER THE INPUT: true; the input reads as it did. -/
def fnExactNameValidSpec : ChangeSpec := { name := "fnExactNameValid", fn := fun _ => fun
  | [d] => { results := [.lit (.bool true)], args := [d] }
  | _ => none }
def fnExactNameValidRow : OpenClaim := { program := "ytdjfglebnblfkabdoor", sum := "d576536f7b6c2d8fed7d5c3c43892e7ec8cb271855d7d4f1f48a0340ab492c0a", func := "loop.example/atomicpush/laws.FnExactNameValid", spec := "fnExactNameValid", inPlace := ["internal/bytealg.CountString", "internal/bytealg.IndexByteString", "internal/bytealg.IndexString"], named := ["unicode/utf8.first", "unicode/utf8.acceptRanges", "internal/bytealg.MaxLen"], apart := false, laid := [("unicode/utf8.acceptRanges", laid_unicode_utf8_acceptRanges), ("unicode/utf8.first", laid_unicode_utf8_first)] }
def FnExactNameValidSaid : Prop := fnExactNameValidRow.holds Tryd.pinned (OpenSpec.ofChange fnExactNameValidSpec)

/-- ITS FALSE NEIGHBOUR: 'it returns false'. Refute it at one input. -/
def fnExactNameValidWrong : ChangeSpec := { name := "fnExactNameValid", fn := fun _ => fun
  | [d] => { results := [.lit (.bool false)], args := [d] }
  | _ => none }
def FnExactNameValidWrongFalsely : Prop := fnExactNameValidRow.holds Tryd.pinned (OpenSpec.ofChange fnExactNameValidWrong)

/-- 'laws.FnExactNameParts': WHATEVER THE INPUT: true; the input reads as it did. -/
def fnExactNamePartsSpec : ChangeSpec := { name := "fnExactNameParts", fn := fun _ => fun
  | [d] => { results := [.lit (.bool true)], args := [d] }
  | _ => none }
def fnExactNamePartsRow : OpenClaim := { program := "ytdjfglebnblfkabdoor", sum := "d576536f7b6c2d8fed7d5c3c43892e7ec8cb271855d7d4f1f48a0340ab492c0a", func := "loop.example/atomicpush/laws.FnExactNameParts", spec := "fnExactNameParts", inPlace := ["internal/bytealg.CountString", "internal/bytealg.IndexByteString", "internal/bytealg.IndexString"], named := ["unicode/utf8.first", "unicode/utf8.acceptRanges", "internal/bytealg.MaxLen"], apart := false, laid := [("unicode/utf8.acceptRanges", laid_unicode_utf8_acceptRanges), ("unicode/utf8.first", laid_unicode_utf8_first)] }
def FnExactNamePartsSaid : Prop := fnExactNamePartsRow.holds Tryd.pinned (OpenSpec.ofChange fnExactNamePartsSpec)

/-- ITS FALSE NEIGHBOUR: 'it returns false'. Refute it at one input. -/
def fnExactNamePartsWrong : ChangeSpec := { name := "fnExactNameParts", fn := fun _ => fun
  | [d] => { results := [.lit (.bool false)], args := [d] }
  | _ => none }
def FnExactNamePartsWrongFalsely : Prop := fnExactNamePartsRow.holds Tryd.pinned (OpenSpec.ofChange fnExactNamePartsWrong)

/-- 'laws.FnExactNameMatches': WHATEVER THE INPUT: true; the input reads as it did. -/
def fnExactNameMatchesSpec : ChangeSpec := { name := "fnExactNameMatches", fn := fun _ => fun
  | [d1, d2] => { results := [.lit (.bool true)], args := [d1, d2] }
  | _ => none }
def fnExactNameMatchesRow : OpenClaim := { program := "ytdjfglebnblfkabdoor", sum := "d576536f7b6c2d8fed7d5c3c43892e7ec8cb271855d7d4f1f48a0340ab492c0a", func := "loop.example/atomicpush/laws.FnExactNameMatches", spec := "fnExactNameMatches", inPlace := ["internal/bytealg.CountString", "internal/bytealg.IndexByteString", "internal/bytealg.IndexString"], unfollowed := true, recurses := true, named := ["unicode/utf8.first", "unicode/utf8.acceptRanges", "internal/bytealg.MaxLen"], apart := false, laid := [("unicode/utf8.acceptRanges", laid_unicode_utf8_acceptRanges), ("unicode/utf8.first", laid_unicode_utf8_first)] }
def FnExactNameMatchesSaid : Prop := fnExactNameMatchesRow.holds Tryd.pinned (OpenSpec.ofChange fnExactNameMatchesSpec)

/-- ITS FALSE NEIGHBOUR: 'it returns false'. Refute it at one input. -/
def fnExactNameMatchesWrong : ChangeSpec := { name := "fnExactNameMatches", fn := fun _ => fun
  | [d1, d2] => { results := [.lit (.bool false)], args := [d1, d2] }
  | _ => none }
def FnExactNameMatchesWrongFalsely : Prop := fnExactNameMatchesRow.holds Tryd.pinned (OpenSpec.ofChange fnExactNameMatchesWrong)

/-- 'laws.FnExactNameClashes': WHATEVER THE INPUT: true; the input reads as it did. -/
def fnExactNameClashesSpec : ChangeSpec := { name := "fnExactNameClashes", fn := fun _ => fun
  | [d1, d2] => { results := [.lit (.bool true)], args := [d1, d2] }
  | _ => none }
def fnExactNameClashesRow : OpenClaim := { program := "ytdjfglebnblfkabdoor", sum := "d576536f7b6c2d8fed7d5c3c43892e7ec8cb271855d7d4f1f48a0340ab492c0a", func := "loop.example/atomicpush/laws.FnExactNameClashes", spec := "fnExactNameClashes", inPlace := ["internal/bytealg.CountString", "internal/bytealg.IndexByteString", "internal/bytealg.IndexString"], named := ["unicode/utf8.first", "unicode/utf8.acceptRanges", "internal/bytealg.MaxLen"], apart := false, laid := [("unicode/utf8.acceptRanges", laid_unicode_utf8_acceptRanges), ("unicode/utf8.first", laid_unicode_utf8_first)] }
def FnExactNameClashesSaid : Prop := fnExactNameClashesRow.holds Tryd.pinned (OpenSpec.ofChange fnExactNameClashesSpec)

/-- ITS FALSE NEIGHBOUR: 'it returns false'. Refute it at one input. -/
def fnExactNameClashesWrong : ChangeSpec := { name := "fnExactNameClashes", fn := fun _ => fun
  | [d1, d2] => { results := [.lit (.bool false)], args := [d1, d2] }
  | _ => none }
def FnExactNameClashesWrongFalsely : Prop := fnExactNameClashesRow.holds Tryd.pinned (OpenSpec.ofChange fnExactNameClashesWrong)

/- THE SECOND FORM. 'bulk': how many values and letters a reading holds, each counted each time it is reached (what is shared counts as often as it is met; a slice's spare places count too). A statement '..UptoSaid' is the law's where the arguments, and the package variables that the reading takes, are together of bulk at most 1048576: NARROWER than '..Said'. Prove '..Said' where nothing that the law and all that it calls make is longer than what came in: it says more and counts as full. Else prove '..UptoSaid'. A law counts once. -/
mutual
def uptoBulk {H : Type} : DataW H → Nat
  | .lit (.string bytes) => bytes.length + 1
  | .lit _ => 1
  | .nil => 1
  | .ptr d => uptoBulk d + 1
  | .slice elems spare => uptoBulkAll elems + uptoBulkAll spare + 1
  | .agg parts => uptoBulkAll parts + 1
  | .iface _ d => uptoBulk d + 1
  | .map entries => uptoBulkEntries entries + 1
  | .held _ => 1
def uptoBulkAll {H : Type} : List (DataW H) → Nat
  | [] => 0
  | d :: r => uptoBulk d + uptoBulkAll r
def uptoBulkEntries {H : Type} : List (Lit × DataW H) → Nat
  | [] => 0
  | x :: r => uptoBulkEntry x + uptoBulkEntries r
def uptoBulkEntry {H : Type} : Lit × DataW H → Nat
  | (.string bytes, d) => bytes.length + uptoBulk d + 1
  | (_, d) => uptoBulk d + 1
 end
def uptoSmall : (H : Type) → List (DataW H) → Bool := fun _ ds => decide (uptoBulkAll ds ≤ 1048576)
def OpenSpec.upto (s : _root_.Go.ChangeSpec) : _root_.Go.OpenSpec := { _root_.Go.OpenSpec.ofChange s with cond := some uptoSmall }

/-- 'laws.FnClashParts', WHERE WHAT IT READS IS OF BULK AT MOST 1048576: true; the input reads as it did. -/
def fnClashPartsUptoRow : OpenClaim := { program := "ytdjfglebnblfkabdoor", sum := "d576536f7b6c2d8fed7d5c3c43892e7ec8cb271855d7d4f1f48a0340ab492c0a", func := "loop.example/atomicpush/laws.FnClashParts", spec := "fnClashParts", inPlace := ["internal/bytealg.CountString", "internal/bytealg.IndexByteString", "internal/bytealg.IndexString"], named := ["unicode/utf8.first", "unicode/utf8.acceptRanges", "internal/bytealg.MaxLen"], apart := false, laid := [("unicode/utf8.acceptRanges", laid_unicode_utf8_acceptRanges), ("unicode/utf8.first", laid_unicode_utf8_first)], narrowed := true }
def FnClashPartsUptoSaid : Prop := fnClashPartsUptoRow.holds Tryd.pinned (OpenSpec.upto fnClashPartsSpec)

/-- 'laws.FnClashNot', WHERE WHAT IT READS IS OF BULK AT MOST 1048576: true; the input reads as it did. -/
def fnClashNotUptoRow : OpenClaim := { program := "ytdjfglebnblfkabdoor", sum := "d576536f7b6c2d8fed7d5c3c43892e7ec8cb271855d7d4f1f48a0340ab492c0a", func := "loop.example/atomicpush/laws.FnClashNot", spec := "fnClashNot", inPlace := ["internal/bytealg.CountString", "internal/bytealg.IndexByteString", "internal/bytealg.IndexString"], named := ["unicode/utf8.first", "unicode/utf8.acceptRanges", "internal/bytealg.MaxLen"], apart := false, laid := [("unicode/utf8.acceptRanges", laid_unicode_utf8_acceptRanges), ("unicode/utf8.first", laid_unicode_utf8_first)], narrowed := true }
def FnClashNotUptoSaid : Prop := fnClashNotUptoRow.holds Tryd.pinned (OpenSpec.upto fnClashNotSpec)

/-- 'laws.FnPartsCount', WHERE WHAT IT READS IS OF BULK AT MOST 1048576: true; the input reads as it did. -/
def fnPartsCountUptoRow : OpenClaim := { program := "ytdjfglebnblfkabdoor", sum := "d576536f7b6c2d8fed7d5c3c43892e7ec8cb271855d7d4f1f48a0340ab492c0a", func := "loop.example/atomicpush/laws.FnPartsCount", spec := "fnPartsCount", inPlace := ["internal/bytealg.CountString", "internal/bytealg.IndexByteString", "internal/bytealg.IndexString"], named := ["unicode/utf8.first", "unicode/utf8.acceptRanges", "internal/bytealg.MaxLen"], apart := false, laid := [("unicode/utf8.acceptRanges", laid_unicode_utf8_acceptRanges), ("unicode/utf8.first", laid_unicode_utf8_first)], narrowed := true }
def FnPartsCountUptoSaid : Prop := fnPartsCountUptoRow.holds Tryd.pinned (OpenSpec.upto fnPartsCountSpec)

/-- 'laws.FnExactNameValid', WHERE WHAT IT READS IS OF BULK AT MOST 1048576: true; the input reads as it did. -/
def fnExactNameValidUptoRow : OpenClaim := { program := "ytdjfglebnblfkabdoor", sum := "d576536f7b6c2d8fed7d5c3c43892e7ec8cb271855d7d4f1f48a0340ab492c0a", func := "loop.example/atomicpush/laws.FnExactNameValid", spec := "fnExactNameValid", inPlace := ["internal/bytealg.CountString", "internal/bytealg.IndexByteString", "internal/bytealg.IndexString"], named := ["unicode/utf8.first", "unicode/utf8.acceptRanges", "internal/bytealg.MaxLen"], apart := false, laid := [("unicode/utf8.acceptRanges", laid_unicode_utf8_acceptRanges), ("unicode/utf8.first", laid_unicode_utf8_first)], narrowed := true }
def FnExactNameValidUptoSaid : Prop := fnExactNameValidUptoRow.holds Tryd.pinned (OpenSpec.upto fnExactNameValidSpec)

/-- 'laws.FnExactNameParts', WHERE WHAT IT READS IS OF BULK AT MOST 1048576: true; the input reads as it did. -/
def fnExactNamePartsUptoRow : OpenClaim := { program := "ytdjfglebnblfkabdoor", sum := "d576536f7b6c2d8fed7d5c3c43892e7ec8cb271855d7d4f1f48a0340ab492c0a", func := "loop.example/atomicpush/laws.FnExactNameParts", spec := "fnExactNameParts", inPlace := ["internal/bytealg.CountString", "internal/bytealg.IndexByteString", "internal/bytealg.IndexString"], named := ["unicode/utf8.first", "unicode/utf8.acceptRanges", "internal/bytealg.MaxLen"], apart := false, laid := [("unicode/utf8.acceptRanges", laid_unicode_utf8_acceptRanges), ("unicode/utf8.first", laid_unicode_utf8_first)], narrowed := true }
def FnExactNamePartsUptoSaid : Prop := fnExactNamePartsUptoRow.holds Tryd.pinned (OpenSpec.upto fnExactNamePartsSpec)

/-- 'laws.FnExactNameMatches', WHERE WHAT IT READS IS OF BULK AT MOST 1048576: true; the input reads as it did. -/
def fnExactNameMatchesUptoRow : OpenClaim := { program := "ytdjfglebnblfkabdoor", sum := "d576536f7b6c2d8fed7d5c3c43892e7ec8cb271855d7d4f1f48a0340ab492c0a", func := "loop.example/atomicpush/laws.FnExactNameMatches", spec := "fnExactNameMatches", inPlace := ["internal/bytealg.CountString", "internal/bytealg.IndexByteString", "internal/bytealg.IndexString"], unfollowed := true, recurses := true, named := ["unicode/utf8.first", "unicode/utf8.acceptRanges", "internal/bytealg.MaxLen"], apart := false, laid := [("unicode/utf8.acceptRanges", laid_unicode_utf8_acceptRanges), ("unicode/utf8.first", laid_unicode_utf8_first)], narrowed := true }
def FnExactNameMatchesUptoSaid : Prop := fnExactNameMatchesUptoRow.holds Tryd.pinned (OpenSpec.upto fnExactNameMatchesSpec)

/-- 'laws.FnExactNameClashes', WHERE WHAT IT READS IS OF BULK AT MOST 1048576: true; the input reads as it did. -/
def fnExactNameClashesUptoRow : OpenClaim := { program := "ytdjfglebnblfkabdoor", sum := "d576536f7b6c2d8fed7d5c3c43892e7ec8cb271855d7d4f1f48a0340ab492c0a", func := "loop.example/atomicpush/laws.FnExactNameClashes", spec := "fnExactNameClashes", inPlace := ["internal/bytealg.CountString", "internal/bytealg.IndexByteString", "internal/bytealg.IndexString"], named := ["unicode/utf8.first", "unicode/utf8.acceptRanges", "internal/bytealg.MaxLen"], apart := false, laid := [("unicode/utf8.acceptRanges", laid_unicode_utf8_acceptRanges), ("unicode/utf8.first", laid_unicode_utf8_first)], narrowed := true }
def FnExactNameClashesUptoSaid : Prop := fnExactNameClashesUptoRow.holds Tryd.pinned (OpenSpec.upto fnExactNameClashesSpec)

end Rows
end Go.Proofs.YtdjfglebnblfkabDoor
