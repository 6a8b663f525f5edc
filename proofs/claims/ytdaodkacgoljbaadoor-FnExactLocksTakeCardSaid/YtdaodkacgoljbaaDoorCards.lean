/-
  DERIVED. GIVEN WITH THE SEED: THE CARDS: each row of YtdaodkacgoljbaaDoorRows.lean that lists a variable, with what it lists TIED to the program's text (the seventh form; the later family's looks); each row that meets fmt, with fmt's text TOLD by the authors' own Lean function (tested against real Go, not proved from fmt's source: count such statements apart). THE CARD IS WHAT COUNTS. Prove the row's statement (the work); the ties are given (YtdaodkacgoljbaaDoorTie.lean); close each card by the builder's one call (the guide's Derived/Test/ToyasCard.lean, 'card_holds'). Laid BY PROGRAM, IN A SANDBOX (cutbox-door.mjs). By AI agents, Wed Nov 11 2026. No macro, syntax, notation, axiom, sorry.
-/
import Derived.Test.YtdaodkacgoljbaaDoorRows
import GoSem.ClaimSeven
namespace Go.Proofs.YtdaodkacgoljbaaDoor
namespace Rows

/-- THE TIED CARD OF 'laws.FnTake'. -/
def fnTakeCard : Claim7 := { stood := { row := fnTakeRow, standIns := [], harness := (true, "3cf1db117aa4383f573de47797e683e2f76a2321156d2f662b4d5557e06933fe"), looks := true }, kinds := [], alts := [], laidByText := true, laidKinds := [.sentinel, .sentinel], laidTests := true, laidLooks := .later }
def FnTakeCardSaid : Prop := Claim7.holds Tryd.pinned (.plain (OpenSpec.ofChange fnTakeSpec)) fnTakeCard

/-- THE TIED CARD OF 'laws.FnTakeNone'. -/
def fnTakeNoneCard : Claim7 := { stood := { row := fnTakeNoneRow, standIns := [], harness := (true, "3cf1db117aa4383f573de47797e683e2f76a2321156d2f662b4d5557e06933fe"), looks := true }, kinds := [], alts := [], laidByText := true, laidKinds := [.sentinel, .sentinel], laidTests := true, laidLooks := .later }
def FnTakeNoneCardSaid : Prop := Claim7.holds Tryd.pinned (.plain (OpenSpec.ofChange fnTakeNoneSpec)) fnTakeNoneCard

/-- THE TIED CARD OF 'laws.FnTakeTwice'. -/
def fnTakeTwiceCard : Claim7 := { stood := { row := fnTakeTwiceRow, standIns := [], harness := (true, "3cf1db117aa4383f573de47797e683e2f76a2321156d2f662b4d5557e06933fe"), looks := true }, kinds := [], alts := [], laidByText := true, laidKinds := [.sentinel, .sentinel], laidTests := true, laidLooks := .later }
def FnTakeTwiceCardSaid : Prop := Claim7.holds Tryd.pinned (.plain (OpenSpec.ofChange fnTakeTwiceSpec)) fnTakeTwiceCard

/-- THE TIED CARD OF 'laws.FnTakeFree'. -/
def fnTakeFreeCard : Claim7 := { stood := { row := fnTakeFreeRow, standIns := [], harness := (true, "3cf1db117aa4383f573de47797e683e2f76a2321156d2f662b4d5557e06933fe"), looks := true }, kinds := [], alts := [], laidByText := true, laidKinds := [.sentinel, .sentinel], laidTests := true, laidLooks := .later }
def FnTakeFreeCardSaid : Prop := Claim7.holds Tryd.pinned (.plain (OpenSpec.ofChange fnTakeFreeSpec)) fnTakeFreeCard

/-- THE TIED CARD OF 'laws.FnTakeCross'. -/
def fnTakeCrossCard : Claim7 := { stood := { row := fnTakeCrossRow, standIns := [], harness := (true, "3cf1db117aa4383f573de47797e683e2f76a2321156d2f662b4d5557e06933fe"), looks := true }, kinds := [], alts := [], laidByText := true, laidKinds := [.sentinel, .sentinel], laidTests := true, laidLooks := .later }
def FnTakeCrossCardSaid : Prop := Claim7.holds Tryd.pinned (.plain (OpenSpec.ofChange fnTakeCrossSpec)) fnTakeCrossCard

/-- THE TIED CARD OF 'laws.FnExactLocksTake'. -/
def fnExactLocksTakeCard : Claim7 := { stood := { row := fnExactLocksTakeRow, standIns := [], harness := (true, "3cf1db117aa4383f573de47797e683e2f76a2321156d2f662b4d5557e06933fe"), looks := true }, kinds := [], alts := [], laidByText := true, laidKinds := [.sentinel, .sentinel], laidTests := true, laidLooks := .later }
def FnExactLocksTakeCardSaid : Prop := Claim7.holds Tryd.pinned (.plain (OpenSpec.ofChange fnExactLocksTakeSpec)) fnExactLocksTakeCard

/-- THE SECOND FORM's CARD OF 'laws.FnTake'. -/
def fnTakeUptoCard : Claim7 := { stood := { row := fnTakeUptoRow, standIns := [], harness := (true, "3cf1db117aa4383f573de47797e683e2f76a2321156d2f662b4d5557e06933fe"), looks := true }, kinds := [], alts := [], laidByText := true, laidKinds := [.sentinel, .sentinel], laidTests := true, laidLooks := .later }
def FnTakeUptoCardSaid : Prop := Claim7.holds Tryd.pinned (.plain (OpenSpec.upto fnTakeSpec)) fnTakeUptoCard

/-- THE SECOND FORM's CARD OF 'laws.FnTakeNone'. -/
def fnTakeNoneUptoCard : Claim7 := { stood := { row := fnTakeNoneUptoRow, standIns := [], harness := (true, "3cf1db117aa4383f573de47797e683e2f76a2321156d2f662b4d5557e06933fe"), looks := true }, kinds := [], alts := [], laidByText := true, laidKinds := [.sentinel, .sentinel], laidTests := true, laidLooks := .later }
def FnTakeNoneUptoCardSaid : Prop := Claim7.holds Tryd.pinned (.plain (OpenSpec.upto fnTakeNoneSpec)) fnTakeNoneUptoCard

/-- THE SECOND FORM's CARD OF 'laws.FnTakeTwice'. -/
def fnTakeTwiceUptoCard : Claim7 := { stood := { row := fnTakeTwiceUptoRow, standIns := [], harness := (true, "3cf1db117aa4383f573de47797e683e2f76a2321156d2f662b4d5557e06933fe"), looks := true }, kinds := [], alts := [], laidByText := true, laidKinds := [.sentinel, .sentinel], laidTests := true, laidLooks := .later }
def FnTakeTwiceUptoCardSaid : Prop := Claim7.holds Tryd.pinned (.plain (OpenSpec.upto fnTakeTwiceSpec)) fnTakeTwiceUptoCard

/-- THE SECOND FORM's CARD OF 'laws.FnTakeFree'. -/
def fnTakeFreeUptoCard : Claim7 := { stood := { row := fnTakeFreeUptoRow, standIns := [], harness := (true, "3cf1db117aa4383f573de47797e683e2f76a2321156d2f662b4d5557e06933fe"), looks := true }, kinds := [], alts := [], laidByText := true, laidKinds := [.sentinel, .sentinel], laidTests := true, laidLooks := .later }
def FnTakeFreeUptoCardSaid : Prop := Claim7.holds Tryd.pinned (.plain (OpenSpec.upto fnTakeFreeSpec)) fnTakeFreeUptoCard

/-- THE SECOND FORM's CARD OF 'laws.FnTakeCross'. -/
def fnTakeCrossUptoCard : Claim7 := { stood := { row := fnTakeCrossUptoRow, standIns := [], harness := (true, "3cf1db117aa4383f573de47797e683e2f76a2321156d2f662b4d5557e06933fe"), looks := true }, kinds := [], alts := [], laidByText := true, laidKinds := [.sentinel, .sentinel], laidTests := true, laidLooks := .later }
def FnTakeCrossUptoCardSaid : Prop := Claim7.holds Tryd.pinned (.plain (OpenSpec.upto fnTakeCrossSpec)) fnTakeCrossUptoCard

/-- THE SECOND FORM's CARD OF 'laws.FnExactLocksTake'. -/
def fnExactLocksTakeUptoCard : Claim7 := { stood := { row := fnExactLocksTakeUptoRow, standIns := [], harness := (true, "3cf1db117aa4383f573de47797e683e2f76a2321156d2f662b4d5557e06933fe"), looks := true }, kinds := [], alts := [], laidByText := true, laidKinds := [.sentinel, .sentinel], laidTests := true, laidLooks := .later }
def FnExactLocksTakeUptoCardSaid : Prop := Claim7.holds Tryd.pinned (.plain (OpenSpec.upto fnExactLocksTakeSpec)) fnExactLocksTakeUptoCard
end Rows
end Go.Proofs.YtdaodkacgoljbaaDoor
