/-
  DERIVED. GIVEN WITH THE SEED: THE CARDS: each row of YteeffchnbkkpfaaDoorRows.lean that lists a variable, with what it lists TIED to the program's text (the seventh form; the later family's looks); each row that meets fmt, with fmt's text TOLD by the authors' own Lean function (tested against real Go, not proved from fmt's source: count such statements apart). THE CARD IS WHAT COUNTS. Prove the row's statement (the work); the ties are given (YteeffchnbkkpfaaDoorTie.lean); close each card by the builder's one call (the guide's Derived/Test/ToyasCard.lean, 'card_holds'). Laid BY PROGRAM, IN A SANDBOX (cutbox-door.mjs). By AI agents, Wed Nov 11 2026. No macro, syntax, notation, axiom, sorry.
-/
import Derived.Test.YteeffchnbkkpfaaDoorRows
import GoSem.ClaimSeven
namespace Go.Proofs.YteeffchnbkkpfaaDoor
namespace Rows

/-- THE TIED CARD OF 'laws.FnPrepare'. -/
def fnPrepareCard : Claim7 := { stood := { row := fnPrepareRow, standIns := [], harness := (true, "55f7622c67687df08c9357d9add18f4270e102308dfffac50007b510443641d7"), looks := true }, kinds := [], alts := [], laidByText := true, laidKinds := [.sentinel, .sentinel], laidTests := true, laidLooks := .later }
def FnPrepareCardSaid : Prop := Claim7.holds Tryd.pinned (.plain (OpenSpec.ofChange fnPrepareSpec)) fnPrepareCard

/-- THE TIED CARD OF 'laws.FnPrepareNo'. -/
def fnPrepareNoCard : Claim7 := { stood := { row := fnPrepareNoRow, standIns := [], harness := (true, "55f7622c67687df08c9357d9add18f4270e102308dfffac50007b510443641d7"), looks := true }, kinds := [], alts := [], laidByText := true, laidKinds := [.sentinel, .sentinel], laidTests := true, laidLooks := .later }
def FnPrepareNoCardSaid : Prop := Claim7.holds Tryd.pinned (.plain (OpenSpec.ofChange fnPrepareNoSpec)) fnPrepareNoCard

/-- THE TIED CARD OF 'laws.FnPrepareAgain'. -/
def fnPrepareAgainCard : Claim7 := { stood := { row := fnPrepareAgainRow, standIns := [], harness := (true, "55f7622c67687df08c9357d9add18f4270e102308dfffac50007b510443641d7"), looks := true }, kinds := [], alts := [], laidByText := true, laidKinds := [.sentinel, .sentinel], laidTests := true, laidLooks := .later }
def FnPrepareAgainCardSaid : Prop := Claim7.holds Tryd.pinned (.plain (OpenSpec.ofChange fnPrepareAgainSpec)) fnPrepareAgainCard

/-- THE TIED CARD OF 'laws.FnPrepareTwice'. -/
def fnPrepareTwiceCard : Claim7 := { stood := { row := fnPrepareTwiceRow, standIns := [], harness := (true, "55f7622c67687df08c9357d9add18f4270e102308dfffac50007b510443641d7"), looks := true }, kinds := [], alts := [], laidByText := true, laidKinds := [.sentinel, .sentinel], laidTests := true, laidLooks := .later }
def FnPrepareTwiceCardSaid : Prop := Claim7.holds Tryd.pinned (.plain (OpenSpec.ofChange fnPrepareTwiceSpec)) fnPrepareTwiceCard

/-- THE TIED CARD OF 'laws.FnPrepareFits'. -/
def fnPrepareFitsCard : Claim7 := { stood := { row := fnPrepareFitsRow, standIns := [], harness := (true, "55f7622c67687df08c9357d9add18f4270e102308dfffac50007b510443641d7"), looks := true }, kinds := [], alts := [], laidByText := true, laidKinds := [.sentinel, .sentinel], laidTests := true, laidLooks := .later }
def FnPrepareFitsCardSaid : Prop := Claim7.holds Tryd.pinned (.plain (OpenSpec.ofChange fnPrepareFitsSpec)) fnPrepareFitsCard

/-- THE TIED CARD OF 'laws.FnDecide'. -/
def fnDecideCard : Claim7 := { stood := { row := fnDecideRow, standIns := [], harness := (true, "55f7622c67687df08c9357d9add18f4270e102308dfffac50007b510443641d7"), looks := true }, kinds := [], alts := [], laidByText := true, laidKinds := [.sentinel, .sentinel], laidTests := true, laidLooks := .later }
def FnDecideCardSaid : Prop := Claim7.holds Tryd.pinned (.plain (OpenSpec.ofChange fnDecideSpec)) fnDecideCard

/-- THE TIED CARD OF 'laws.FnDecideAbort'. -/
def fnDecideAbortCard : Claim7 := { stood := { row := fnDecideAbortRow, standIns := [], harness := (true, "55f7622c67687df08c9357d9add18f4270e102308dfffac50007b510443641d7"), looks := true }, kinds := [], alts := [], laidByText := true, laidKinds := [.sentinel, .sentinel], laidTests := true, laidLooks := .later }
def FnDecideAbortCardSaid : Prop := Claim7.holds Tryd.pinned (.plain (OpenSpec.ofChange fnDecideAbortSpec)) fnDecideAbortCard

/-- THE TIED CARD OF 'laws.FnDecideTwice'. -/
def fnDecideTwiceCard : Claim7 := { stood := { row := fnDecideTwiceRow, standIns := [], harness := (true, "55f7622c67687df08c9357d9add18f4270e102308dfffac50007b510443641d7"), looks := true }, kinds := [], alts := [], laidByText := true, laidKinds := [.sentinel, .sentinel], laidTests := true, laidLooks := .later }
def FnDecideTwiceCardSaid : Prop := Claim7.holds Tryd.pinned (.plain (OpenSpec.ofChange fnDecideTwiceSpec)) fnDecideTwiceCard

/-- THE TIED CARD OF 'laws.FnDecideUnknown'. -/
def fnDecideUnknownCard : Claim7 := { stood := { row := fnDecideUnknownRow, standIns := [], harness := (true, "55f7622c67687df08c9357d9add18f4270e102308dfffac50007b510443641d7"), looks := true }, kinds := [], alts := [], laidByText := true, laidKinds := [.sentinel, .sentinel], laidTests := true, laidLooks := .later }
def FnDecideUnknownCardSaid : Prop := Claim7.holds Tryd.pinned (.plain (OpenSpec.ofChange fnDecideUnknownSpec)) fnDecideUnknownCard

/-- THE TIED CARD OF 'laws.FnRecover'. -/
def fnRecoverCard : Claim7 := { stood := { row := fnRecoverRow, standIns := [], harness := (true, "55f7622c67687df08c9357d9add18f4270e102308dfffac50007b510443641d7"), looks := true }, kinds := [], alts := [], laidByText := true, laidKinds := [.sentinel, .sentinel], laidTests := true, laidLooks := .later }
def FnRecoverCardSaid : Prop := Claim7.holds Tryd.pinned (.plain (OpenSpec.ofChange fnRecoverSpec)) fnRecoverCard

/-- THE TIED CARD OF 'laws.FnRecoverNew'. -/
def fnRecoverNewCard : Claim7 := { stood := { row := fnRecoverNewRow, standIns := [], harness := (true, "55f7622c67687df08c9357d9add18f4270e102308dfffac50007b510443641d7"), looks := true }, kinds := [], alts := [], laidByText := true, laidKinds := [.sentinel, .sentinel], laidTests := true, laidLooks := .later }
def FnRecoverNewCardSaid : Prop := Claim7.holds Tryd.pinned (.plain (OpenSpec.ofChange fnRecoverNewSpec)) fnRecoverNewCard

/-- THE TIED CARD OF 'laws.FnCommitted'. -/
def fnCommittedCard : Claim7 := { stood := { row := fnCommittedRow, standIns := [], harness := (true, "55f7622c67687df08c9357d9add18f4270e102308dfffac50007b510443641d7"), looks := true }, kinds := [], alts := [], laidByText := true, laidKinds := [.sentinel, .sentinel], laidTests := true, laidLooks := .later }
def FnCommittedCardSaid : Prop := Claim7.holds Tryd.pinned (.plain (OpenSpec.ofChange fnCommittedSpec)) fnCommittedCard

/-- THE SECOND FORM's CARD OF 'laws.FnPrepare'. -/
def fnPrepareUptoCard : Claim7 := { stood := { row := fnPrepareUptoRow, standIns := [], harness := (true, "55f7622c67687df08c9357d9add18f4270e102308dfffac50007b510443641d7"), looks := true }, kinds := [], alts := [], laidByText := true, laidKinds := [.sentinel, .sentinel], laidTests := true, laidLooks := .later }
def FnPrepareUptoCardSaid : Prop := Claim7.holds Tryd.pinned (.plain (OpenSpec.upto fnPrepareSpec)) fnPrepareUptoCard

/-- THE SECOND FORM's CARD OF 'laws.FnPrepareNo'. -/
def fnPrepareNoUptoCard : Claim7 := { stood := { row := fnPrepareNoUptoRow, standIns := [], harness := (true, "55f7622c67687df08c9357d9add18f4270e102308dfffac50007b510443641d7"), looks := true }, kinds := [], alts := [], laidByText := true, laidKinds := [.sentinel, .sentinel], laidTests := true, laidLooks := .later }
def FnPrepareNoUptoCardSaid : Prop := Claim7.holds Tryd.pinned (.plain (OpenSpec.upto fnPrepareNoSpec)) fnPrepareNoUptoCard

/-- THE SECOND FORM's CARD OF 'laws.FnPrepareAgain'. -/
def fnPrepareAgainUptoCard : Claim7 := { stood := { row := fnPrepareAgainUptoRow, standIns := [], harness := (true, "55f7622c67687df08c9357d9add18f4270e102308dfffac50007b510443641d7"), looks := true }, kinds := [], alts := [], laidByText := true, laidKinds := [.sentinel, .sentinel], laidTests := true, laidLooks := .later }
def FnPrepareAgainUptoCardSaid : Prop := Claim7.holds Tryd.pinned (.plain (OpenSpec.upto fnPrepareAgainSpec)) fnPrepareAgainUptoCard

/-- THE SECOND FORM's CARD OF 'laws.FnPrepareTwice'. -/
def fnPrepareTwiceUptoCard : Claim7 := { stood := { row := fnPrepareTwiceUptoRow, standIns := [], harness := (true, "55f7622c67687df08c9357d9add18f4270e102308dfffac50007b510443641d7"), looks := true }, kinds := [], alts := [], laidByText := true, laidKinds := [.sentinel, .sentinel], laidTests := true, laidLooks := .later }
def FnPrepareTwiceUptoCardSaid : Prop := Claim7.holds Tryd.pinned (.plain (OpenSpec.upto fnPrepareTwiceSpec)) fnPrepareTwiceUptoCard

/-- THE SECOND FORM's CARD OF 'laws.FnPrepareFits'. -/
def fnPrepareFitsUptoCard : Claim7 := { stood := { row := fnPrepareFitsUptoRow, standIns := [], harness := (true, "55f7622c67687df08c9357d9add18f4270e102308dfffac50007b510443641d7"), looks := true }, kinds := [], alts := [], laidByText := true, laidKinds := [.sentinel, .sentinel], laidTests := true, laidLooks := .later }
def FnPrepareFitsUptoCardSaid : Prop := Claim7.holds Tryd.pinned (.plain (OpenSpec.upto fnPrepareFitsSpec)) fnPrepareFitsUptoCard

/-- THE SECOND FORM's CARD OF 'laws.FnDecide'. -/
def fnDecideUptoCard : Claim7 := { stood := { row := fnDecideUptoRow, standIns := [], harness := (true, "55f7622c67687df08c9357d9add18f4270e102308dfffac50007b510443641d7"), looks := true }, kinds := [], alts := [], laidByText := true, laidKinds := [.sentinel, .sentinel], laidTests := true, laidLooks := .later }
def FnDecideUptoCardSaid : Prop := Claim7.holds Tryd.pinned (.plain (OpenSpec.upto fnDecideSpec)) fnDecideUptoCard

/-- THE SECOND FORM's CARD OF 'laws.FnDecideAbort'. -/
def fnDecideAbortUptoCard : Claim7 := { stood := { row := fnDecideAbortUptoRow, standIns := [], harness := (true, "55f7622c67687df08c9357d9add18f4270e102308dfffac50007b510443641d7"), looks := true }, kinds := [], alts := [], laidByText := true, laidKinds := [.sentinel, .sentinel], laidTests := true, laidLooks := .later }
def FnDecideAbortUptoCardSaid : Prop := Claim7.holds Tryd.pinned (.plain (OpenSpec.upto fnDecideAbortSpec)) fnDecideAbortUptoCard

/-- THE SECOND FORM's CARD OF 'laws.FnDecideTwice'. -/
def fnDecideTwiceUptoCard : Claim7 := { stood := { row := fnDecideTwiceUptoRow, standIns := [], harness := (true, "55f7622c67687df08c9357d9add18f4270e102308dfffac50007b510443641d7"), looks := true }, kinds := [], alts := [], laidByText := true, laidKinds := [.sentinel, .sentinel], laidTests := true, laidLooks := .later }
def FnDecideTwiceUptoCardSaid : Prop := Claim7.holds Tryd.pinned (.plain (OpenSpec.upto fnDecideTwiceSpec)) fnDecideTwiceUptoCard

/-- THE SECOND FORM's CARD OF 'laws.FnDecideUnknown'. -/
def fnDecideUnknownUptoCard : Claim7 := { stood := { row := fnDecideUnknownUptoRow, standIns := [], harness := (true, "55f7622c67687df08c9357d9add18f4270e102308dfffac50007b510443641d7"), looks := true }, kinds := [], alts := [], laidByText := true, laidKinds := [.sentinel, .sentinel], laidTests := true, laidLooks := .later }
def FnDecideUnknownUptoCardSaid : Prop := Claim7.holds Tryd.pinned (.plain (OpenSpec.upto fnDecideUnknownSpec)) fnDecideUnknownUptoCard

/-- THE SECOND FORM's CARD OF 'laws.FnRecover'. -/
def fnRecoverUptoCard : Claim7 := { stood := { row := fnRecoverUptoRow, standIns := [], harness := (true, "55f7622c67687df08c9357d9add18f4270e102308dfffac50007b510443641d7"), looks := true }, kinds := [], alts := [], laidByText := true, laidKinds := [.sentinel, .sentinel], laidTests := true, laidLooks := .later }
def FnRecoverUptoCardSaid : Prop := Claim7.holds Tryd.pinned (.plain (OpenSpec.upto fnRecoverSpec)) fnRecoverUptoCard

/-- THE SECOND FORM's CARD OF 'laws.FnRecoverNew'. -/
def fnRecoverNewUptoCard : Claim7 := { stood := { row := fnRecoverNewUptoRow, standIns := [], harness := (true, "55f7622c67687df08c9357d9add18f4270e102308dfffac50007b510443641d7"), looks := true }, kinds := [], alts := [], laidByText := true, laidKinds := [.sentinel, .sentinel], laidTests := true, laidLooks := .later }
def FnRecoverNewUptoCardSaid : Prop := Claim7.holds Tryd.pinned (.plain (OpenSpec.upto fnRecoverNewSpec)) fnRecoverNewUptoCard

/-- THE SECOND FORM's CARD OF 'laws.FnCommitted'. -/
def fnCommittedUptoCard : Claim7 := { stood := { row := fnCommittedUptoRow, standIns := [], harness := (true, "55f7622c67687df08c9357d9add18f4270e102308dfffac50007b510443641d7"), looks := true }, kinds := [], alts := [], laidByText := true, laidKinds := [.sentinel, .sentinel], laidTests := true, laidLooks := .later }
def FnCommittedUptoCardSaid : Prop := Claim7.holds Tryd.pinned (.plain (OpenSpec.upto fnCommittedSpec)) fnCommittedUptoCard
end Rows
end Go.Proofs.YteeffchnbkkpfaaDoor
