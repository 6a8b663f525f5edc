/-
  DERIVED. GIVEN WITH THE SEED: THE CARDS: each row of YthmnaljncapmeaaDoorRows.lean that lists a variable, with what it lists TIED to the program's text (the seventh form; the later family's looks); each row that meets fmt, with fmt's text TOLD by the authors' own Lean function (tested against real Go, not proved from fmt's source: count such statements apart). THE CARD IS WHAT COUNTS. Prove the row's statement (the work); the ties are given (YthmnaljncapmeaaDoorTie.lean); close each card by the builder's one call (the guide's Derived/Test/ToyasCard.lean, 'card_holds'). Laid BY PROGRAM, IN A SANDBOX (cutbox-door.mjs). By AI agents, Wed Nov 11 2026. No macro, syntax, notation, axiom, sorry.
-/
import Derived.Test.YthmnaljncapmeaaDoorRows
import GoSem.ClaimSeven
namespace Go.Proofs.YthmnaljncapmeaaDoor
namespace Rows

/-- THE TIED CARD OF 'laws.FnPrepare'. -/
def fnPrepareCard : Claim7 := { stood := { row := fnPrepareRow, standIns := [], harness := (true, "2f32976ed77310cd14d1b0465a4d34f3adbc3daec3bc99f9d02b2933933131b5"), looks := true }, kinds := [], alts := [], laidByText := true, laidKinds := [.sentinel, .sentinel], laidTests := true, laidLooks := .later }
def FnPrepareCardSaid : Prop := Claim7.holds Tryd.pinned (.plain (OpenSpec.ofChange fnPrepareSpec)) fnPrepareCard

/-- THE TIED CARD OF 'laws.FnPrepareNo'. -/
def fnPrepareNoCard : Claim7 := { stood := { row := fnPrepareNoRow, standIns := [], harness := (true, "2f32976ed77310cd14d1b0465a4d34f3adbc3daec3bc99f9d02b2933933131b5"), looks := true }, kinds := [], alts := [], laidByText := true, laidKinds := [.sentinel, .sentinel], laidTests := true, laidLooks := .later }
def FnPrepareNoCardSaid : Prop := Claim7.holds Tryd.pinned (.plain (OpenSpec.ofChange fnPrepareNoSpec)) fnPrepareNoCard

/-- THE TIED CARD OF 'laws.FnPrepareAgain'. -/
def fnPrepareAgainCard : Claim7 := { stood := { row := fnPrepareAgainRow, standIns := [], harness := (true, "2f32976ed77310cd14d1b0465a4d34f3adbc3daec3bc99f9d02b2933933131b5"), looks := true }, kinds := [], alts := [], laidByText := true, laidKinds := [.sentinel, .sentinel], laidTests := true, laidLooks := .later }
def FnPrepareAgainCardSaid : Prop := Claim7.holds Tryd.pinned (.plain (OpenSpec.ofChange fnPrepareAgainSpec)) fnPrepareAgainCard

/-- THE TIED CARD OF 'laws.FnPrepareTwice'. -/
def fnPrepareTwiceCard : Claim7 := { stood := { row := fnPrepareTwiceRow, standIns := [], harness := (true, "2f32976ed77310cd14d1b0465a4d34f3adbc3daec3bc99f9d02b2933933131b5"), looks := true }, kinds := [], alts := [], laidByText := true, laidKinds := [.sentinel, .sentinel], laidTests := true, laidLooks := .later }
def FnPrepareTwiceCardSaid : Prop := Claim7.holds Tryd.pinned (.plain (OpenSpec.ofChange fnPrepareTwiceSpec)) fnPrepareTwiceCard

/-- THE TIED CARD OF 'laws.FnPrepareFits'. -/
def fnPrepareFitsCard : Claim7 := { stood := { row := fnPrepareFitsRow, standIns := [], harness := (true, "2f32976ed77310cd14d1b0465a4d34f3adbc3daec3bc99f9d02b2933933131b5"), looks := true }, kinds := [], alts := [], laidByText := true, laidKinds := [.sentinel, .sentinel], laidTests := true, laidLooks := .later }
def FnPrepareFitsCardSaid : Prop := Claim7.holds Tryd.pinned (.plain (OpenSpec.ofChange fnPrepareFitsSpec)) fnPrepareFitsCard

/-- THE TIED CARD OF 'laws.FnDecide'. -/
def fnDecideCard : Claim7 := { stood := { row := fnDecideRow, standIns := [], harness := (true, "2f32976ed77310cd14d1b0465a4d34f3adbc3daec3bc99f9d02b2933933131b5"), looks := true }, kinds := [], alts := [], laidByText := true, laidKinds := [.sentinel, .sentinel], laidTests := true, laidLooks := .later }
def FnDecideCardSaid : Prop := Claim7.holds Tryd.pinned (.plain (OpenSpec.ofChange fnDecideSpec)) fnDecideCard

/-- THE TIED CARD OF 'laws.FnDecideAbort'. -/
def fnDecideAbortCard : Claim7 := { stood := { row := fnDecideAbortRow, standIns := [], harness := (true, "2f32976ed77310cd14d1b0465a4d34f3adbc3daec3bc99f9d02b2933933131b5"), looks := true }, kinds := [], alts := [], laidByText := true, laidKinds := [.sentinel, .sentinel], laidTests := true, laidLooks := .later }
def FnDecideAbortCardSaid : Prop := Claim7.holds Tryd.pinned (.plain (OpenSpec.ofChange fnDecideAbortSpec)) fnDecideAbortCard

/-- THE TIED CARD OF 'laws.FnDecideTwice'. -/
def fnDecideTwiceCard : Claim7 := { stood := { row := fnDecideTwiceRow, standIns := [], harness := (true, "2f32976ed77310cd14d1b0465a4d34f3adbc3daec3bc99f9d02b2933933131b5"), looks := true }, kinds := [], alts := [], laidByText := true, laidKinds := [.sentinel, .sentinel], laidTests := true, laidLooks := .later }
def FnDecideTwiceCardSaid : Prop := Claim7.holds Tryd.pinned (.plain (OpenSpec.ofChange fnDecideTwiceSpec)) fnDecideTwiceCard

/-- THE TIED CARD OF 'laws.FnDecideUnknown'. -/
def fnDecideUnknownCard : Claim7 := { stood := { row := fnDecideUnknownRow, standIns := [], harness := (true, "2f32976ed77310cd14d1b0465a4d34f3adbc3daec3bc99f9d02b2933933131b5"), looks := true }, kinds := [], alts := [], laidByText := true, laidKinds := [.sentinel, .sentinel], laidTests := true, laidLooks := .later }
def FnDecideUnknownCardSaid : Prop := Claim7.holds Tryd.pinned (.plain (OpenSpec.ofChange fnDecideUnknownSpec)) fnDecideUnknownCard

/-- THE TIED CARD OF 'laws.FnPrepareOther'. -/
def fnPrepareOtherCard : Claim7 := { stood := { row := fnPrepareOtherRow, standIns := [], harness := (true, "2f32976ed77310cd14d1b0465a4d34f3adbc3daec3bc99f9d02b2933933131b5"), looks := true }, kinds := [], alts := [], laidByText := true, laidKinds := [.sentinel, .sentinel], laidTests := true, laidLooks := .later }
def FnPrepareOtherCardSaid : Prop := Claim7.holds Tryd.pinned (.plain (OpenSpec.ofChange fnPrepareOtherSpec)) fnPrepareOtherCard

/-- THE TIED CARD OF 'laws.FnDecideOther'. -/
def fnDecideOtherCard : Claim7 := { stood := { row := fnDecideOtherRow, standIns := [], harness := (true, "2f32976ed77310cd14d1b0465a4d34f3adbc3daec3bc99f9d02b2933933131b5"), looks := true }, kinds := [], alts := [], laidByText := true, laidKinds := [.sentinel, .sentinel], laidTests := true, laidLooks := .later }
def FnDecideOtherCardSaid : Prop := Claim7.holds Tryd.pinned (.plain (OpenSpec.ofChange fnDecideOtherSpec)) fnDecideOtherCard

/-- THE TIED CARD OF 'laws.FnLocksPrepared'. -/
def fnLocksPreparedCard : Claim7 := { stood := { row := fnLocksPreparedRow, standIns := [], harness := (true, "2f32976ed77310cd14d1b0465a4d34f3adbc3daec3bc99f9d02b2933933131b5"), looks := true }, kinds := [], alts := [], laidByText := true, laidKinds := [.sentinel, .sentinel], laidTests := true, laidLooks := .later }
def FnLocksPreparedCardSaid : Prop := Claim7.holds Tryd.pinned (.plain (OpenSpec.ofChange fnLocksPreparedSpec)) fnLocksPreparedCard

/-- THE SECOND FORM's CARD OF 'laws.FnPrepare'. -/
def fnPrepareUptoCard : Claim7 := { stood := { row := fnPrepareUptoRow, standIns := [], harness := (true, "2f32976ed77310cd14d1b0465a4d34f3adbc3daec3bc99f9d02b2933933131b5"), looks := true }, kinds := [], alts := [], laidByText := true, laidKinds := [.sentinel, .sentinel], laidTests := true, laidLooks := .later }
def FnPrepareUptoCardSaid : Prop := Claim7.holds Tryd.pinned (.plain (OpenSpec.upto fnPrepareSpec)) fnPrepareUptoCard

/-- THE SECOND FORM's CARD OF 'laws.FnPrepareNo'. -/
def fnPrepareNoUptoCard : Claim7 := { stood := { row := fnPrepareNoUptoRow, standIns := [], harness := (true, "2f32976ed77310cd14d1b0465a4d34f3adbc3daec3bc99f9d02b2933933131b5"), looks := true }, kinds := [], alts := [], laidByText := true, laidKinds := [.sentinel, .sentinel], laidTests := true, laidLooks := .later }
def FnPrepareNoUptoCardSaid : Prop := Claim7.holds Tryd.pinned (.plain (OpenSpec.upto fnPrepareNoSpec)) fnPrepareNoUptoCard

/-- THE SECOND FORM's CARD OF 'laws.FnPrepareAgain'. -/
def fnPrepareAgainUptoCard : Claim7 := { stood := { row := fnPrepareAgainUptoRow, standIns := [], harness := (true, "2f32976ed77310cd14d1b0465a4d34f3adbc3daec3bc99f9d02b2933933131b5"), looks := true }, kinds := [], alts := [], laidByText := true, laidKinds := [.sentinel, .sentinel], laidTests := true, laidLooks := .later }
def FnPrepareAgainUptoCardSaid : Prop := Claim7.holds Tryd.pinned (.plain (OpenSpec.upto fnPrepareAgainSpec)) fnPrepareAgainUptoCard

/-- THE SECOND FORM's CARD OF 'laws.FnPrepareTwice'. -/
def fnPrepareTwiceUptoCard : Claim7 := { stood := { row := fnPrepareTwiceUptoRow, standIns := [], harness := (true, "2f32976ed77310cd14d1b0465a4d34f3adbc3daec3bc99f9d02b2933933131b5"), looks := true }, kinds := [], alts := [], laidByText := true, laidKinds := [.sentinel, .sentinel], laidTests := true, laidLooks := .later }
def FnPrepareTwiceUptoCardSaid : Prop := Claim7.holds Tryd.pinned (.plain (OpenSpec.upto fnPrepareTwiceSpec)) fnPrepareTwiceUptoCard

/-- THE SECOND FORM's CARD OF 'laws.FnPrepareFits'. -/
def fnPrepareFitsUptoCard : Claim7 := { stood := { row := fnPrepareFitsUptoRow, standIns := [], harness := (true, "2f32976ed77310cd14d1b0465a4d34f3adbc3daec3bc99f9d02b2933933131b5"), looks := true }, kinds := [], alts := [], laidByText := true, laidKinds := [.sentinel, .sentinel], laidTests := true, laidLooks := .later }
def FnPrepareFitsUptoCardSaid : Prop := Claim7.holds Tryd.pinned (.plain (OpenSpec.upto fnPrepareFitsSpec)) fnPrepareFitsUptoCard

/-- THE SECOND FORM's CARD OF 'laws.FnDecide'. -/
def fnDecideUptoCard : Claim7 := { stood := { row := fnDecideUptoRow, standIns := [], harness := (true, "2f32976ed77310cd14d1b0465a4d34f3adbc3daec3bc99f9d02b2933933131b5"), looks := true }, kinds := [], alts := [], laidByText := true, laidKinds := [.sentinel, .sentinel], laidTests := true, laidLooks := .later }
def FnDecideUptoCardSaid : Prop := Claim7.holds Tryd.pinned (.plain (OpenSpec.upto fnDecideSpec)) fnDecideUptoCard

/-- THE SECOND FORM's CARD OF 'laws.FnDecideAbort'. -/
def fnDecideAbortUptoCard : Claim7 := { stood := { row := fnDecideAbortUptoRow, standIns := [], harness := (true, "2f32976ed77310cd14d1b0465a4d34f3adbc3daec3bc99f9d02b2933933131b5"), looks := true }, kinds := [], alts := [], laidByText := true, laidKinds := [.sentinel, .sentinel], laidTests := true, laidLooks := .later }
def FnDecideAbortUptoCardSaid : Prop := Claim7.holds Tryd.pinned (.plain (OpenSpec.upto fnDecideAbortSpec)) fnDecideAbortUptoCard

/-- THE SECOND FORM's CARD OF 'laws.FnDecideTwice'. -/
def fnDecideTwiceUptoCard : Claim7 := { stood := { row := fnDecideTwiceUptoRow, standIns := [], harness := (true, "2f32976ed77310cd14d1b0465a4d34f3adbc3daec3bc99f9d02b2933933131b5"), looks := true }, kinds := [], alts := [], laidByText := true, laidKinds := [.sentinel, .sentinel], laidTests := true, laidLooks := .later }
def FnDecideTwiceUptoCardSaid : Prop := Claim7.holds Tryd.pinned (.plain (OpenSpec.upto fnDecideTwiceSpec)) fnDecideTwiceUptoCard

/-- THE SECOND FORM's CARD OF 'laws.FnDecideUnknown'. -/
def fnDecideUnknownUptoCard : Claim7 := { stood := { row := fnDecideUnknownUptoRow, standIns := [], harness := (true, "2f32976ed77310cd14d1b0465a4d34f3adbc3daec3bc99f9d02b2933933131b5"), looks := true }, kinds := [], alts := [], laidByText := true, laidKinds := [.sentinel, .sentinel], laidTests := true, laidLooks := .later }
def FnDecideUnknownUptoCardSaid : Prop := Claim7.holds Tryd.pinned (.plain (OpenSpec.upto fnDecideUnknownSpec)) fnDecideUnknownUptoCard

/-- THE SECOND FORM's CARD OF 'laws.FnPrepareOther'. -/
def fnPrepareOtherUptoCard : Claim7 := { stood := { row := fnPrepareOtherUptoRow, standIns := [], harness := (true, "2f32976ed77310cd14d1b0465a4d34f3adbc3daec3bc99f9d02b2933933131b5"), looks := true }, kinds := [], alts := [], laidByText := true, laidKinds := [.sentinel, .sentinel], laidTests := true, laidLooks := .later }
def FnPrepareOtherUptoCardSaid : Prop := Claim7.holds Tryd.pinned (.plain (OpenSpec.upto fnPrepareOtherSpec)) fnPrepareOtherUptoCard

/-- THE SECOND FORM's CARD OF 'laws.FnDecideOther'. -/
def fnDecideOtherUptoCard : Claim7 := { stood := { row := fnDecideOtherUptoRow, standIns := [], harness := (true, "2f32976ed77310cd14d1b0465a4d34f3adbc3daec3bc99f9d02b2933933131b5"), looks := true }, kinds := [], alts := [], laidByText := true, laidKinds := [.sentinel, .sentinel], laidTests := true, laidLooks := .later }
def FnDecideOtherUptoCardSaid : Prop := Claim7.holds Tryd.pinned (.plain (OpenSpec.upto fnDecideOtherSpec)) fnDecideOtherUptoCard

/-- THE SECOND FORM's CARD OF 'laws.FnLocksPrepared'. -/
def fnLocksPreparedUptoCard : Claim7 := { stood := { row := fnLocksPreparedUptoRow, standIns := [], harness := (true, "2f32976ed77310cd14d1b0465a4d34f3adbc3daec3bc99f9d02b2933933131b5"), looks := true }, kinds := [], alts := [], laidByText := true, laidKinds := [.sentinel, .sentinel], laidTests := true, laidLooks := .later }
def FnLocksPreparedUptoCardSaid : Prop := Claim7.holds Tryd.pinned (.plain (OpenSpec.upto fnLocksPreparedSpec)) fnLocksPreparedUptoCard
end Rows
end Go.Proofs.YthmnaljncapmeaaDoor
