/-
  DERIVED. GIVEN WITH THE SEED: THE CARDS: each row of YteaibflloeipaaaGreatDoorRows.lean that lists a variable, with what it lists TIED to the program's text (the seventh form; the later family's looks); each row that meets fmt, with fmt's text TOLD by the authors' own Lean function (tested against real Go, not proved from fmt's source: count such statements apart). THE CARD IS WHAT COUNTS. Prove the row's statement (the work); the ties are given (YteaibflloeipaaaGreatDoorTie.lean); close each card by the builder's one call (the guide's Derived/Test/ToyasCard.lean, 'card_holds'). Laid BY PROGRAM, IN A SANDBOX (cutbox-door.mjs). By AI agents, Wed Nov 11 2026. No macro, syntax, notation, axiom, sorry.
-/
import Derived.Test.YteaibflloeipaaaGreatDoorRows
import GoSem.ClaimSeven
namespace Go.Proofs.YteaibflloeipaaaGreatDoor
namespace Rows

/-- THE TIED CARD OF 'laws.FnReady'. -/
def fnReadyCard : Claim7 := { stood := { row := fnReadyRow, standIns := [], harness := (true, "c7a94a906aeeff0979f7edaea04ff6408b3943462ebb156d7ebad8b9d475b1a2"), looks := true }, kinds := [], alts := [], laidByText := true, laidKinds := [.sentinel, .sentinel], laidTests := true, laidLooks := .later }
def FnReadyCardSaid : Prop := Claim7.holds Tryz.pinned (.plain (OpenSpec.ofChange fnReadySpec)) fnReadyCard

/-- THE TIED CARD OF 'laws.FnSnapshot'. -/
def fnSnapshotCard : Claim7 := { stood := { row := fnSnapshotRow, standIns := [], harness := (true, "c7a94a906aeeff0979f7edaea04ff6408b3943462ebb156d7ebad8b9d475b1a2"), looks := true }, kinds := [], alts := [], laidByText := true, laidKinds := [.sentinel, .sentinel], laidTests := true, laidLooks := .later }
def FnSnapshotCardSaid : Prop := Claim7.holds Tryz.pinned (.plain (OpenSpec.ofChange fnSnapshotSpec)) fnSnapshotCard

/-- THE TIED CARD OF 'laws.FnSnapshotNone'. -/
def fnSnapshotNoneCard : Claim7 := { stood := { row := fnSnapshotNoneRow, standIns := [], harness := (true, "c7a94a906aeeff0979f7edaea04ff6408b3943462ebb156d7ebad8b9d475b1a2"), looks := true }, kinds := [], alts := [], laidByText := true, laidKinds := [.sentinel, .sentinel], laidTests := true, laidLooks := .later }
def FnSnapshotNoneCardSaid : Prop := Claim7.holds Tryz.pinned (.plain (OpenSpec.ofChange fnSnapshotNoneSpec)) fnSnapshotNoneCard

/-- THE TIED CARD OF 'laws.FnReadyMost'. -/
def fnReadyMostCard : Claim7 := { stood := { row := fnReadyMostRow, standIns := [], harness := (true, "c7a94a906aeeff0979f7edaea04ff6408b3943462ebb156d7ebad8b9d475b1a2"), looks := true }, kinds := [], alts := [], laidByText := true, laidKinds := [.sentinel, .sentinel], laidTests := true, laidLooks := .later }
def FnReadyMostCardSaid : Prop := Claim7.holds Tryz.pinned (.plain (OpenSpec.ofChange fnReadyMostSpec)) fnReadyMostCard

/-- THE TIED CARD OF 'laws.FnSnapshotLess'. -/
def fnSnapshotLessCard : Claim7 := { stood := { row := fnSnapshotLessRow, standIns := [], harness := (true, "c7a94a906aeeff0979f7edaea04ff6408b3943462ebb156d7ebad8b9d475b1a2"), looks := true }, kinds := [], alts := [], laidByText := true, laidKinds := [.sentinel, .sentinel], laidTests := true, laidLooks := .later }
def FnSnapshotLessCardSaid : Prop := Claim7.holds Tryz.pinned (.plain (OpenSpec.ofChange fnSnapshotLessSpec)) fnSnapshotLessCard

/-- THE TIED CARD OF 'laws.FnExactSnapshotReady'. -/
def fnExactSnapshotReadyCard : Claim7 := { stood := { row := fnExactSnapshotReadyRow, standIns := [], harness := (true, "c7a94a906aeeff0979f7edaea04ff6408b3943462ebb156d7ebad8b9d475b1a2"), looks := true }, kinds := [], alts := [], laidByText := true, laidKinds := [.sentinel, .sentinel], laidTests := true, laidLooks := .later }
def FnExactSnapshotReadyCardSaid : Prop := Claim7.holds Tryz.pinned (.plain (OpenSpec.ofChange fnExactSnapshotReadySpec)) fnExactSnapshotReadyCard

/-- THE TIED CARD OF 'laws.FnExactSnapshotRefs'. -/
def fnExactSnapshotRefsCard : Claim7 := { stood := { row := fnExactSnapshotRefsRow, standIns := [], harness := (true, "c7a94a906aeeff0979f7edaea04ff6408b3943462ebb156d7ebad8b9d475b1a2"), looks := true }, kinds := [], alts := [], laidByText := true, laidKinds := [.sentinel, .sentinel], laidTests := true, laidLooks := .later }
def FnExactSnapshotRefsCardSaid : Prop := Claim7.holds Tryz.pinned (.plain (OpenSpec.ofChange fnExactSnapshotRefsSpec)) fnExactSnapshotRefsCard

/-- THE SECOND FORM's CARD OF 'laws.FnReady'. -/
def fnReadyUptoCard : Claim7 := { stood := { row := fnReadyUptoRow, standIns := [], harness := (true, "c7a94a906aeeff0979f7edaea04ff6408b3943462ebb156d7ebad8b9d475b1a2"), looks := true }, kinds := [], alts := [], laidByText := true, laidKinds := [.sentinel, .sentinel], laidTests := true, laidLooks := .later }
def FnReadyUptoCardSaid : Prop := Claim7.holds Tryz.pinned (.plain (OpenSpec.upto fnReadySpec)) fnReadyUptoCard

/-- THE SECOND FORM's CARD OF 'laws.FnSnapshot'. -/
def fnSnapshotUptoCard : Claim7 := { stood := { row := fnSnapshotUptoRow, standIns := [], harness := (true, "c7a94a906aeeff0979f7edaea04ff6408b3943462ebb156d7ebad8b9d475b1a2"), looks := true }, kinds := [], alts := [], laidByText := true, laidKinds := [.sentinel, .sentinel], laidTests := true, laidLooks := .later }
def FnSnapshotUptoCardSaid : Prop := Claim7.holds Tryz.pinned (.plain (OpenSpec.upto fnSnapshotSpec)) fnSnapshotUptoCard

/-- THE SECOND FORM's CARD OF 'laws.FnSnapshotNone'. -/
def fnSnapshotNoneUptoCard : Claim7 := { stood := { row := fnSnapshotNoneUptoRow, standIns := [], harness := (true, "c7a94a906aeeff0979f7edaea04ff6408b3943462ebb156d7ebad8b9d475b1a2"), looks := true }, kinds := [], alts := [], laidByText := true, laidKinds := [.sentinel, .sentinel], laidTests := true, laidLooks := .later }
def FnSnapshotNoneUptoCardSaid : Prop := Claim7.holds Tryz.pinned (.plain (OpenSpec.upto fnSnapshotNoneSpec)) fnSnapshotNoneUptoCard

/-- THE SECOND FORM's CARD OF 'laws.FnReadyMost'. -/
def fnReadyMostUptoCard : Claim7 := { stood := { row := fnReadyMostUptoRow, standIns := [], harness := (true, "c7a94a906aeeff0979f7edaea04ff6408b3943462ebb156d7ebad8b9d475b1a2"), looks := true }, kinds := [], alts := [], laidByText := true, laidKinds := [.sentinel, .sentinel], laidTests := true, laidLooks := .later }
def FnReadyMostUptoCardSaid : Prop := Claim7.holds Tryz.pinned (.plain (OpenSpec.upto fnReadyMostSpec)) fnReadyMostUptoCard

/-- THE SECOND FORM's CARD OF 'laws.FnSnapshotLess'. -/
def fnSnapshotLessUptoCard : Claim7 := { stood := { row := fnSnapshotLessUptoRow, standIns := [], harness := (true, "c7a94a906aeeff0979f7edaea04ff6408b3943462ebb156d7ebad8b9d475b1a2"), looks := true }, kinds := [], alts := [], laidByText := true, laidKinds := [.sentinel, .sentinel], laidTests := true, laidLooks := .later }
def FnSnapshotLessUptoCardSaid : Prop := Claim7.holds Tryz.pinned (.plain (OpenSpec.upto fnSnapshotLessSpec)) fnSnapshotLessUptoCard

/-- THE SECOND FORM's CARD OF 'laws.FnExactSnapshotReady'. -/
def fnExactSnapshotReadyUptoCard : Claim7 := { stood := { row := fnExactSnapshotReadyUptoRow, standIns := [], harness := (true, "c7a94a906aeeff0979f7edaea04ff6408b3943462ebb156d7ebad8b9d475b1a2"), looks := true }, kinds := [], alts := [], laidByText := true, laidKinds := [.sentinel, .sentinel], laidTests := true, laidLooks := .later }
def FnExactSnapshotReadyUptoCardSaid : Prop := Claim7.holds Tryz.pinned (.plain (OpenSpec.upto fnExactSnapshotReadySpec)) fnExactSnapshotReadyUptoCard

/-- THE SECOND FORM's CARD OF 'laws.FnExactSnapshotRefs'. -/
def fnExactSnapshotRefsUptoCard : Claim7 := { stood := { row := fnExactSnapshotRefsUptoRow, standIns := [], harness := (true, "c7a94a906aeeff0979f7edaea04ff6408b3943462ebb156d7ebad8b9d475b1a2"), looks := true }, kinds := [], alts := [], laidByText := true, laidKinds := [.sentinel, .sentinel], laidTests := true, laidLooks := .later }
def FnExactSnapshotRefsUptoCardSaid : Prop := Claim7.holds Tryz.pinned (.plain (OpenSpec.upto fnExactSnapshotRefsSpec)) fnExactSnapshotRefsUptoCard
end Rows
end Go.Proofs.YteaibflloeipaaaGreatDoor
