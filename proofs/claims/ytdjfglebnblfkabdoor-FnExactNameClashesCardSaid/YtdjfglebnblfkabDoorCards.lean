/-
  DERIVED. GIVEN WITH THE SEED: THE CARDS: each row of YtdjfglebnblfkabDoorRows.lean that lists a variable, with what it lists TIED to the program's text (the seventh form; the later family's looks); each row that meets fmt, with fmt's text TOLD by the authors' own Lean function (tested against real Go, not proved from fmt's source: count such statements apart). THE CARD IS WHAT COUNTS. Prove the row's statement (the work); the ties are given (YtdjfglebnblfkabDoorTie.lean); close each card by the builder's one call (the guide's Derived/Test/ToyasCard.lean, 'card_holds'). Laid BY PROGRAM, IN A SANDBOX (cutbox-door.mjs). By AI agents, Wed Nov 11 2026. No macro, syntax, notation, axiom, sorry.
-/
import Derived.Test.YtdjfglebnblfkabDoorRows
import GoSem.ClaimSeven
namespace Go.Proofs.YtdjfglebnblfkabDoor
namespace Rows

/-- THE TIED CARD OF 'laws.FnClashParts'. -/
def fnClashPartsCard : Claim7 := { stood := { row := fnClashPartsRow, standIns := [], harness := (true, "2fafbd8083146a3347ef027e223b016d0a0c5853da543cd4b0116457e9486279"), looks := false }, kinds := [], alts := [], laidByText := true, laidKinds := [.data, .pinned], laidTests := true, laidLooks := .later }
def FnClashPartsCardSaid : Prop := Claim7.holds Tryd.pinned (.plain (OpenSpec.ofChange fnClashPartsSpec)) fnClashPartsCard

/-- THE TIED CARD OF 'laws.FnClashNot'. -/
def fnClashNotCard : Claim7 := { stood := { row := fnClashNotRow, standIns := [], harness := (true, "2fafbd8083146a3347ef027e223b016d0a0c5853da543cd4b0116457e9486279"), looks := false }, kinds := [], alts := [], laidByText := true, laidKinds := [.data, .pinned], laidTests := true, laidLooks := .later }
def FnClashNotCardSaid : Prop := Claim7.holds Tryd.pinned (.plain (OpenSpec.ofChange fnClashNotSpec)) fnClashNotCard

/-- THE TIED CARD OF 'laws.FnPartsCount'. -/
def fnPartsCountCard : Claim7 := { stood := { row := fnPartsCountRow, standIns := [], harness := (true, "2fafbd8083146a3347ef027e223b016d0a0c5853da543cd4b0116457e9486279"), looks := false }, kinds := [], alts := [], laidByText := true, laidKinds := [.data, .pinned], laidTests := true, laidLooks := .later }
def FnPartsCountCardSaid : Prop := Claim7.holds Tryd.pinned (.plain (OpenSpec.ofChange fnPartsCountSpec)) fnPartsCountCard

/-- THE TIED CARD OF 'laws.FnExactNameValid'. -/
def fnExactNameValidCard : Claim7 := { stood := { row := fnExactNameValidRow, standIns := [], harness := (true, "2fafbd8083146a3347ef027e223b016d0a0c5853da543cd4b0116457e9486279"), looks := false }, kinds := [], alts := [], laidByText := true, laidKinds := [.data, .pinned], laidTests := true, laidLooks := .later }
def FnExactNameValidCardSaid : Prop := Claim7.holds Tryd.pinned (.plain (OpenSpec.ofChange fnExactNameValidSpec)) fnExactNameValidCard

/-- THE TIED CARD OF 'laws.FnExactNameParts'. -/
def fnExactNamePartsCard : Claim7 := { stood := { row := fnExactNamePartsRow, standIns := [], harness := (true, "2fafbd8083146a3347ef027e223b016d0a0c5853da543cd4b0116457e9486279"), looks := false }, kinds := [], alts := [], laidByText := true, laidKinds := [.data, .pinned], laidTests := true, laidLooks := .later }
def FnExactNamePartsCardSaid : Prop := Claim7.holds Tryd.pinned (.plain (OpenSpec.ofChange fnExactNamePartsSpec)) fnExactNamePartsCard

/-- THE TIED CARD OF 'laws.FnExactNameMatches'. -/
def fnExactNameMatchesCard : Claim7 := { stood := { row := fnExactNameMatchesRow, standIns := [], harness := (true, "2fafbd8083146a3347ef027e223b016d0a0c5853da543cd4b0116457e9486279"), looks := false }, kinds := [], alts := [], laidByText := true, laidKinds := [.data, .pinned], laidTests := true, laidLooks := .later }
def FnExactNameMatchesCardSaid : Prop := Claim7.holds Tryd.pinned (.plain (OpenSpec.ofChange fnExactNameMatchesSpec)) fnExactNameMatchesCard

/-- THE TIED CARD OF 'laws.FnExactNameClashes'. -/
def fnExactNameClashesCard : Claim7 := { stood := { row := fnExactNameClashesRow, standIns := [], harness := (true, "2fafbd8083146a3347ef027e223b016d0a0c5853da543cd4b0116457e9486279"), looks := false }, kinds := [], alts := [], laidByText := true, laidKinds := [.data, .pinned], laidTests := true, laidLooks := .later }
def FnExactNameClashesCardSaid : Prop := Claim7.holds Tryd.pinned (.plain (OpenSpec.ofChange fnExactNameClashesSpec)) fnExactNameClashesCard

/-- THE SECOND FORM's CARD OF 'laws.FnClashParts'. -/
def fnClashPartsUptoCard : Claim7 := { stood := { row := fnClashPartsUptoRow, standIns := [], harness := (true, "2fafbd8083146a3347ef027e223b016d0a0c5853da543cd4b0116457e9486279"), looks := false }, kinds := [], alts := [], laidByText := true, laidKinds := [.data, .pinned], laidTests := true, laidLooks := .later }
def FnClashPartsUptoCardSaid : Prop := Claim7.holds Tryd.pinned (.plain (OpenSpec.upto fnClashPartsSpec)) fnClashPartsUptoCard

/-- THE SECOND FORM's CARD OF 'laws.FnClashNot'. -/
def fnClashNotUptoCard : Claim7 := { stood := { row := fnClashNotUptoRow, standIns := [], harness := (true, "2fafbd8083146a3347ef027e223b016d0a0c5853da543cd4b0116457e9486279"), looks := false }, kinds := [], alts := [], laidByText := true, laidKinds := [.data, .pinned], laidTests := true, laidLooks := .later }
def FnClashNotUptoCardSaid : Prop := Claim7.holds Tryd.pinned (.plain (OpenSpec.upto fnClashNotSpec)) fnClashNotUptoCard

/-- THE SECOND FORM's CARD OF 'laws.FnPartsCount'. -/
def fnPartsCountUptoCard : Claim7 := { stood := { row := fnPartsCountUptoRow, standIns := [], harness := (true, "2fafbd8083146a3347ef027e223b016d0a0c5853da543cd4b0116457e9486279"), looks := false }, kinds := [], alts := [], laidByText := true, laidKinds := [.data, .pinned], laidTests := true, laidLooks := .later }
def FnPartsCountUptoCardSaid : Prop := Claim7.holds Tryd.pinned (.plain (OpenSpec.upto fnPartsCountSpec)) fnPartsCountUptoCard

/-- THE SECOND FORM's CARD OF 'laws.FnExactNameValid'. -/
def fnExactNameValidUptoCard : Claim7 := { stood := { row := fnExactNameValidUptoRow, standIns := [], harness := (true, "2fafbd8083146a3347ef027e223b016d0a0c5853da543cd4b0116457e9486279"), looks := false }, kinds := [], alts := [], laidByText := true, laidKinds := [.data, .pinned], laidTests := true, laidLooks := .later }
def FnExactNameValidUptoCardSaid : Prop := Claim7.holds Tryd.pinned (.plain (OpenSpec.upto fnExactNameValidSpec)) fnExactNameValidUptoCard

/-- THE SECOND FORM's CARD OF 'laws.FnExactNameParts'. -/
def fnExactNamePartsUptoCard : Claim7 := { stood := { row := fnExactNamePartsUptoRow, standIns := [], harness := (true, "2fafbd8083146a3347ef027e223b016d0a0c5853da543cd4b0116457e9486279"), looks := false }, kinds := [], alts := [], laidByText := true, laidKinds := [.data, .pinned], laidTests := true, laidLooks := .later }
def FnExactNamePartsUptoCardSaid : Prop := Claim7.holds Tryd.pinned (.plain (OpenSpec.upto fnExactNamePartsSpec)) fnExactNamePartsUptoCard

/-- THE SECOND FORM's CARD OF 'laws.FnExactNameMatches'. -/
def fnExactNameMatchesUptoCard : Claim7 := { stood := { row := fnExactNameMatchesUptoRow, standIns := [], harness := (true, "2fafbd8083146a3347ef027e223b016d0a0c5853da543cd4b0116457e9486279"), looks := false }, kinds := [], alts := [], laidByText := true, laidKinds := [.data, .pinned], laidTests := true, laidLooks := .later }
def FnExactNameMatchesUptoCardSaid : Prop := Claim7.holds Tryd.pinned (.plain (OpenSpec.upto fnExactNameMatchesSpec)) fnExactNameMatchesUptoCard

/-- THE SECOND FORM's CARD OF 'laws.FnExactNameClashes'. -/
def fnExactNameClashesUptoCard : Claim7 := { stood := { row := fnExactNameClashesUptoRow, standIns := [], harness := (true, "2fafbd8083146a3347ef027e223b016d0a0c5853da543cd4b0116457e9486279"), looks := false }, kinds := [], alts := [], laidByText := true, laidKinds := [.data, .pinned], laidTests := true, laidLooks := .later }
def FnExactNameClashesUptoCardSaid : Prop := Claim7.holds Tryd.pinned (.plain (OpenSpec.upto fnExactNameClashesSpec)) fnExactNameClashesUptoCard
end Rows
end Go.Proofs.YtdjfglebnblfkabDoor
