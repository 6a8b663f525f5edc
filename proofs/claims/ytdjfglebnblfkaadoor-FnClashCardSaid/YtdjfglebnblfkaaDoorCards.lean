/-
  DERIVED. GIVEN WITH THE SEED: THE CARDS: each row of YtdjfglebnblfkaaDoorRows.lean that lists a variable, with what it lists TIED to the program's text (the seventh form; the later family's looks); each row that meets fmt, with fmt's text TOLD by the authors' own Lean function (tested against real Go, not proved from fmt's source: count such statements apart). THE CARD IS WHAT COUNTS. Prove the row's statement (the work); the ties are given (YtdjfglebnblfkaaDoorTie.lean); close each card by the builder's one call (the guide's Derived/Test/ToyasCard.lean, 'card_holds'). Laid BY PROGRAM, IN A SANDBOX (cutbox-door.mjs). By AI agents, Wed Nov 11 2026. No macro, syntax, notation, axiom, sorry.
-/
import Derived.Test.YtdjfglebnblfkaaDoorRows
import GoSem.ClaimSeven
namespace Go.Proofs.YtdjfglebnblfkaaDoor
namespace Rows

/-- THE TIED CARD OF 'laws.FnNameParts'. -/
def fnNamePartsCard : Claim7 := { stood := { row := fnNamePartsRow, standIns := [], harness := (true, "6e74a868ecceccd9828ccc3a82c6d21a6a044abd362be2b3156a68af7afd4255"), looks := false }, kinds := [], alts := [], laidByText := true, laidKinds := [.data, .pinned], laidTests := true, laidLooks := .later }
def FnNamePartsCardSaid : Prop := Claim7.holds Tryd.pinned (.plain (OpenSpec.ofChange fnNamePartsSpec)) fnNamePartsCard

/-- THE TIED CARD OF 'laws.FnNameBad'. -/
def fnNameBadCard : Claim7 := { stood := { row := fnNameBadRow, standIns := [], harness := (true, "6e74a868ecceccd9828ccc3a82c6d21a6a044abd362be2b3156a68af7afd4255"), looks := false }, kinds := [], alts := [], laidByText := true, laidKinds := [.data, .pinned], laidTests := true, laidLooks := .later }
def FnNameBadCardSaid : Prop := Claim7.holds Tryd.pinned (.plain (OpenSpec.ofChange fnNameBadSpec)) fnNameBadCard

/-- THE TIED CARD OF 'laws.FnNameLong'. -/
def fnNameLongCard : Claim7 := { stood := { row := fnNameLongRow, standIns := [], harness := (true, "6e74a868ecceccd9828ccc3a82c6d21a6a044abd362be2b3156a68af7afd4255"), looks := false }, kinds := [], alts := [], laidByText := true, laidKinds := [.data, .pinned], laidTests := true, laidLooks := .later }
def FnNameLongCardSaid : Prop := Claim7.holds Tryd.pinned (.plain (OpenSpec.ofChange fnNameLongSpec)) fnNameLongCard

/-- THE TIED CARD OF 'laws.FnMatchSelf'. -/
def fnMatchSelfCard : Claim7 := { stood := { row := fnMatchSelfRow, standIns := [], harness := (true, "6e74a868ecceccd9828ccc3a82c6d21a6a044abd362be2b3156a68af7afd4255"), looks := false }, kinds := [], alts := [], laidByText := true, laidKinds := [.data, .pinned], laidTests := true, laidLooks := .later }
def FnMatchSelfCardSaid : Prop := Claim7.holds Tryd.pinned (.plain (OpenSpec.ofChange fnMatchSelfSpec)) fnMatchSelfCard

/-- THE TIED CARD OF 'laws.FnMatchStar'. -/
def fnMatchStarCard : Claim7 := { stood := { row := fnMatchStarRow, standIns := [], harness := (true, "6e74a868ecceccd9828ccc3a82c6d21a6a044abd362be2b3156a68af7afd4255"), looks := false }, kinds := [], alts := [], laidByText := true, laidKinds := [.data, .pinned], laidTests := true, laidLooks := .later }
def FnMatchStarCardSaid : Prop := Claim7.holds Tryd.pinned (.plain (OpenSpec.ofChange fnMatchStarSpec)) fnMatchStarCard

/-- THE TIED CARD OF 'laws.FnMatchExact'. -/
def fnMatchExactCard : Claim7 := { stood := { row := fnMatchExactRow, standIns := [], harness := (true, "6e74a868ecceccd9828ccc3a82c6d21a6a044abd362be2b3156a68af7afd4255"), looks := false }, kinds := [], alts := [], laidByText := true, laidKinds := [.data, .pinned], laidTests := true, laidLooks := .later }
def FnMatchExactCardSaid : Prop := Claim7.holds Tryd.pinned (.plain (OpenSpec.ofChange fnMatchExactSpec)) fnMatchExactCard

/-- THE TIED CARD OF 'laws.FnMatchOne'. -/
def fnMatchOneCard : Claim7 := { stood := { row := fnMatchOneRow, standIns := [], harness := (true, "6e74a868ecceccd9828ccc3a82c6d21a6a044abd362be2b3156a68af7afd4255"), looks := false }, kinds := [], alts := [], laidByText := true, laidKinds := [.data, .pinned], laidTests := true, laidLooks := .later }
def FnMatchOneCardSaid : Prop := Claim7.holds Tryd.pinned (.plain (OpenSpec.ofChange fnMatchOneSpec)) fnMatchOneCard

/-- THE TIED CARD OF 'laws.FnClash'. -/
def fnClashCard : Claim7 := { stood := { row := fnClashRow, standIns := [], harness := (true, "6e74a868ecceccd9828ccc3a82c6d21a6a044abd362be2b3156a68af7afd4255"), looks := false }, kinds := [], alts := [], laidByText := true, laidKinds := [.data, .pinned], laidTests := true, laidLooks := .later }
def FnClashCardSaid : Prop := Claim7.holds Tryd.pinned (.plain (OpenSpec.ofChange fnClashSpec)) fnClashCard

/-- THE SECOND FORM's CARD OF 'laws.FnNameParts'. -/
def fnNamePartsUptoCard : Claim7 := { stood := { row := fnNamePartsUptoRow, standIns := [], harness := (true, "6e74a868ecceccd9828ccc3a82c6d21a6a044abd362be2b3156a68af7afd4255"), looks := false }, kinds := [], alts := [], laidByText := true, laidKinds := [.data, .pinned], laidTests := true, laidLooks := .later }
def FnNamePartsUptoCardSaid : Prop := Claim7.holds Tryd.pinned (.plain (OpenSpec.upto fnNamePartsSpec)) fnNamePartsUptoCard

/-- THE SECOND FORM's CARD OF 'laws.FnNameBad'. -/
def fnNameBadUptoCard : Claim7 := { stood := { row := fnNameBadUptoRow, standIns := [], harness := (true, "6e74a868ecceccd9828ccc3a82c6d21a6a044abd362be2b3156a68af7afd4255"), looks := false }, kinds := [], alts := [], laidByText := true, laidKinds := [.data, .pinned], laidTests := true, laidLooks := .later }
def FnNameBadUptoCardSaid : Prop := Claim7.holds Tryd.pinned (.plain (OpenSpec.upto fnNameBadSpec)) fnNameBadUptoCard

/-- THE SECOND FORM's CARD OF 'laws.FnNameLong'. -/
def fnNameLongUptoCard : Claim7 := { stood := { row := fnNameLongUptoRow, standIns := [], harness := (true, "6e74a868ecceccd9828ccc3a82c6d21a6a044abd362be2b3156a68af7afd4255"), looks := false }, kinds := [], alts := [], laidByText := true, laidKinds := [.data, .pinned], laidTests := true, laidLooks := .later }
def FnNameLongUptoCardSaid : Prop := Claim7.holds Tryd.pinned (.plain (OpenSpec.upto fnNameLongSpec)) fnNameLongUptoCard

/-- THE SECOND FORM's CARD OF 'laws.FnMatchSelf'. -/
def fnMatchSelfUptoCard : Claim7 := { stood := { row := fnMatchSelfUptoRow, standIns := [], harness := (true, "6e74a868ecceccd9828ccc3a82c6d21a6a044abd362be2b3156a68af7afd4255"), looks := false }, kinds := [], alts := [], laidByText := true, laidKinds := [.data, .pinned], laidTests := true, laidLooks := .later }
def FnMatchSelfUptoCardSaid : Prop := Claim7.holds Tryd.pinned (.plain (OpenSpec.upto fnMatchSelfSpec)) fnMatchSelfUptoCard

/-- THE SECOND FORM's CARD OF 'laws.FnMatchStar'. -/
def fnMatchStarUptoCard : Claim7 := { stood := { row := fnMatchStarUptoRow, standIns := [], harness := (true, "6e74a868ecceccd9828ccc3a82c6d21a6a044abd362be2b3156a68af7afd4255"), looks := false }, kinds := [], alts := [], laidByText := true, laidKinds := [.data, .pinned], laidTests := true, laidLooks := .later }
def FnMatchStarUptoCardSaid : Prop := Claim7.holds Tryd.pinned (.plain (OpenSpec.upto fnMatchStarSpec)) fnMatchStarUptoCard

/-- THE SECOND FORM's CARD OF 'laws.FnMatchExact'. -/
def fnMatchExactUptoCard : Claim7 := { stood := { row := fnMatchExactUptoRow, standIns := [], harness := (true, "6e74a868ecceccd9828ccc3a82c6d21a6a044abd362be2b3156a68af7afd4255"), looks := false }, kinds := [], alts := [], laidByText := true, laidKinds := [.data, .pinned], laidTests := true, laidLooks := .later }
def FnMatchExactUptoCardSaid : Prop := Claim7.holds Tryd.pinned (.plain (OpenSpec.upto fnMatchExactSpec)) fnMatchExactUptoCard

/-- THE SECOND FORM's CARD OF 'laws.FnMatchOne'. -/
def fnMatchOneUptoCard : Claim7 := { stood := { row := fnMatchOneUptoRow, standIns := [], harness := (true, "6e74a868ecceccd9828ccc3a82c6d21a6a044abd362be2b3156a68af7afd4255"), looks := false }, kinds := [], alts := [], laidByText := true, laidKinds := [.data, .pinned], laidTests := true, laidLooks := .later }
def FnMatchOneUptoCardSaid : Prop := Claim7.holds Tryd.pinned (.plain (OpenSpec.upto fnMatchOneSpec)) fnMatchOneUptoCard

/-- THE SECOND FORM's CARD OF 'laws.FnClash'. -/
def fnClashUptoCard : Claim7 := { stood := { row := fnClashUptoRow, standIns := [], harness := (true, "6e74a868ecceccd9828ccc3a82c6d21a6a044abd362be2b3156a68af7afd4255"), looks := false }, kinds := [], alts := [], laidByText := true, laidKinds := [.data, .pinned], laidTests := true, laidLooks := .later }
def FnClashUptoCardSaid : Prop := Claim7.holds Tryd.pinned (.plain (OpenSpec.upto fnClashSpec)) fnClashUptoCard
end Rows
end Go.Proofs.YtdjfglebnblfkaaDoor
