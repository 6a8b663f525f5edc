/-
  DERIVED. GIVEN WITH THE SEED: THE CARDS: each row of YteeffchnbkkpfabDoorRows.lean that lists a variable, with what it lists TIED to the program's text (the seventh form; the later family's looks); each row that meets fmt, with fmt's text TOLD by the authors' own Lean function (tested against real Go, not proved from fmt's source: count such statements apart). THE CARD IS WHAT COUNTS. Prove the row's statement (the work); the ties are given (YteeffchnbkkpfabDoorTie.lean); close each card by the builder's one call (the guide's Derived/Test/ToyasCard.lean, 'card_holds'). Laid BY PROGRAM, IN A SANDBOX (cutbox-door.mjs). By AI agents, Wed Nov 11 2026. No macro, syntax, notation, axiom, sorry.
-/
import Derived.Test.YteeffchnbkkpfabDoorRows
import GoSem.ClaimSeven
namespace Go.Proofs.YteeffchnbkkpfabDoor
namespace Rows

/-- THE TIED CARD OF 'laws.FnCommittedRefs'. -/
def fnCommittedRefsCard : Claim7 := { stood := { row := fnCommittedRefsRow, standIns := [], harness := (true, "29afb42e1f74ce9d849afc2cb55bd5f0c863af7ffa4976894f222d54dd871dbf"), looks := true }, kinds := [], alts := [], laidByText := true, laidKinds := [.sentinel, .sentinel], laidTests := true, laidLooks := .later }
def FnCommittedRefsCardSaid : Prop := Claim7.holds Tryd.pinned (.plain (OpenSpec.ofChange fnCommittedRefsSpec)) fnCommittedRefsCard

/-- THE TIED CARD OF 'laws.FnPrepareOther'. -/
def fnPrepareOtherCard : Claim7 := { stood := { row := fnPrepareOtherRow, standIns := [], harness := (true, "29afb42e1f74ce9d849afc2cb55bd5f0c863af7ffa4976894f222d54dd871dbf"), looks := true }, kinds := [], alts := [], laidByText := true, laidKinds := [.sentinel, .sentinel], laidTests := true, laidLooks := .later }
def FnPrepareOtherCardSaid : Prop := Claim7.holds Tryd.pinned (.plain (OpenSpec.ofChange fnPrepareOtherSpec)) fnPrepareOtherCard

/-- THE TIED CARD OF 'laws.FnDecideOther'. -/
def fnDecideOtherCard : Claim7 := { stood := { row := fnDecideOtherRow, standIns := [], harness := (true, "29afb42e1f74ce9d849afc2cb55bd5f0c863af7ffa4976894f222d54dd871dbf"), looks := true }, kinds := [], alts := [], laidByText := true, laidKinds := [.sentinel, .sentinel], laidTests := true, laidLooks := .later }
def FnDecideOtherCardSaid : Prop := Claim7.holds Tryd.pinned (.plain (OpenSpec.ofChange fnDecideOtherSpec)) fnDecideOtherCard

/-- THE TIED CARD OF 'laws.FnLocksPrepared'. -/
def fnLocksPreparedCard : Claim7 := { stood := { row := fnLocksPreparedRow, standIns := [], harness := (true, "29afb42e1f74ce9d849afc2cb55bd5f0c863af7ffa4976894f222d54dd871dbf"), looks := true }, kinds := [], alts := [], laidByText := true, laidKinds := [.sentinel, .sentinel], laidTests := true, laidLooks := .later }
def FnLocksPreparedCardSaid : Prop := Claim7.holds Tryd.pinned (.plain (OpenSpec.ofChange fnLocksPreparedSpec)) fnLocksPreparedCard

/-- THE TIED CARD OF 'laws.FnCommittedAdd'. -/
def fnCommittedAddCard : Claim7 := { stood := { row := fnCommittedAddRow, standIns := [], harness := (true, "29afb42e1f74ce9d849afc2cb55bd5f0c863af7ffa4976894f222d54dd871dbf"), looks := true }, kinds := [], alts := [], laidByText := true, laidKinds := [.sentinel, .sentinel], laidTests := true, laidLooks := .later }
def FnCommittedAddCardSaid : Prop := Claim7.holds Tryd.pinned (.plain (OpenSpec.ofChange fnCommittedAddSpec)) fnCommittedAddCard

/-- THE TIED CARD OF 'laws.FnExactShardValid'. -/
def fnExactShardValidCard : Claim7 := { stood := { row := fnExactShardValidRow, standIns := [], harness := (true, "29afb42e1f74ce9d849afc2cb55bd5f0c863af7ffa4976894f222d54dd871dbf"), looks := true }, kinds := [], alts := [], laidByText := true, laidKinds := [.sentinel, .sentinel], laidTests := true, laidLooks := .later }
def FnExactShardValidCardSaid : Prop := Claim7.holds Tryd.pinned (.plain (OpenSpec.ofChange fnExactShardValidSpec)) fnExactShardValidCard

/-- THE TIED CARD OF 'laws.FnExactShardRecover'. -/
def fnExactShardRecoverCard : Claim7 := { stood := { row := fnExactShardRecoverRow, standIns := [], harness := (true, "29afb42e1f74ce9d849afc2cb55bd5f0c863af7ffa4976894f222d54dd871dbf"), looks := true }, kinds := [], alts := [], laidByText := true, laidKinds := [.sentinel, .sentinel], laidTests := true, laidLooks := .later }
def FnExactShardRecoverCardSaid : Prop := Claim7.holds Tryd.pinned (.plain (OpenSpec.ofChange fnExactShardRecoverSpec)) fnExactShardRecoverCard

/-- THE TIED CARD OF 'laws.FnExactShardAsk'. -/
def fnExactShardAskCard : Claim7 := { stood := { row := fnExactShardAskRow, standIns := [], harness := (true, "29afb42e1f74ce9d849afc2cb55bd5f0c863af7ffa4976894f222d54dd871dbf"), looks := true }, kinds := [], alts := [], laidByText := true, laidKinds := [.sentinel, .sentinel], laidTests := true, laidLooks := .later }
def FnExactShardAskCardSaid : Prop := Claim7.holds Tryd.pinned (.plain (OpenSpec.ofChange fnExactShardAskSpec)) fnExactShardAskCard

/-- THE TIED CARD OF 'laws.FnExactShardPrepare'. -/
def fnExactShardPrepareCard : Claim7 := { stood := { row := fnExactShardPrepareRow, standIns := [], harness := (true, "29afb42e1f74ce9d849afc2cb55bd5f0c863af7ffa4976894f222d54dd871dbf"), looks := true }, kinds := [], alts := [], laidByText := true, laidKinds := [.sentinel, .sentinel], laidTests := true, laidLooks := .later }
def FnExactShardPrepareCardSaid : Prop := Claim7.holds Tryd.pinned (.plain (OpenSpec.ofChange fnExactShardPrepareSpec)) fnExactShardPrepareCard

/-- THE TIED CARD OF 'laws.FnExactShardDecide'. -/
def fnExactShardDecideCard : Claim7 := { stood := { row := fnExactShardDecideRow, standIns := [], harness := (true, "29afb42e1f74ce9d849afc2cb55bd5f0c863af7ffa4976894f222d54dd871dbf"), looks := true }, kinds := [], alts := [], laidByText := true, laidKinds := [.sentinel, .sentinel], laidTests := true, laidLooks := .later }
def FnExactShardDecideCardSaid : Prop := Claim7.holds Tryd.pinned (.plain (OpenSpec.ofChange fnExactShardDecideSpec)) fnExactShardDecideCard

/-- THE TIED CARD OF 'laws.FnExactShardCommitted'. -/
def fnExactShardCommittedCard : Claim7 := { stood := { row := fnExactShardCommittedRow, standIns := [], harness := (true, "29afb42e1f74ce9d849afc2cb55bd5f0c863af7ffa4976894f222d54dd871dbf"), looks := true }, kinds := [], alts := [], laidByText := true, laidKinds := [.sentinel, .sentinel], laidTests := true, laidLooks := .later }
def FnExactShardCommittedCardSaid : Prop := Claim7.holds Tryd.pinned (.plain (OpenSpec.ofChange fnExactShardCommittedSpec)) fnExactShardCommittedCard

/-- THE SECOND FORM's CARD OF 'laws.FnCommittedRefs'. -/
def fnCommittedRefsUptoCard : Claim7 := { stood := { row := fnCommittedRefsUptoRow, standIns := [], harness := (true, "29afb42e1f74ce9d849afc2cb55bd5f0c863af7ffa4976894f222d54dd871dbf"), looks := true }, kinds := [], alts := [], laidByText := true, laidKinds := [.sentinel, .sentinel], laidTests := true, laidLooks := .later }
def FnCommittedRefsUptoCardSaid : Prop := Claim7.holds Tryd.pinned (.plain (OpenSpec.upto fnCommittedRefsSpec)) fnCommittedRefsUptoCard

/-- THE SECOND FORM's CARD OF 'laws.FnPrepareOther'. -/
def fnPrepareOtherUptoCard : Claim7 := { stood := { row := fnPrepareOtherUptoRow, standIns := [], harness := (true, "29afb42e1f74ce9d849afc2cb55bd5f0c863af7ffa4976894f222d54dd871dbf"), looks := true }, kinds := [], alts := [], laidByText := true, laidKinds := [.sentinel, .sentinel], laidTests := true, laidLooks := .later }
def FnPrepareOtherUptoCardSaid : Prop := Claim7.holds Tryd.pinned (.plain (OpenSpec.upto fnPrepareOtherSpec)) fnPrepareOtherUptoCard

/-- THE SECOND FORM's CARD OF 'laws.FnDecideOther'. -/
def fnDecideOtherUptoCard : Claim7 := { stood := { row := fnDecideOtherUptoRow, standIns := [], harness := (true, "29afb42e1f74ce9d849afc2cb55bd5f0c863af7ffa4976894f222d54dd871dbf"), looks := true }, kinds := [], alts := [], laidByText := true, laidKinds := [.sentinel, .sentinel], laidTests := true, laidLooks := .later }
def FnDecideOtherUptoCardSaid : Prop := Claim7.holds Tryd.pinned (.plain (OpenSpec.upto fnDecideOtherSpec)) fnDecideOtherUptoCard

/-- THE SECOND FORM's CARD OF 'laws.FnLocksPrepared'. -/
def fnLocksPreparedUptoCard : Claim7 := { stood := { row := fnLocksPreparedUptoRow, standIns := [], harness := (true, "29afb42e1f74ce9d849afc2cb55bd5f0c863af7ffa4976894f222d54dd871dbf"), looks := true }, kinds := [], alts := [], laidByText := true, laidKinds := [.sentinel, .sentinel], laidTests := true, laidLooks := .later }
def FnLocksPreparedUptoCardSaid : Prop := Claim7.holds Tryd.pinned (.plain (OpenSpec.upto fnLocksPreparedSpec)) fnLocksPreparedUptoCard

/-- THE SECOND FORM's CARD OF 'laws.FnCommittedAdd'. -/
def fnCommittedAddUptoCard : Claim7 := { stood := { row := fnCommittedAddUptoRow, standIns := [], harness := (true, "29afb42e1f74ce9d849afc2cb55bd5f0c863af7ffa4976894f222d54dd871dbf"), looks := true }, kinds := [], alts := [], laidByText := true, laidKinds := [.sentinel, .sentinel], laidTests := true, laidLooks := .later }
def FnCommittedAddUptoCardSaid : Prop := Claim7.holds Tryd.pinned (.plain (OpenSpec.upto fnCommittedAddSpec)) fnCommittedAddUptoCard

/-- THE SECOND FORM's CARD OF 'laws.FnExactShardValid'. -/
def fnExactShardValidUptoCard : Claim7 := { stood := { row := fnExactShardValidUptoRow, standIns := [], harness := (true, "29afb42e1f74ce9d849afc2cb55bd5f0c863af7ffa4976894f222d54dd871dbf"), looks := true }, kinds := [], alts := [], laidByText := true, laidKinds := [.sentinel, .sentinel], laidTests := true, laidLooks := .later }
def FnExactShardValidUptoCardSaid : Prop := Claim7.holds Tryd.pinned (.plain (OpenSpec.upto fnExactShardValidSpec)) fnExactShardValidUptoCard

/-- THE SECOND FORM's CARD OF 'laws.FnExactShardRecover'. -/
def fnExactShardRecoverUptoCard : Claim7 := { stood := { row := fnExactShardRecoverUptoRow, standIns := [], harness := (true, "29afb42e1f74ce9d849afc2cb55bd5f0c863af7ffa4976894f222d54dd871dbf"), looks := true }, kinds := [], alts := [], laidByText := true, laidKinds := [.sentinel, .sentinel], laidTests := true, laidLooks := .later }
def FnExactShardRecoverUptoCardSaid : Prop := Claim7.holds Tryd.pinned (.plain (OpenSpec.upto fnExactShardRecoverSpec)) fnExactShardRecoverUptoCard

/-- THE SECOND FORM's CARD OF 'laws.FnExactShardAsk'. -/
def fnExactShardAskUptoCard : Claim7 := { stood := { row := fnExactShardAskUptoRow, standIns := [], harness := (true, "29afb42e1f74ce9d849afc2cb55bd5f0c863af7ffa4976894f222d54dd871dbf"), looks := true }, kinds := [], alts := [], laidByText := true, laidKinds := [.sentinel, .sentinel], laidTests := true, laidLooks := .later }
def FnExactShardAskUptoCardSaid : Prop := Claim7.holds Tryd.pinned (.plain (OpenSpec.upto fnExactShardAskSpec)) fnExactShardAskUptoCard

/-- THE SECOND FORM's CARD OF 'laws.FnExactShardPrepare'. -/
def fnExactShardPrepareUptoCard : Claim7 := { stood := { row := fnExactShardPrepareUptoRow, standIns := [], harness := (true, "29afb42e1f74ce9d849afc2cb55bd5f0c863af7ffa4976894f222d54dd871dbf"), looks := true }, kinds := [], alts := [], laidByText := true, laidKinds := [.sentinel, .sentinel], laidTests := true, laidLooks := .later }
def FnExactShardPrepareUptoCardSaid : Prop := Claim7.holds Tryd.pinned (.plain (OpenSpec.upto fnExactShardPrepareSpec)) fnExactShardPrepareUptoCard

/-- THE SECOND FORM's CARD OF 'laws.FnExactShardDecide'. -/
def fnExactShardDecideUptoCard : Claim7 := { stood := { row := fnExactShardDecideUptoRow, standIns := [], harness := (true, "29afb42e1f74ce9d849afc2cb55bd5f0c863af7ffa4976894f222d54dd871dbf"), looks := true }, kinds := [], alts := [], laidByText := true, laidKinds := [.sentinel, .sentinel], laidTests := true, laidLooks := .later }
def FnExactShardDecideUptoCardSaid : Prop := Claim7.holds Tryd.pinned (.plain (OpenSpec.upto fnExactShardDecideSpec)) fnExactShardDecideUptoCard

/-- THE SECOND FORM's CARD OF 'laws.FnExactShardCommitted'. -/
def fnExactShardCommittedUptoCard : Claim7 := { stood := { row := fnExactShardCommittedUptoRow, standIns := [], harness := (true, "29afb42e1f74ce9d849afc2cb55bd5f0c863af7ffa4976894f222d54dd871dbf"), looks := true }, kinds := [], alts := [], laidByText := true, laidKinds := [.sentinel, .sentinel], laidTests := true, laidLooks := .later }
def FnExactShardCommittedUptoCardSaid : Prop := Claim7.holds Tryd.pinned (.plain (OpenSpec.upto fnExactShardCommittedSpec)) fnExactShardCommittedUptoCard
end Rows
end Go.Proofs.YteeffchnbkkpfabDoor
