/-
  DERIVED. GIVEN WITH THE SEED: THE CARDS: each row of YtadpgndodbfciaaDoorRows.lean that lists a variable, with what it lists TIED to the program's text (the seventh form; the later family's looks); each row that meets fmt, with fmt's text TOLD by the authors' own Lean function (tested against real Go, not proved from fmt's source: count such statements apart). THE CARD IS WHAT COUNTS. Prove the row's statement (the work); the ties are given (YtadpgndodbfciaaDoorTie.lean); close each card by the builder's one call (the guide's Derived/Test/ToyasCard.lean, 'card_holds'). Laid BY PROGRAM, IN A SANDBOX (cutbox-door.mjs). By AI agents, Wed Nov 11 2026. No macro, syntax, notation, axiom, sorry.
-/
import Derived.Test.YtadpgndodbfciaaDoorRows
import GoSem.ClaimSeven
namespace Go.Proofs.YtadpgndodbfciaaDoor
namespace Rows

/-- THE TIED CARD OF 'hinterlandlaw01.RollStreams'. -/
def rollStreamsCard : Claim7 := { stood := { row := rollStreamsRow, standIns := [], harness := (true, "3e2183dd200a152cfbb715dd8b181205b59f39535d7fcdf1dbcd6f7a38b486b3"), looks := false }, kinds := [], alts := [], laidByText := true, laidKinds := [.data], laidTests := true, laidLooks := .later }
def RollStreamsCardSaid : Prop := Claim7.holds Tryd.pinned (.plain (OpenSpec.ofChange rollStreamsSpec)) rollStreamsCard

/-- THE TIED CARD OF 'hinterlandlaw01.RollSkips'. -/
def rollSkipsCard : Claim7 := { stood := { row := rollSkipsRow, standIns := [], harness := (true, "3e2183dd200a152cfbb715dd8b181205b59f39535d7fcdf1dbcd6f7a38b486b3"), looks := false }, kinds := [], alts := [], laidByText := true, laidKinds := [.data], laidTests := true, laidLooks := .later }
def RollSkipsCardSaid : Prop := Claim7.holds Tryd.pinned (.plain (OpenSpec.ofChange rollSkipsSpec)) rollSkipsCard

/-- THE TIED CARD OF 'hinterlandlaw01.RollBelow'. -/
def rollBelowCard : Claim7 := { stood := { row := rollBelowRow, standIns := [], harness := (true, "3e2183dd200a152cfbb715dd8b181205b59f39535d7fcdf1dbcd6f7a38b486b3"), looks := false }, kinds := [], alts := [], laidByText := true, laidKinds := [.data], laidTests := true, laidLooks := .later }
def RollBelowCardSaid : Prop := Claim7.holds Tryd.pinned (.plain (OpenSpec.ofChange rollBelowSpec)) rollBelowCard

/-- THE TIED CARD OF 'hinterlandlaw01.RollChances'. -/
def rollChancesCard : Claim7 := { stood := { row := rollChancesRow, standIns := [], harness := (true, "3e2183dd200a152cfbb715dd8b181205b59f39535d7fcdf1dbcd6f7a38b486b3"), looks := false }, kinds := [], alts := [], laidByText := true, laidKinds := [.data], laidTests := true, laidLooks := .later }
def RollChancesCardSaid : Prop := Claim7.holds Tryd.pinned (.plain (OpenSpec.ofChange rollChancesSpec)) rollChancesCard

/-- THE TIED CARD OF 'hinterlandlaw01.RollPicks'. -/
def rollPicksCard : Claim7 := { stood := { row := rollPicksRow, standIns := [], harness := (true, "3e2183dd200a152cfbb715dd8b181205b59f39535d7fcdf1dbcd6f7a38b486b3"), looks := false }, kinds := [], alts := [], laidByText := true, laidKinds := [.data], laidTests := true, laidLooks := .later }
def RollPicksCardSaid : Prop := Claim7.holds Tryd.pinned (.plain (OpenSpec.ofChange rollPicksSpec)) rollPicksCard

/-- THE TIED CARD OF 'hinterlandlaw01.RollShuffles'. -/
def rollShufflesCard : Claim7 := { stood := { row := rollShufflesRow, standIns := [], harness := (true, "3e2183dd200a152cfbb715dd8b181205b59f39535d7fcdf1dbcd6f7a38b486b3"), looks := false }, kinds := [], alts := [], laidByText := true, laidKinds := [.data], laidTests := true, laidLooks := .later }
def RollShufflesCardSaid : Prop := Claim7.holds Tryd.pinned (.plain (OpenSpec.ofChange rollShufflesSpec)) rollShufflesCard

/-- THE TIED CARD OF 'hinterlandlaw01.RollDates'. -/
def rollDatesCard : Claim7 := { stood := { row := rollDatesRow, standIns := [], harness := (true, "3e2183dd200a152cfbb715dd8b181205b59f39535d7fcdf1dbcd6f7a38b486b3"), looks := false }, kinds := [], alts := [], laidByText := true, laidKinds := [.data], laidTests := true, laidLooks := .later }
def RollDatesCardSaid : Prop := Claim7.holds Tryd.pinned (.plain (OpenSpec.ofChange rollDatesSpec)) rollDatesCard

/-- THE TIED CARD OF 'hinterlandlaw01.RollDays'. -/
def rollDaysCard : Claim7 := { stood := { row := rollDaysRow, standIns := [], harness := (true, "3e2183dd200a152cfbb715dd8b181205b59f39535d7fcdf1dbcd6f7a38b486b3"), looks := false }, kinds := [], alts := [], laidByText := true, laidKinds := [.data], laidTests := true, laidLooks := .later }
def RollDaysCardSaid : Prop := Claim7.holds Tryd.pinned (.plain (OpenSpec.ofChange rollDaysSpec)) rollDaysCard

/-- THE TIED CARD OF 'hinterlandlaw01.RollEnds'. -/
def rollEndsCard : Claim7 := { stood := { row := rollEndsRow, standIns := [], harness := (true, "3e2183dd200a152cfbb715dd8b181205b59f39535d7fcdf1dbcd6f7a38b486b3"), looks := false }, kinds := [], alts := [], laidByText := true, laidKinds := [.data], laidTests := true, laidLooks := .later }
def RollEndsCardSaid : Prop := Claim7.holds Tryd.pinned (.plain (OpenSpec.ofChange rollEndsSpec)) rollEndsCard

/-- THE TIED CARD OF 'hinterlandlaw01.RollOrder'. -/
def rollOrderCard : Claim7 := { stood := { row := rollOrderRow, standIns := [], harness := (true, "3e2183dd200a152cfbb715dd8b181205b59f39535d7fcdf1dbcd6f7a38b486b3"), looks := false }, kinds := [], alts := [], laidByText := true, laidKinds := [.data], laidTests := true, laidLooks := .later }
def RollOrderCardSaid : Prop := Claim7.holds Tryd.pinned (.plain (OpenSpec.ofChange rollOrderSpec)) rollOrderCard

/-- THE SECOND FORM's CARD OF 'hinterlandlaw01.RollStreams'. -/
def rollStreamsUptoCard : Claim7 := { stood := { row := rollStreamsUptoRow, standIns := [], harness := (true, "3e2183dd200a152cfbb715dd8b181205b59f39535d7fcdf1dbcd6f7a38b486b3"), looks := false }, kinds := [], alts := [], laidByText := true, laidKinds := [.data], laidTests := true, laidLooks := .later }
def RollStreamsUptoCardSaid : Prop := Claim7.holds Tryd.pinned (.plain (OpenSpec.upto rollStreamsSpec)) rollStreamsUptoCard

/-- THE SECOND FORM's CARD OF 'hinterlandlaw01.RollSkips'. -/
def rollSkipsUptoCard : Claim7 := { stood := { row := rollSkipsUptoRow, standIns := [], harness := (true, "3e2183dd200a152cfbb715dd8b181205b59f39535d7fcdf1dbcd6f7a38b486b3"), looks := false }, kinds := [], alts := [], laidByText := true, laidKinds := [.data], laidTests := true, laidLooks := .later }
def RollSkipsUptoCardSaid : Prop := Claim7.holds Tryd.pinned (.plain (OpenSpec.upto rollSkipsSpec)) rollSkipsUptoCard

/-- THE SECOND FORM's CARD OF 'hinterlandlaw01.RollBelow'. -/
def rollBelowUptoCard : Claim7 := { stood := { row := rollBelowUptoRow, standIns := [], harness := (true, "3e2183dd200a152cfbb715dd8b181205b59f39535d7fcdf1dbcd6f7a38b486b3"), looks := false }, kinds := [], alts := [], laidByText := true, laidKinds := [.data], laidTests := true, laidLooks := .later }
def RollBelowUptoCardSaid : Prop := Claim7.holds Tryd.pinned (.plain (OpenSpec.upto rollBelowSpec)) rollBelowUptoCard

/-- THE SECOND FORM's CARD OF 'hinterlandlaw01.RollChances'. -/
def rollChancesUptoCard : Claim7 := { stood := { row := rollChancesUptoRow, standIns := [], harness := (true, "3e2183dd200a152cfbb715dd8b181205b59f39535d7fcdf1dbcd6f7a38b486b3"), looks := false }, kinds := [], alts := [], laidByText := true, laidKinds := [.data], laidTests := true, laidLooks := .later }
def RollChancesUptoCardSaid : Prop := Claim7.holds Tryd.pinned (.plain (OpenSpec.upto rollChancesSpec)) rollChancesUptoCard

/-- THE SECOND FORM's CARD OF 'hinterlandlaw01.RollPicks'. -/
def rollPicksUptoCard : Claim7 := { stood := { row := rollPicksUptoRow, standIns := [], harness := (true, "3e2183dd200a152cfbb715dd8b181205b59f39535d7fcdf1dbcd6f7a38b486b3"), looks := false }, kinds := [], alts := [], laidByText := true, laidKinds := [.data], laidTests := true, laidLooks := .later }
def RollPicksUptoCardSaid : Prop := Claim7.holds Tryd.pinned (.plain (OpenSpec.upto rollPicksSpec)) rollPicksUptoCard

/-- THE SECOND FORM's CARD OF 'hinterlandlaw01.RollShuffles'. -/
def rollShufflesUptoCard : Claim7 := { stood := { row := rollShufflesUptoRow, standIns := [], harness := (true, "3e2183dd200a152cfbb715dd8b181205b59f39535d7fcdf1dbcd6f7a38b486b3"), looks := false }, kinds := [], alts := [], laidByText := true, laidKinds := [.data], laidTests := true, laidLooks := .later }
def RollShufflesUptoCardSaid : Prop := Claim7.holds Tryd.pinned (.plain (OpenSpec.upto rollShufflesSpec)) rollShufflesUptoCard

/-- THE SECOND FORM's CARD OF 'hinterlandlaw01.RollDates'. -/
def rollDatesUptoCard : Claim7 := { stood := { row := rollDatesUptoRow, standIns := [], harness := (true, "3e2183dd200a152cfbb715dd8b181205b59f39535d7fcdf1dbcd6f7a38b486b3"), looks := false }, kinds := [], alts := [], laidByText := true, laidKinds := [.data], laidTests := true, laidLooks := .later }
def RollDatesUptoCardSaid : Prop := Claim7.holds Tryd.pinned (.plain (OpenSpec.upto rollDatesSpec)) rollDatesUptoCard

/-- THE SECOND FORM's CARD OF 'hinterlandlaw01.RollDays'. -/
def rollDaysUptoCard : Claim7 := { stood := { row := rollDaysUptoRow, standIns := [], harness := (true, "3e2183dd200a152cfbb715dd8b181205b59f39535d7fcdf1dbcd6f7a38b486b3"), looks := false }, kinds := [], alts := [], laidByText := true, laidKinds := [.data], laidTests := true, laidLooks := .later }
def RollDaysUptoCardSaid : Prop := Claim7.holds Tryd.pinned (.plain (OpenSpec.upto rollDaysSpec)) rollDaysUptoCard

/-- THE SECOND FORM's CARD OF 'hinterlandlaw01.RollEnds'. -/
def rollEndsUptoCard : Claim7 := { stood := { row := rollEndsUptoRow, standIns := [], harness := (true, "3e2183dd200a152cfbb715dd8b181205b59f39535d7fcdf1dbcd6f7a38b486b3"), looks := false }, kinds := [], alts := [], laidByText := true, laidKinds := [.data], laidTests := true, laidLooks := .later }
def RollEndsUptoCardSaid : Prop := Claim7.holds Tryd.pinned (.plain (OpenSpec.upto rollEndsSpec)) rollEndsUptoCard

/-- THE SECOND FORM's CARD OF 'hinterlandlaw01.RollOrder'. -/
def rollOrderUptoCard : Claim7 := { stood := { row := rollOrderUptoRow, standIns := [], harness := (true, "3e2183dd200a152cfbb715dd8b181205b59f39535d7fcdf1dbcd6f7a38b486b3"), looks := false }, kinds := [], alts := [], laidByText := true, laidKinds := [.data], laidTests := true, laidLooks := .later }
def RollOrderUptoCardSaid : Prop := Claim7.holds Tryd.pinned (.plain (OpenSpec.upto rollOrderSpec)) rollOrderUptoCard
end Rows
end Go.Proofs.YtadpgndodbfciaaDoor
