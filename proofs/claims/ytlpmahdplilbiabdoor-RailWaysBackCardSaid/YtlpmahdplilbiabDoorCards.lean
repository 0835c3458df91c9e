/-
  DERIVED. GIVEN WITH THE SEED: THE CARDS: each row of YtlpmahdplilbiabDoorRows.lean that lists a variable, with what it lists TIED to the program's text (the seventh form; the later family's looks); each row that meets fmt, with fmt's text TOLD by the authors' own Lean function (tested against real Go, not proved from fmt's source: count such statements apart). THE CARD IS WHAT COUNTS. Prove the row's statement (the work); the ties are given (YtlpmahdplilbiabDoorTie.lean); close each card by the builder's one call (the guide's Derived/Test/ToyasCard.lean, 'card_holds'). Laid BY PROGRAM, IN A SANDBOX (cutbox-door.mjs). By AI agents, Wed Nov 11 2026. No macro, syntax, notation, axiom, sorry.
-/
import Derived.Test.YtlpmahdplilbiabDoorRows
import GoSem.ClaimSeven
namespace Go.Proofs.YtlpmahdplilbiabDoor
namespace Rows

/-- THE TIED CARD OF 'hinterlandlaw03.RailWaysBack'. -/
def railWaysBackCard : Claim7 := { stood := { row := railWaysBackRow, standIns := [], harness := (true, "3ff30360fde592a334a51d1617059572e8dff92ce6e29d2b89a47f62601d2a46"), looks := false }, kinds := [], alts := [], laidByText := true, laidKinds := [.data], laidTests := true, laidLooks := .later }
def RailWaysBackCardSaid : Prop := Claim7.holds Tryd.pinned (.plain (OpenSpec.ofChange railWaysBackSpec)) railWaysBackCard

/-- THE TIED CARD OF 'hinterlandlaw03.RailTexts'. -/
def railTextsCard : Claim7 := { stood := { row := railTextsRow, standIns := [], harness := (true, "3ff30360fde592a334a51d1617059572e8dff92ce6e29d2b89a47f62601d2a46"), looks := false }, kinds := [], alts := [], laidByText := true, laidKinds := [.data, .data, .pinned], laidTests := true, laidLooks := .later }
def RailTextsCardSaid : Prop := Claim7.holds Tryd.pinned (.plain (OpenSpec.ofChange railTextsSpec)) railTextsCard

/-- THE TIED CARD OF 'hinterlandlaw03.RailReads'. -/
def railReadsCard : Claim7 := { stood := { row := railReadsRow, standIns := [], harness := (true, "3ff30360fde592a334a51d1617059572e8dff92ce6e29d2b89a47f62601d2a46"), looks := false }, kinds := [], alts := [], laidByText := true, laidKinds := [.data, .data, .pinned], laidTests := true, laidLooks := .later }
def RailReadsCardSaid : Prop := Claim7.holds Tryd.pinned (.plain (OpenSpec.ofChange railReadsSpec)) railReadsCard

/-- THE SECOND FORM's CARD OF 'hinterlandlaw03.RailWaysBack'. -/
def railWaysBackUptoCard : Claim7 := { stood := { row := railWaysBackUptoRow, standIns := [], harness := (true, "3ff30360fde592a334a51d1617059572e8dff92ce6e29d2b89a47f62601d2a46"), looks := false }, kinds := [], alts := [], laidByText := true, laidKinds := [.data], laidTests := true, laidLooks := .later }
def RailWaysBackUptoCardSaid : Prop := Claim7.holds Tryd.pinned (.plain (OpenSpec.upto railWaysBackSpec)) railWaysBackUptoCard

/-- THE SECOND FORM's CARD OF 'hinterlandlaw03.RailTexts'. -/
def railTextsUptoCard : Claim7 := { stood := { row := railTextsUptoRow, standIns := [], harness := (true, "3ff30360fde592a334a51d1617059572e8dff92ce6e29d2b89a47f62601d2a46"), looks := false }, kinds := [], alts := [], laidByText := true, laidKinds := [.data, .data, .pinned], laidTests := true, laidLooks := .later }
def RailTextsUptoCardSaid : Prop := Claim7.holds Tryd.pinned (.plain (OpenSpec.upto railTextsSpec)) railTextsUptoCard

/-- THE SECOND FORM's CARD OF 'hinterlandlaw03.RailReads'. -/
def railReadsUptoCard : Claim7 := { stood := { row := railReadsUptoRow, standIns := [], harness := (true, "3ff30360fde592a334a51d1617059572e8dff92ce6e29d2b89a47f62601d2a46"), looks := false }, kinds := [], alts := [], laidByText := true, laidKinds := [.data, .data, .pinned], laidTests := true, laidLooks := .later }
def RailReadsUptoCardSaid : Prop := Claim7.holds Tryd.pinned (.plain (OpenSpec.upto railReadsSpec)) railReadsUptoCard
end Rows
end Go.Proofs.YtlpmahdplilbiabDoor
