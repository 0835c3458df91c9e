/-
  DERIVED. GIVEN WITH THE SEED: THE CARDS: each row of YtbfpcolkbfljoaaDoorRows.lean that lists a variable, with what it lists TIED to the program's text (the seventh form; the later family's looks); each row that meets fmt, with fmt's text TOLD by the authors' own Lean function (tested against real Go, not proved from fmt's source: count such statements apart). THE CARD IS WHAT COUNTS. Prove the row's statement (the work); the ties are given (YtbfpcolkbfljoaaDoorTie.lean); close each card by the builder's one call (the guide's Derived/Test/ToyasCard.lean, 'card_holds'). Laid BY PROGRAM, IN A SANDBOX (cutbox-door.mjs). By AI agents, Wed Nov 11 2026. No macro, syntax, notation, axiom, sorry.
-/
import Derived.Test.YtbfpcolkbfljoaaDoorRows
import GoSem.ClaimSeven
namespace Go.Proofs.YtbfpcolkbfljoaaDoor
namespace Rows

/-- THE TIED CARD OF 'hinterlandlaw07.BlockValidates'. -/
def blockValidatesCard : Claim7 := { stood := { row := blockValidatesRow, standIns := [], harness := (true, "40ef90c4858c389332722d9b6d1cbeccdb64a3999a2cb8d761678c3832bdd3bd"), looks := false }, kinds := [], alts := [], laidByText := true, laidKinds := [.data], laidTests := true, laidLooks := .later }
def BlockValidatesCardSaid : Prop := Claim7.holds Tryd.pinned (.plain (OpenSpec.ofChange blockValidatesSpec)) blockValidatesCard

/-- THE TIED CARD OF 'hinterlandlaw07.BlockPuts'. -/
def blockPutsCard : Claim7 := { stood := { row := blockPutsRow, standIns := [], harness := (true, "40ef90c4858c389332722d9b6d1cbeccdb64a3999a2cb8d761678c3832bdd3bd"), looks := false }, kinds := [], alts := [], laidByText := true, laidKinds := [.data], laidTests := true, laidLooks := .later }
def BlockPutsCardSaid : Prop := Claim7.holds Tryd.pinned (.plain (OpenSpec.ofChange blockPutsSpec)) blockPutsCard

/-- THE TIED CARD OF 'hinterlandlaw07.BlockTakes'. -/
def blockTakesCard : Claim7 := { stood := { row := blockTakesRow, standIns := [], harness := (true, "40ef90c4858c389332722d9b6d1cbeccdb64a3999a2cb8d761678c3832bdd3bd"), looks := false }, kinds := [], alts := [], laidByText := true, laidKinds := [.data], laidTests := true, laidLooks := .later }
def BlockTakesCardSaid : Prop := Claim7.holds Tryd.pinned (.plain (OpenSpec.ofChange blockTakesSpec)) blockTakesCard

/-- THE TIED CARD OF 'hinterlandlaw07.BlockParts'. -/
def blockPartsCard : Claim7 := { stood := { row := blockPartsRow, standIns := [], harness := (true, "40ef90c4858c389332722d9b6d1cbeccdb64a3999a2cb8d761678c3832bdd3bd"), looks := false }, kinds := [], alts := [], laidByText := true, laidKinds := [.data], laidTests := true, laidLooks := .later }
def BlockPartsCardSaid : Prop := Claim7.holds Tryd.pinned (.plain (OpenSpec.ofChange blockPartsSpec)) blockPartsCard

/-- THE TIED CARD OF 'hinterlandlaw07.BlockOf'. -/
def blockOfCard : Claim7 := { stood := { row := blockOfRow, standIns := [], harness := (true, "40ef90c4858c389332722d9b6d1cbeccdb64a3999a2cb8d761678c3832bdd3bd"), looks := false }, kinds := [], alts := [], laidByText := true, laidKinds := [.data], laidTests := true, laidLooks := .later }
def BlockOfCardSaid : Prop := Claim7.holds Tryd.pinned (.plain (OpenSpec.ofChange blockOfSpec)) blockOfCard

/-- THE TIED CARD OF 'hinterlandlaw07.BlockWhole'. -/
def blockWholeCard : Claim7 := { stood := { row := blockWholeRow, standIns := [], harness := (true, "40ef90c4858c389332722d9b6d1cbeccdb64a3999a2cb8d761678c3832bdd3bd"), looks := false }, kinds := [], alts := [], laidByText := true, laidKinds := [.data], laidTests := true, laidLooks := .later }
def BlockWholeCardSaid : Prop := Claim7.holds Tryd.pinned (.plain (OpenSpec.ofChange blockWholeSpec)) blockWholeCard

/-- THE TIED CARD OF 'hinterlandlaw07.BlockBeyond'. -/
def blockBeyondCard : Claim7 := { stood := { row := blockBeyondRow, standIns := [], harness := (true, "40ef90c4858c389332722d9b6d1cbeccdb64a3999a2cb8d761678c3832bdd3bd"), looks := false }, kinds := [], alts := [], laidByText := true, laidKinds := [.data], laidTests := true, laidLooks := .later }
def BlockBeyondCardSaid : Prop := Claim7.holds Tryd.pinned (.plain (OpenSpec.ofChange blockBeyondSpec)) blockBeyondCard

/-- THE TIED CARD OF 'hinterlandlaw07.BlockShows'. -/
def blockShowsCard : Claim7 := { stood := { row := blockShowsRow, standIns := [], harness := (true, "40ef90c4858c389332722d9b6d1cbeccdb64a3999a2cb8d761678c3832bdd3bd"), looks := false }, kinds := [], alts := [], laidByText := true, laidKinds := [.data], laidTests := true, laidLooks := .later }
def BlockShowsCardSaid : Prop := Claim7.holds Tryd.pinned (.plain (OpenSpec.ofChange blockShowsSpec)) blockShowsCard

/-- THE TIED CARD OF 'hinterlandlaw07.BlockShowsLess'. -/
def blockShowsLessCard : Claim7 := { stood := { row := blockShowsLessRow, standIns := [], harness := (true, "40ef90c4858c389332722d9b6d1cbeccdb64a3999a2cb8d761678c3832bdd3bd"), looks := false }, kinds := [], alts := [], laidByText := true, laidKinds := [.data], laidTests := true, laidLooks := .later }
def BlockShowsLessCardSaid : Prop := Claim7.holds Tryd.pinned (.plain (OpenSpec.ofChange blockShowsLessSpec)) blockShowsLessCard

/-- THE TIED CARD OF 'hinterlandlaw07.BlockMays'. -/
def blockMaysCard : Claim7 := { stood := { row := blockMaysRow, standIns := [], harness := (true, "40ef90c4858c389332722d9b6d1cbeccdb64a3999a2cb8d761678c3832bdd3bd"), looks := false }, kinds := [], alts := [], laidByText := true, laidKinds := [.data], laidTests := true, laidLooks := .later }
def BlockMaysCardSaid : Prop := Claim7.holds Tryd.pinned (.plain (OpenSpec.ofChange blockMaysSpec)) blockMaysCard

/-- THE TIED CARD OF 'hinterlandlaw07.BlockMap'. -/
def blockMapCard : Claim7 := { stood := { row := blockMapRow, standIns := [], harness := (true, "40ef90c4858c389332722d9b6d1cbeccdb64a3999a2cb8d761678c3832bdd3bd"), looks := false }, kinds := [], alts := [], laidByText := true, laidKinds := [.data], laidTests := true, laidLooks := .later }
def BlockMapCardSaid : Prop := Claim7.holds Tryd.pinned (.plain (OpenSpec.ofChange blockMapSpec)) blockMapCard

/-- THE TIED CARD OF 'hinterlandlaw07.BlockSplits'. -/
def blockSplitsCard : Claim7 := { stood := { row := blockSplitsRow, standIns := [], harness := (true, "40ef90c4858c389332722d9b6d1cbeccdb64a3999a2cb8d761678c3832bdd3bd"), looks := false }, kinds := [], alts := [], laidByText := true, laidKinds := [.data], laidTests := true, laidLooks := .later }
def BlockSplitsCardSaid : Prop := Claim7.holds Tryd.pinned (.plain (OpenSpec.ofChange blockSplitsSpec)) blockSplitsCard

/-- THE TIED CARD OF 'hinterlandlaw07.BlockNil'. -/
def blockNilCard : Claim7 := { stood := { row := blockNilRow, standIns := [], harness := (true, "40ef90c4858c389332722d9b6d1cbeccdb64a3999a2cb8d761678c3832bdd3bd"), looks := false }, kinds := [], alts := [], laidByText := true, laidKinds := [.data], laidTests := true, laidLooks := .later }
def BlockNilCardSaid : Prop := Claim7.holds Tryd.pinned (.plain (OpenSpec.ofChange blockNilSpec)) blockNilCard

/-- THE SECOND FORM's CARD OF 'hinterlandlaw07.BlockValidates'. -/
def blockValidatesUptoCard : Claim7 := { stood := { row := blockValidatesUptoRow, standIns := [], harness := (true, "40ef90c4858c389332722d9b6d1cbeccdb64a3999a2cb8d761678c3832bdd3bd"), looks := false }, kinds := [], alts := [], laidByText := true, laidKinds := [.data], laidTests := true, laidLooks := .later }
def BlockValidatesUptoCardSaid : Prop := Claim7.holds Tryd.pinned (.plain (OpenSpec.upto blockValidatesSpec)) blockValidatesUptoCard

/-- THE SECOND FORM's CARD OF 'hinterlandlaw07.BlockPuts'. -/
def blockPutsUptoCard : Claim7 := { stood := { row := blockPutsUptoRow, standIns := [], harness := (true, "40ef90c4858c389332722d9b6d1cbeccdb64a3999a2cb8d761678c3832bdd3bd"), looks := false }, kinds := [], alts := [], laidByText := true, laidKinds := [.data], laidTests := true, laidLooks := .later }
def BlockPutsUptoCardSaid : Prop := Claim7.holds Tryd.pinned (.plain (OpenSpec.upto blockPutsSpec)) blockPutsUptoCard

/-- THE SECOND FORM's CARD OF 'hinterlandlaw07.BlockTakes'. -/
def blockTakesUptoCard : Claim7 := { stood := { row := blockTakesUptoRow, standIns := [], harness := (true, "40ef90c4858c389332722d9b6d1cbeccdb64a3999a2cb8d761678c3832bdd3bd"), looks := false }, kinds := [], alts := [], laidByText := true, laidKinds := [.data], laidTests := true, laidLooks := .later }
def BlockTakesUptoCardSaid : Prop := Claim7.holds Tryd.pinned (.plain (OpenSpec.upto blockTakesSpec)) blockTakesUptoCard

/-- THE SECOND FORM's CARD OF 'hinterlandlaw07.BlockParts'. -/
def blockPartsUptoCard : Claim7 := { stood := { row := blockPartsUptoRow, standIns := [], harness := (true, "40ef90c4858c389332722d9b6d1cbeccdb64a3999a2cb8d761678c3832bdd3bd"), looks := false }, kinds := [], alts := [], laidByText := true, laidKinds := [.data], laidTests := true, laidLooks := .later }
def BlockPartsUptoCardSaid : Prop := Claim7.holds Tryd.pinned (.plain (OpenSpec.upto blockPartsSpec)) blockPartsUptoCard

/-- THE SECOND FORM's CARD OF 'hinterlandlaw07.BlockOf'. -/
def blockOfUptoCard : Claim7 := { stood := { row := blockOfUptoRow, standIns := [], harness := (true, "40ef90c4858c389332722d9b6d1cbeccdb64a3999a2cb8d761678c3832bdd3bd"), looks := false }, kinds := [], alts := [], laidByText := true, laidKinds := [.data], laidTests := true, laidLooks := .later }
def BlockOfUptoCardSaid : Prop := Claim7.holds Tryd.pinned (.plain (OpenSpec.upto blockOfSpec)) blockOfUptoCard

/-- THE SECOND FORM's CARD OF 'hinterlandlaw07.BlockWhole'. -/
def blockWholeUptoCard : Claim7 := { stood := { row := blockWholeUptoRow, standIns := [], harness := (true, "40ef90c4858c389332722d9b6d1cbeccdb64a3999a2cb8d761678c3832bdd3bd"), looks := false }, kinds := [], alts := [], laidByText := true, laidKinds := [.data], laidTests := true, laidLooks := .later }
def BlockWholeUptoCardSaid : Prop := Claim7.holds Tryd.pinned (.plain (OpenSpec.upto blockWholeSpec)) blockWholeUptoCard

/-- THE SECOND FORM's CARD OF 'hinterlandlaw07.BlockBeyond'. -/
def blockBeyondUptoCard : Claim7 := { stood := { row := blockBeyondUptoRow, standIns := [], harness := (true, "40ef90c4858c389332722d9b6d1cbeccdb64a3999a2cb8d761678c3832bdd3bd"), looks := false }, kinds := [], alts := [], laidByText := true, laidKinds := [.data], laidTests := true, laidLooks := .later }
def BlockBeyondUptoCardSaid : Prop := Claim7.holds Tryd.pinned (.plain (OpenSpec.upto blockBeyondSpec)) blockBeyondUptoCard

/-- THE SECOND FORM's CARD OF 'hinterlandlaw07.BlockShows'. -/
def blockShowsUptoCard : Claim7 := { stood := { row := blockShowsUptoRow, standIns := [], harness := (true, "40ef90c4858c389332722d9b6d1cbeccdb64a3999a2cb8d761678c3832bdd3bd"), looks := false }, kinds := [], alts := [], laidByText := true, laidKinds := [.data], laidTests := true, laidLooks := .later }
def BlockShowsUptoCardSaid : Prop := Claim7.holds Tryd.pinned (.plain (OpenSpec.upto blockShowsSpec)) blockShowsUptoCard

/-- THE SECOND FORM's CARD OF 'hinterlandlaw07.BlockShowsLess'. -/
def blockShowsLessUptoCard : Claim7 := { stood := { row := blockShowsLessUptoRow, standIns := [], harness := (true, "40ef90c4858c389332722d9b6d1cbeccdb64a3999a2cb8d761678c3832bdd3bd"), looks := false }, kinds := [], alts := [], laidByText := true, laidKinds := [.data], laidTests := true, laidLooks := .later }
def BlockShowsLessUptoCardSaid : Prop := Claim7.holds Tryd.pinned (.plain (OpenSpec.upto blockShowsLessSpec)) blockShowsLessUptoCard

/-- THE SECOND FORM's CARD OF 'hinterlandlaw07.BlockMays'. -/
def blockMaysUptoCard : Claim7 := { stood := { row := blockMaysUptoRow, standIns := [], harness := (true, "40ef90c4858c389332722d9b6d1cbeccdb64a3999a2cb8d761678c3832bdd3bd"), looks := false }, kinds := [], alts := [], laidByText := true, laidKinds := [.data], laidTests := true, laidLooks := .later }
def BlockMaysUptoCardSaid : Prop := Claim7.holds Tryd.pinned (.plain (OpenSpec.upto blockMaysSpec)) blockMaysUptoCard

/-- THE SECOND FORM's CARD OF 'hinterlandlaw07.BlockMap'. -/
def blockMapUptoCard : Claim7 := { stood := { row := blockMapUptoRow, standIns := [], harness := (true, "40ef90c4858c389332722d9b6d1cbeccdb64a3999a2cb8d761678c3832bdd3bd"), looks := false }, kinds := [], alts := [], laidByText := true, laidKinds := [.data], laidTests := true, laidLooks := .later }
def BlockMapUptoCardSaid : Prop := Claim7.holds Tryd.pinned (.plain (OpenSpec.upto blockMapSpec)) blockMapUptoCard

/-- THE SECOND FORM's CARD OF 'hinterlandlaw07.BlockSplits'. -/
def blockSplitsUptoCard : Claim7 := { stood := { row := blockSplitsUptoRow, standIns := [], harness := (true, "40ef90c4858c389332722d9b6d1cbeccdb64a3999a2cb8d761678c3832bdd3bd"), looks := false }, kinds := [], alts := [], laidByText := true, laidKinds := [.data], laidTests := true, laidLooks := .later }
def BlockSplitsUptoCardSaid : Prop := Claim7.holds Tryd.pinned (.plain (OpenSpec.upto blockSplitsSpec)) blockSplitsUptoCard

/-- THE SECOND FORM's CARD OF 'hinterlandlaw07.BlockNil'. -/
def blockNilUptoCard : Claim7 := { stood := { row := blockNilUptoRow, standIns := [], harness := (true, "40ef90c4858c389332722d9b6d1cbeccdb64a3999a2cb8d761678c3832bdd3bd"), looks := false }, kinds := [], alts := [], laidByText := true, laidKinds := [.data], laidTests := true, laidLooks := .later }
def BlockNilUptoCardSaid : Prop := Claim7.holds Tryd.pinned (.plain (OpenSpec.upto blockNilSpec)) blockNilUptoCard
end Rows
end Go.Proofs.YtbfpcolkbfljoaaDoor
