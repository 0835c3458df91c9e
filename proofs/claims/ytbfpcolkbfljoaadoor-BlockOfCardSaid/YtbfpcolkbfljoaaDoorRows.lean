/-
  NARROWER THAN 'FOR EVERY INPUT', by the rows' own cells (each row's printed sentence says how): BlockValidates: laid · BlockPuts: laid · BlockTakes: laid · BlockParts: laid · BlockOf: laid · BlockWhole: laid · BlockBeyond: laid · BlockShows: laid · BlockShowsLess: laid · BlockMays: laid · BlockMap: laid · BlockSplits: laid · BlockNil: laid.
  DERIVED. THE GIVEN ROWS OF THIS SEAT. 13 by the template 'for every input the law returns true; each argument reads behind the call as it read before'; 0 by the template 'total and deterministic' (their statements: YtbfpcolkbfljoaaDoorTotals.lean).
  GIVEN WITH THE SEED: the statements are not yours to turn. If you find one false, say at which input.
  Laid BY PROGRAM, IN A SANDBOX (cutbox-rows.mjs): the forced cells as the released guide's own fill.sh prints them over the translation 6313b09f5b110e52… (all of the seat's roots in one cut). By AI agents, Wed Nov 11 2026. No macro, syntax, notation, axiom, sorry.
-/
import Derived.Test.YtbfpcolkbfljoaaDoorChecked
import GoSem.Claim
import GoSem.ClaimJoined
import GoSem.ClaimMapViews
import Derived.JoinedTies
import Derived.KernelRfl
namespace Go.Proofs.YtbfpcolkbfljoaaDoor
/- THE CELL 'sum', in the pinned program and in every row, IS THE sha256 OF THE DUMP (.gsa) THAT YtbfpcolkbfljoaaDoorProg.lean LOADS. Nothing in Lean hashes anything: it is a label: what it is worth is what the hold of that sum in a sandbox is worth. -/
noncomputable def Tryd.pinned : Pinned := { name := "ytbfpcolkbfljoaadoor", sum := "6313b09f5b110e52605f181056af991120abdf07456d974aefa974da2ce540af", checked := Tryd.checked }
namespace Rows
def none {H : Type} : Left H := { results := [], args := [] }

/- WHAT THE LISTED PACKAGE-LEVEL VARIABLES READ AS WHEN THE CALL BEGINS. Each datum BY PROGRAM (the guide's laid-datum.mjs) off the statement by which the dump's own 'gosem.cut.vars' lays the variable. In a bare row this is a premise. The card (YtbfpcolkbfljoaaDoorCards.lean) ties it to the program's text. -/
def laid_hinterland_rail_ends {H : Type} : DataW H := .agg [.agg [.lit (.int .i64 0), .lit (.int .i64 2)], .agg [.lit (.int .i64 1), .lit (.int .i64 3)], .agg [.lit (.int .i64 0), .lit (.int .i64 1)], .agg [.lit (.int .i64 1), .lit (.int .i64 2)], .agg [.lit (.int .i64 2), .lit (.int .i64 3)], .agg [.lit (.int .i64 3), .lit (.int .i64 0)]]

/-- 'hinterlandlaw07.BlockValidates': WHATEVER THE INPUT: true; the input reads as it did. -/
def blockValidatesSpec : ChangeSpec := { name := "blockValidates", fn := fun _ => fun
  | [d1, d2] => { results := [.lit (.bool true)], args := [d1, d2] }
  | _ => none }
def blockValidatesRow : OpenClaim := { program := "ytbfpcolkbfljoaadoor", sum := "6313b09f5b110e52605f181056af991120abdf07456d974aefa974da2ce540af", func := "hinterland/hinterlandlaw07.BlockValidates", spec := "blockValidates", unfollowed := true, recurses := true, named := ["hinterland/rail.ends"], apart := false, laid := [("hinterland/rail.ends", laid_hinterland_rail_ends)] }
def BlockValidatesSaid : Prop := blockValidatesRow.holds Tryd.pinned (OpenSpec.ofChange blockValidatesSpec)

/-- ITS FALSE NEIGHBOUR: 'it returns false'. Refute it at one input. -/
def blockValidatesWrong : ChangeSpec := { name := "blockValidates", fn := fun _ => fun
  | [d1, d2] => { results := [.lit (.bool false)], args := [d1, d2] }
  | _ => none }
def BlockValidatesWrongFalsely : Prop := blockValidatesRow.holds Tryd.pinned (OpenSpec.ofChange blockValidatesWrong)

/-- 'hinterlandlaw07.BlockPuts': WHATEVER THE INPUT: true; the input reads as it did. -/
def blockPutsSpec : ChangeSpec := { name := "blockPuts", fn := fun _ => fun
  | [d1, d2, d3] => { results := [.lit (.bool true)], args := [d1, d2, d3] }
  | _ => none }
def blockPutsRow : OpenClaim := { program := "ytbfpcolkbfljoaadoor", sum := "6313b09f5b110e52605f181056af991120abdf07456d974aefa974da2ce540af", func := "hinterland/hinterlandlaw07.BlockPuts", spec := "blockPuts", inPlace := ["slices.overlaps[hinterland/api.Signal]"], unfollowed := true, recurses := true, named := ["hinterland/rail.ends"], apart := false, laid := [("hinterland/rail.ends", laid_hinterland_rail_ends)] }
def BlockPutsSaid : Prop := blockPutsRow.holds Tryd.pinned (OpenSpec.ofChange blockPutsSpec)

/-- ITS FALSE NEIGHBOUR: 'it returns false'. Refute it at one input. -/
def blockPutsWrong : ChangeSpec := { name := "blockPuts", fn := fun _ => fun
  | [d1, d2, d3] => { results := [.lit (.bool false)], args := [d1, d2, d3] }
  | _ => none }
def BlockPutsWrongFalsely : Prop := blockPutsRow.holds Tryd.pinned (OpenSpec.ofChange blockPutsWrong)

/-- 'hinterlandlaw07.BlockTakes': WHATEVER THE INPUT: true; the input reads as it did. -/
def blockTakesSpec : ChangeSpec := { name := "blockTakes", fn := fun _ => fun
  | [d1, d2, d3, d4, d5] => { results := [.lit (.bool true)], args := [d1, d2, d3, d4, d5] }
  | _ => none }
def blockTakesRow : OpenClaim := { program := "ytbfpcolkbfljoaadoor", sum := "6313b09f5b110e52605f181056af991120abdf07456d974aefa974da2ce540af", func := "hinterland/hinterlandlaw07.BlockTakes", spec := "blockTakes", unfollowed := true, recurses := true, named := ["hinterland/rail.ends"], apart := false, laid := [("hinterland/rail.ends", laid_hinterland_rail_ends)] }
def BlockTakesSaid : Prop := blockTakesRow.holds Tryd.pinned (OpenSpec.ofChange blockTakesSpec)

/-- ITS FALSE NEIGHBOUR: 'it returns false'. Refute it at one input. -/
def blockTakesWrong : ChangeSpec := { name := "blockTakes", fn := fun _ => fun
  | [d1, d2, d3, d4, d5] => { results := [.lit (.bool false)], args := [d1, d2, d3, d4, d5] }
  | _ => none }
def BlockTakesWrongFalsely : Prop := blockTakesRow.holds Tryd.pinned (OpenSpec.ofChange blockTakesWrong)

/-- 'hinterlandlaw07.BlockParts': WHATEVER THE INPUT: true; the input reads as it did. -/
def blockPartsSpec : ChangeSpec := { name := "blockParts", fn := fun _ => fun
  | [d1, d2] => { results := [.lit (.bool true)], args := [d1, d2] }
  | _ => none }
def blockPartsRow : OpenClaim := { program := "ytbfpcolkbfljoaadoor", sum := "6313b09f5b110e52605f181056af991120abdf07456d974aefa974da2ce540af", func := "hinterland/hinterlandlaw07.BlockParts", spec := "blockParts", unfollowed := true, recurses := true, named := ["hinterland/rail.ends"], apart := false, laid := [("hinterland/rail.ends", laid_hinterland_rail_ends)] }
def BlockPartsSaid : Prop := blockPartsRow.holds Tryd.pinned (OpenSpec.ofChange blockPartsSpec)

/-- ITS FALSE NEIGHBOUR: 'it returns false'. Refute it at one input. -/
def blockPartsWrong : ChangeSpec := { name := "blockParts", fn := fun _ => fun
  | [d1, d2] => { results := [.lit (.bool false)], args := [d1, d2] }
  | _ => none }
def BlockPartsWrongFalsely : Prop := blockPartsRow.holds Tryd.pinned (OpenSpec.ofChange blockPartsWrong)

/-- 'hinterlandlaw07.BlockOf': WHATEVER THE INPUT: true; the input reads as it did. -/
def blockOfSpec : ChangeSpec := { name := "blockOf", fn := fun _ => fun
  | [d1, d2, d3, d4] => { results := [.lit (.bool true)], args := [d1, d2, d3, d4] }
  | _ => none }
def blockOfRow : OpenClaim := { program := "ytbfpcolkbfljoaadoor", sum := "6313b09f5b110e52605f181056af991120abdf07456d974aefa974da2ce540af", func := "hinterland/hinterlandlaw07.BlockOf", spec := "blockOf", unfollowed := true, recurses := true, named := ["hinterland/rail.ends"], apart := false, laid := [("hinterland/rail.ends", laid_hinterland_rail_ends)] }
def BlockOfSaid : Prop := blockOfRow.holds Tryd.pinned (OpenSpec.ofChange blockOfSpec)

/-- ITS FALSE NEIGHBOUR: 'it returns false'. Refute it at one input. -/
def blockOfWrong : ChangeSpec := { name := "blockOf", fn := fun _ => fun
  | [d1, d2, d3, d4] => { results := [.lit (.bool false)], args := [d1, d2, d3, d4] }
  | _ => none }
def BlockOfWrongFalsely : Prop := blockOfRow.holds Tryd.pinned (OpenSpec.ofChange blockOfWrong)

/-- 'hinterlandlaw07.BlockWhole': WHATEVER THE INPUT: true; the input reads as it did. -/
def blockWholeSpec : ChangeSpec := { name := "blockWhole", fn := fun _ => fun
  | [d1, d2] => { results := [.lit (.bool true)], args := [d1, d2] }
  | _ => none }
def blockWholeRow : OpenClaim := { program := "ytbfpcolkbfljoaadoor", sum := "6313b09f5b110e52605f181056af991120abdf07456d974aefa974da2ce540af", func := "hinterland/hinterlandlaw07.BlockWhole", spec := "blockWhole", unfollowed := true, recurses := true, named := ["hinterland/rail.ends"], apart := false, laid := [("hinterland/rail.ends", laid_hinterland_rail_ends)] }
def BlockWholeSaid : Prop := blockWholeRow.holds Tryd.pinned (OpenSpec.ofChange blockWholeSpec)

/-- ITS FALSE NEIGHBOUR: 'it returns false'. Refute it at one input. -/
def blockWholeWrong : ChangeSpec := { name := "blockWhole", fn := fun _ => fun
  | [d1, d2] => { results := [.lit (.bool false)], args := [d1, d2] }
  | _ => none }
def BlockWholeWrongFalsely : Prop := blockWholeRow.holds Tryd.pinned (OpenSpec.ofChange blockWholeWrong)

/-- 'hinterlandlaw07.BlockBeyond': WHATEVER THE INPUT: true; the input reads as it did. -/
def blockBeyondSpec : ChangeSpec := { name := "blockBeyond", fn := fun _ => fun
  | [d1, d2, d3] => { results := [.lit (.bool true)], args := [d1, d2, d3] }
  | _ => none }
def blockBeyondRow : OpenClaim := { program := "ytbfpcolkbfljoaadoor", sum := "6313b09f5b110e52605f181056af991120abdf07456d974aefa974da2ce540af", func := "hinterland/hinterlandlaw07.BlockBeyond", spec := "blockBeyond", unfollowed := true, recurses := true, named := ["hinterland/rail.ends"], apart := false, laid := [("hinterland/rail.ends", laid_hinterland_rail_ends)] }
def BlockBeyondSaid : Prop := blockBeyondRow.holds Tryd.pinned (OpenSpec.ofChange blockBeyondSpec)

/-- ITS FALSE NEIGHBOUR: 'it returns false'. Refute it at one input. -/
def blockBeyondWrong : ChangeSpec := { name := "blockBeyond", fn := fun _ => fun
  | [d1, d2, d3] => { results := [.lit (.bool false)], args := [d1, d2, d3] }
  | _ => none }
def BlockBeyondWrongFalsely : Prop := blockBeyondRow.holds Tryd.pinned (OpenSpec.ofChange blockBeyondWrong)

/-- 'hinterlandlaw07.BlockShows': WHATEVER THE INPUT: true; the input reads as it did. -/
def blockShowsSpec : ChangeSpec := { name := "blockShows", fn := fun _ => fun
  | [d1, d2, d3] => { results := [.lit (.bool true)], args := [d1, d2, d3] }
  | _ => none }
def blockShowsRow : OpenClaim := { program := "ytbfpcolkbfljoaadoor", sum := "6313b09f5b110e52605f181056af991120abdf07456d974aefa974da2ce540af", func := "hinterland/hinterlandlaw07.BlockShows", spec := "blockShows", unfollowed := true, recurses := true, named := ["hinterland/rail.ends"], apart := false, laid := [("hinterland/rail.ends", laid_hinterland_rail_ends)] }
def BlockShowsSaid : Prop := blockShowsRow.holds Tryd.pinned (OpenSpec.ofChange blockShowsSpec)

/-- ITS FALSE NEIGHBOUR: 'it returns false'. Refute it at one input. -/
def blockShowsWrong : ChangeSpec := { name := "blockShows", fn := fun _ => fun
  | [d1, d2, d3] => { results := [.lit (.bool false)], args := [d1, d2, d3] }
  | _ => none }
def BlockShowsWrongFalsely : Prop := blockShowsRow.holds Tryd.pinned (OpenSpec.ofChange blockShowsWrong)

/-- 'hinterlandlaw07.BlockShowsLess': WHATEVER THE INPUT: true; the input reads as it did. -/
def blockShowsLessSpec : ChangeSpec := { name := "blockShowsLess", fn := fun _ => fun
  | [d1, d2, d3, d4] => { results := [.lit (.bool true)], args := [d1, d2, d3, d4] }
  | _ => none }
def blockShowsLessRow : OpenClaim := { program := "ytbfpcolkbfljoaadoor", sum := "6313b09f5b110e52605f181056af991120abdf07456d974aefa974da2ce540af", func := "hinterland/hinterlandlaw07.BlockShowsLess", spec := "blockShowsLess", unfollowed := true, recurses := true, named := ["hinterland/rail.ends"], apart := false, laid := [("hinterland/rail.ends", laid_hinterland_rail_ends)] }
def BlockShowsLessSaid : Prop := blockShowsLessRow.holds Tryd.pinned (OpenSpec.ofChange blockShowsLessSpec)

/-- ITS FALSE NEIGHBOUR: 'it returns false'. Refute it at one input. -/
def blockShowsLessWrong : ChangeSpec := { name := "blockShowsLess", fn := fun _ => fun
  | [d1, d2, d3, d4] => { results := [.lit (.bool false)], args := [d1, d2, d3, d4] }
  | _ => none }
def BlockShowsLessWrongFalsely : Prop := blockShowsLessRow.holds Tryd.pinned (OpenSpec.ofChange blockShowsLessWrong)

/-- 'hinterlandlaw07.BlockMays': WHATEVER THE INPUT: true; the input reads as it did. -/
def blockMaysSpec : ChangeSpec := { name := "blockMays", fn := fun _ => fun
  | [d1, d2, d3, d4] => { results := [.lit (.bool true)], args := [d1, d2, d3, d4] }
  | _ => none }
def blockMaysRow : OpenClaim := { program := "ytbfpcolkbfljoaadoor", sum := "6313b09f5b110e52605f181056af991120abdf07456d974aefa974da2ce540af", func := "hinterland/hinterlandlaw07.BlockMays", spec := "blockMays", unfollowed := true, recurses := true, named := ["hinterland/rail.ends"], apart := false, laid := [("hinterland/rail.ends", laid_hinterland_rail_ends)] }
def BlockMaysSaid : Prop := blockMaysRow.holds Tryd.pinned (OpenSpec.ofChange blockMaysSpec)

/-- ITS FALSE NEIGHBOUR: 'it returns false'. Refute it at one input. -/
def blockMaysWrong : ChangeSpec := { name := "blockMays", fn := fun _ => fun
  | [d1, d2, d3, d4] => { results := [.lit (.bool false)], args := [d1, d2, d3, d4] }
  | _ => none }
def BlockMaysWrongFalsely : Prop := blockMaysRow.holds Tryd.pinned (OpenSpec.ofChange blockMaysWrong)

/-- 'hinterlandlaw07.BlockMap': WHATEVER THE INPUT: true; the input reads as it did. -/
def blockMapSpec : ChangeSpec := { name := "blockMap", fn := fun _ => fun
  | [d1, d2, d3] => { results := [.lit (.bool true)], args := [d1, d2, d3] }
  | _ => none }
def blockMapRow : OpenClaim := { program := "ytbfpcolkbfljoaadoor", sum := "6313b09f5b110e52605f181056af991120abdf07456d974aefa974da2ce540af", func := "hinterland/hinterlandlaw07.BlockMap", spec := "blockMap", inPlace := ["slices.overlaps[hinterland/api.Signal]"], unfollowed := true, recurses := true, named := ["hinterland/rail.ends"], apart := false, laid := [("hinterland/rail.ends", laid_hinterland_rail_ends)] }
def BlockMapSaid : Prop := blockMapRow.holds Tryd.pinned (OpenSpec.ofChange blockMapSpec)

/-- ITS FALSE NEIGHBOUR: 'it returns false'. Refute it at one input. -/
def blockMapWrong : ChangeSpec := { name := "blockMap", fn := fun _ => fun
  | [d1, d2, d3] => { results := [.lit (.bool false)], args := [d1, d2, d3] }
  | _ => none }
def BlockMapWrongFalsely : Prop := blockMapRow.holds Tryd.pinned (OpenSpec.ofChange blockMapWrong)

/-- 'hinterlandlaw07.BlockSplits': WHATEVER THE INPUT: true; the input reads as it did. -/
def blockSplitsSpec : ChangeSpec := { name := "blockSplits", fn := fun _ => fun
  | [d1, d2, d3] => { results := [.lit (.bool true)], args := [d1, d2, d3] }
  | _ => none }
def blockSplitsRow : OpenClaim := { program := "ytbfpcolkbfljoaadoor", sum := "6313b09f5b110e52605f181056af991120abdf07456d974aefa974da2ce540af", func := "hinterland/hinterlandlaw07.BlockSplits", spec := "blockSplits", inPlace := ["slices.overlaps[hinterland/api.Signal]"], unfollowed := true, recurses := true, named := ["hinterland/rail.ends"], apart := false, laid := [("hinterland/rail.ends", laid_hinterland_rail_ends)] }
def BlockSplitsSaid : Prop := blockSplitsRow.holds Tryd.pinned (OpenSpec.ofChange blockSplitsSpec)

/-- ITS FALSE NEIGHBOUR: 'it returns false'. Refute it at one input. -/
def blockSplitsWrong : ChangeSpec := { name := "blockSplits", fn := fun _ => fun
  | [d1, d2, d3] => { results := [.lit (.bool false)], args := [d1, d2, d3] }
  | _ => none }
def BlockSplitsWrongFalsely : Prop := blockSplitsRow.holds Tryd.pinned (OpenSpec.ofChange blockSplitsWrong)

/-- 'hinterlandlaw07.BlockNil': WHATEVER THE INPUT: true; the input reads as it did. -/
def blockNilSpec : ChangeSpec := { name := "blockNil", fn := fun _ => fun
  | [d1, d2, d3, d4] => { results := [.lit (.bool true)], args := [d1, d2, d3, d4] }
  | _ => none }
def blockNilRow : OpenClaim := { program := "ytbfpcolkbfljoaadoor", sum := "6313b09f5b110e52605f181056af991120abdf07456d974aefa974da2ce540af", func := "hinterland/hinterlandlaw07.BlockNil", spec := "blockNil", inPlace := ["slices.overlaps[hinterland/api.Signal]"], unfollowed := true, recurses := true, named := ["hinterland/rail.ends"], apart := false, laid := [("hinterland/rail.ends", laid_hinterland_rail_ends)] }
def BlockNilSaid : Prop := blockNilRow.holds Tryd.pinned (OpenSpec.ofChange blockNilSpec)

/-- ITS FALSE NEIGHBOUR: 'it returns false'. Refute it at one input. -/
def blockNilWrong : ChangeSpec := { name := "blockNil", fn := fun _ => fun
  | [d1, d2, d3, d4] => { results := [.lit (.bool false)], args := [d1, d2, d3, d4] }
  | _ => none }
def BlockNilWrongFalsely : Prop := blockNilRow.holds Tryd.pinned (OpenSpec.ofChange blockNilWrong)

/- THE SECOND FORM. 'bulk': how many values and letters a reading holds, each counted each time it is reached (what is shared counts as often as it is met; a slice's spare places count too). A statement '..UptoSaid' is the law's where the arguments, and the package variables that the reading takes, are together of bulk at most 1048576: NARROWER than '..Said'. Prove '..Said' where nothing that the law and all that it calls make is longer than what came in: it says more and counts as full. Else prove '..UptoSaid'. A law counts once. -/
mutual
def uptoBulk {H : Type} : DataW H → Nat
  | .lit (.string bytes) => bytes.length + 1
  | .lit _ => 1
  | .nil => 1
  | .ptr d => uptoBulk d + 1
  | .slice elems spare => uptoBulkAll elems + uptoBulkAll spare + 1
  | .agg parts => uptoBulkAll parts + 1
  | .iface _ d => uptoBulk d + 1
  | .map entries => uptoBulkEntries entries + 1
  | .held _ => 1
def uptoBulkAll {H : Type} : List (DataW H) → Nat
  | [] => 0
  | d :: r => uptoBulk d + uptoBulkAll r
def uptoBulkEntries {H : Type} : List (Lit × DataW H) → Nat
  | [] => 0
  | x :: r => uptoBulkEntry x + uptoBulkEntries r
def uptoBulkEntry {H : Type} : Lit × DataW H → Nat
  | (.string bytes, d) => bytes.length + uptoBulk d + 1
  | (_, d) => uptoBulk d + 1
 end
def uptoSmall : (H : Type) → List (DataW H) → Bool := fun _ ds => decide (uptoBulkAll ds ≤ 1048576)
def OpenSpec.upto (s : _root_.Go.ChangeSpec) : _root_.Go.OpenSpec := { _root_.Go.OpenSpec.ofChange s with cond := some uptoSmall }

/-- 'hinterlandlaw07.BlockValidates', WHERE WHAT IT READS IS OF BULK AT MOST 1048576: true; the input reads as it did. -/
def blockValidatesUptoRow : OpenClaim := { program := "ytbfpcolkbfljoaadoor", sum := "6313b09f5b110e52605f181056af991120abdf07456d974aefa974da2ce540af", func := "hinterland/hinterlandlaw07.BlockValidates", spec := "blockValidates", unfollowed := true, recurses := true, named := ["hinterland/rail.ends"], apart := false, laid := [("hinterland/rail.ends", laid_hinterland_rail_ends)], narrowed := true }
def BlockValidatesUptoSaid : Prop := blockValidatesUptoRow.holds Tryd.pinned (OpenSpec.upto blockValidatesSpec)

/-- 'hinterlandlaw07.BlockPuts', WHERE WHAT IT READS IS OF BULK AT MOST 1048576: true; the input reads as it did. -/
def blockPutsUptoRow : OpenClaim := { program := "ytbfpcolkbfljoaadoor", sum := "6313b09f5b110e52605f181056af991120abdf07456d974aefa974da2ce540af", func := "hinterland/hinterlandlaw07.BlockPuts", spec := "blockPuts", inPlace := ["slices.overlaps[hinterland/api.Signal]"], unfollowed := true, recurses := true, named := ["hinterland/rail.ends"], apart := false, laid := [("hinterland/rail.ends", laid_hinterland_rail_ends)], narrowed := true }
def BlockPutsUptoSaid : Prop := blockPutsUptoRow.holds Tryd.pinned (OpenSpec.upto blockPutsSpec)

/-- 'hinterlandlaw07.BlockTakes', WHERE WHAT IT READS IS OF BULK AT MOST 1048576: true; the input reads as it did. -/
def blockTakesUptoRow : OpenClaim := { program := "ytbfpcolkbfljoaadoor", sum := "6313b09f5b110e52605f181056af991120abdf07456d974aefa974da2ce540af", func := "hinterland/hinterlandlaw07.BlockTakes", spec := "blockTakes", unfollowed := true, recurses := true, named := ["hinterland/rail.ends"], apart := false, laid := [("hinterland/rail.ends", laid_hinterland_rail_ends)], narrowed := true }
def BlockTakesUptoSaid : Prop := blockTakesUptoRow.holds Tryd.pinned (OpenSpec.upto blockTakesSpec)

/-- 'hinterlandlaw07.BlockParts', WHERE WHAT IT READS IS OF BULK AT MOST 1048576: true; the input reads as it did. -/
def blockPartsUptoRow : OpenClaim := { program := "ytbfpcolkbfljoaadoor", sum := "6313b09f5b110e52605f181056af991120abdf07456d974aefa974da2ce540af", func := "hinterland/hinterlandlaw07.BlockParts", spec := "blockParts", unfollowed := true, recurses := true, named := ["hinterland/rail.ends"], apart := false, laid := [("hinterland/rail.ends", laid_hinterland_rail_ends)], narrowed := true }
def BlockPartsUptoSaid : Prop := blockPartsUptoRow.holds Tryd.pinned (OpenSpec.upto blockPartsSpec)

/-- 'hinterlandlaw07.BlockOf', WHERE WHAT IT READS IS OF BULK AT MOST 1048576: true; the input reads as it did. -/
def blockOfUptoRow : OpenClaim := { program := "ytbfpcolkbfljoaadoor", sum := "6313b09f5b110e52605f181056af991120abdf07456d974aefa974da2ce540af", func := "hinterland/hinterlandlaw07.BlockOf", spec := "blockOf", unfollowed := true, recurses := true, named := ["hinterland/rail.ends"], apart := false, laid := [("hinterland/rail.ends", laid_hinterland_rail_ends)], narrowed := true }
def BlockOfUptoSaid : Prop := blockOfUptoRow.holds Tryd.pinned (OpenSpec.upto blockOfSpec)

/-- 'hinterlandlaw07.BlockWhole', WHERE WHAT IT READS IS OF BULK AT MOST 1048576: true; the input reads as it did. -/
def blockWholeUptoRow : OpenClaim := { program := "ytbfpcolkbfljoaadoor", sum := "6313b09f5b110e52605f181056af991120abdf07456d974aefa974da2ce540af", func := "hinterland/hinterlandlaw07.BlockWhole", spec := "blockWhole", unfollowed := true, recurses := true, named := ["hinterland/rail.ends"], apart := false, laid := [("hinterland/rail.ends", laid_hinterland_rail_ends)], narrowed := true }
def BlockWholeUptoSaid : Prop := blockWholeUptoRow.holds Tryd.pinned (OpenSpec.upto blockWholeSpec)

/-- 'hinterlandlaw07.BlockBeyond', WHERE WHAT IT READS IS OF BULK AT MOST 1048576: true; the input reads as it did. -/
def blockBeyondUptoRow : OpenClaim := { program := "ytbfpcolkbfljoaadoor", sum := "6313b09f5b110e52605f181056af991120abdf07456d974aefa974da2ce540af", func := "hinterland/hinterlandlaw07.BlockBeyond", spec := "blockBeyond", unfollowed := true, recurses := true, named := ["hinterland/rail.ends"], apart := false, laid := [("hinterland/rail.ends", laid_hinterland_rail_ends)], narrowed := true }
def BlockBeyondUptoSaid : Prop := blockBeyondUptoRow.holds Tryd.pinned (OpenSpec.upto blockBeyondSpec)

/-- 'hinterlandlaw07.BlockShows', WHERE WHAT IT READS IS OF BULK AT MOST 1048576: true; the input reads as it did. -/
def blockShowsUptoRow : OpenClaim := { program := "ytbfpcolkbfljoaadoor", sum := "6313b09f5b110e52605f181056af991120abdf07456d974aefa974da2ce540af", func := "hinterland/hinterlandlaw07.BlockShows", spec := "blockShows", unfollowed := true, recurses := true, named := ["hinterland/rail.ends"], apart := false, laid := [("hinterland/rail.ends", laid_hinterland_rail_ends)], narrowed := true }
def BlockShowsUptoSaid : Prop := blockShowsUptoRow.holds Tryd.pinned (OpenSpec.upto blockShowsSpec)

/-- 'hinterlandlaw07.BlockShowsLess', WHERE WHAT IT READS IS OF BULK AT MOST 1048576: true; the input reads as it did. -/
def blockShowsLessUptoRow : OpenClaim := { program := "ytbfpcolkbfljoaadoor", sum := "6313b09f5b110e52605f181056af991120abdf07456d974aefa974da2ce540af", func := "hinterland/hinterlandlaw07.BlockShowsLess", spec := "blockShowsLess", unfollowed := true, recurses := true, named := ["hinterland/rail.ends"], apart := false, laid := [("hinterland/rail.ends", laid_hinterland_rail_ends)], narrowed := true }
def BlockShowsLessUptoSaid : Prop := blockShowsLessUptoRow.holds Tryd.pinned (OpenSpec.upto blockShowsLessSpec)

/-- 'hinterlandlaw07.BlockMays', WHERE WHAT IT READS IS OF BULK AT MOST 1048576: true; the input reads as it did. -/
def blockMaysUptoRow : OpenClaim := { program := "ytbfpcolkbfljoaadoor", sum := "6313b09f5b110e52605f181056af991120abdf07456d974aefa974da2ce540af", func := "hinterland/hinterlandlaw07.BlockMays", spec := "blockMays", unfollowed := true, recurses := true, named := ["hinterland/rail.ends"], apart := false, laid := [("hinterland/rail.ends", laid_hinterland_rail_ends)], narrowed := true }
def BlockMaysUptoSaid : Prop := blockMaysUptoRow.holds Tryd.pinned (OpenSpec.upto blockMaysSpec)

/-- 'hinterlandlaw07.BlockMap', WHERE WHAT IT READS IS OF BULK AT MOST 1048576: true; the input reads as it did. -/
def blockMapUptoRow : OpenClaim := { program := "ytbfpcolkbfljoaadoor", sum := "6313b09f5b110e52605f181056af991120abdf07456d974aefa974da2ce540af", func := "hinterland/hinterlandlaw07.BlockMap", spec := "blockMap", inPlace := ["slices.overlaps[hinterland/api.Signal]"], unfollowed := true, recurses := true, named := ["hinterland/rail.ends"], apart := false, laid := [("hinterland/rail.ends", laid_hinterland_rail_ends)], narrowed := true }
def BlockMapUptoSaid : Prop := blockMapUptoRow.holds Tryd.pinned (OpenSpec.upto blockMapSpec)

/-- 'hinterlandlaw07.BlockSplits', WHERE WHAT IT READS IS OF BULK AT MOST 1048576: true; the input reads as it did. -/
def blockSplitsUptoRow : OpenClaim := { program := "ytbfpcolkbfljoaadoor", sum := "6313b09f5b110e52605f181056af991120abdf07456d974aefa974da2ce540af", func := "hinterland/hinterlandlaw07.BlockSplits", spec := "blockSplits", inPlace := ["slices.overlaps[hinterland/api.Signal]"], unfollowed := true, recurses := true, named := ["hinterland/rail.ends"], apart := false, laid := [("hinterland/rail.ends", laid_hinterland_rail_ends)], narrowed := true }
def BlockSplitsUptoSaid : Prop := blockSplitsUptoRow.holds Tryd.pinned (OpenSpec.upto blockSplitsSpec)

/-- 'hinterlandlaw07.BlockNil', WHERE WHAT IT READS IS OF BULK AT MOST 1048576: true; the input reads as it did. -/
def blockNilUptoRow : OpenClaim := { program := "ytbfpcolkbfljoaadoor", sum := "6313b09f5b110e52605f181056af991120abdf07456d974aefa974da2ce540af", func := "hinterland/hinterlandlaw07.BlockNil", spec := "blockNil", inPlace := ["slices.overlaps[hinterland/api.Signal]"], unfollowed := true, recurses := true, named := ["hinterland/rail.ends"], apart := false, laid := [("hinterland/rail.ends", laid_hinterland_rail_ends)], narrowed := true }
def BlockNilUptoSaid : Prop := blockNilUptoRow.holds Tryd.pinned (OpenSpec.upto blockNilSpec)

end Rows
end Go.Proofs.YtbfpcolkbfljoaaDoor
