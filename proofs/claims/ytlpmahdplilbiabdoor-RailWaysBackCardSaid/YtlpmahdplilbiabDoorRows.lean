/-
  NARROWER THAN 'FOR EVERY INPUT', by the rows' own cells (each row's printed sentence says how): RailWaysBack: laid · RailTexts: laid · RailReads: laid.
  DERIVED. THE GIVEN ROWS OF THIS SEAT. 3 by the template 'for every input the law returns true; each argument reads behind the call as it read before'; 0 by the template 'total and deterministic' (their statements: YtlpmahdplilbiabDoorTotals.lean).
  GIVEN WITH THE SEED: the statements are not yours to turn. If you find one false, say at which input.
  Laid BY PROGRAM, IN A SANDBOX (cutbox-rows.mjs): the forced cells as the released guide's own fill.sh prints them over the translation 16ad4ccfab0a79a8… (all of the seat's roots in one cut). By AI agents, Wed Nov 11 2026. No macro, syntax, notation, axiom, sorry.
-/
import Derived.Test.YtlpmahdplilbiabDoorChecked
import GoSem.PinnedTables
import GoSem.Claim
import GoSem.ClaimJoined
import GoSem.ClaimMapViews
import Derived.JoinedTies
import Derived.KernelRfl
namespace Go.Proofs.YtlpmahdplilbiabDoor
/- THE CELL 'sum', in the pinned program and in every row, IS THE sha256 OF THE DUMP (.gsa) THAT YtlpmahdplilbiabDoorProg.lean LOADS. Nothing in Lean hashes anything: it is a label: what it is worth is what the hold of that sum in a sandbox is worth. -/
noncomputable def Tryd.pinned : Pinned := { name := "ytlpmahdplilbiabdoor", sum := "16ad4ccfab0a79a8976727c111bc42c2c2e9b22490a350f0ba5d0b4928fc5e39", checked := Tryd.checked }
namespace Rows
def none {H : Type} : Left H := { results := [], args := [] }

/- WHAT THE LISTED PACKAGE-LEVEL VARIABLES READ AS WHEN THE CALL BEGINS. Each datum BY PROGRAM (the guide's laid-datum.mjs) off the statement by which the dump's own 'gosem.cut.vars' lays the variable. In a bare row this is a premise. The card (YtlpmahdplilbiabDoorCards.lean) ties it to the program's text. -/
def laid_hinterland_rail_ends {H : Type} : DataW H := .agg [.agg [.lit (.int .i64 0), .lit (.int .i64 2)], .agg [.lit (.int .i64 1), .lit (.int .i64 3)], .agg [.lit (.int .i64 0), .lit (.int .i64 1)], .agg [.lit (.int .i64 1), .lit (.int .i64 2)], .agg [.lit (.int .i64 2), .lit (.int .i64 3)], .agg [.lit (.int .i64 3), .lit (.int .i64 0)]]
def laid_unicode_utf8_acceptRanges {H : Type} : DataW H := .agg [.agg [.lit (.int .u8 128), .lit (.int .u8 191)], .agg [.lit (.int .u8 160), .lit (.int .u8 191)], .agg [.lit (.int .u8 128), .lit (.int .u8 159)], .agg [.lit (.int .u8 144), .lit (.int .u8 191)], .agg [.lit (.int .u8 128), .lit (.int .u8 143)], .agg [.lit (.int .u8 0), .lit (.int .u8 0)], .agg [.lit (.int .u8 0), .lit (.int .u8 0)], .agg [.lit (.int .u8 0), .lit (.int .u8 0)], .agg [.lit (.int .u8 0), .lit (.int .u8 0)], .agg [.lit (.int .u8 0), .lit (.int .u8 0)], .agg [.lit (.int .u8 0), .lit (.int .u8 0)], .agg [.lit (.int .u8 0), .lit (.int .u8 0)], .agg [.lit (.int .u8 0), .lit (.int .u8 0)], .agg [.lit (.int .u8 0), .lit (.int .u8 0)], .agg [.lit (.int .u8 0), .lit (.int .u8 0)], .agg [.lit (.int .u8 0), .lit (.int .u8 0)]]
/-- One of Go's own tables, pinned by name: the form's constant. -/
def laid_unicode_utf8_first : DataW Unit := Go.Pinned.utf8First

/-- 'hinterlandlaw03.RailWaysBack': WHATEVER THE INPUT: true; the input reads as it did. -/
def railWaysBackSpec : ChangeSpec := { name := "railWaysBack", fn := fun _ => fun
  | [d1, d2] => { results := [.lit (.bool true)], args := [d1, d2] }
  | _ => none }
def railWaysBackRow : OpenClaim := { program := "ytlpmahdplilbiabdoor", sum := "16ad4ccfab0a79a8976727c111bc42c2c2e9b22490a350f0ba5d0b4928fc5e39", func := "hinterland/hinterlandlaw03.RailWaysBack", spec := "railWaysBack", named := ["hinterland/rail.ends"], plainKeys := false, apart := false, laid := [("hinterland/rail.ends", laid_hinterland_rail_ends)] }
def RailWaysBackSaid : Prop := railWaysBackRow.holds Tryd.pinned (OpenSpec.ofChange railWaysBackSpec)

/-- ITS FALSE NEIGHBOUR: 'it returns false'. Refute it at one input. -/
def railWaysBackWrong : ChangeSpec := { name := "railWaysBack", fn := fun _ => fun
  | [d1, d2] => { results := [.lit (.bool false)], args := [d1, d2] }
  | _ => none }
def RailWaysBackWrongFalsely : Prop := railWaysBackRow.holds Tryd.pinned (OpenSpec.ofChange railWaysBackWrong)

/-- 'hinterlandlaw03.RailTexts': WHATEVER THE INPUT: true; the input reads as it did. -/
def railTextsSpec : ChangeSpec := { name := "railTexts", fn := fun _ => fun
  | [d] => { results := [.lit (.bool true)], args := [d] }
  | _ => none }
def railTextsRow : OpenClaim := { program := "ytlpmahdplilbiabdoor", sum := "16ad4ccfab0a79a8976727c111bc42c2c2e9b22490a350f0ba5d0b4928fc5e39", func := "hinterland/hinterlandlaw03.RailTexts", spec := "railTexts", inPlace := ["internal/abi.NoEscape", "internal/bytealg.IndexByteString", "internal/bytealg.IndexString"], unfollowed := true, recurses := true, named := ["hinterland/rail.ends", "unicode/utf8.first", "unicode/utf8.acceptRanges", "internal/bytealg.MaxLen"], plainKeys := false, apart := false, laid := [("unicode/utf8.acceptRanges", laid_unicode_utf8_acceptRanges), ("hinterland/rail.ends", laid_hinterland_rail_ends), ("unicode/utf8.first", laid_unicode_utf8_first)] }
def RailTextsSaid : Prop := railTextsRow.holds Tryd.pinned (OpenSpec.ofChange railTextsSpec)

/-- ITS FALSE NEIGHBOUR: 'it returns false'. Refute it at one input. -/
def railTextsWrong : ChangeSpec := { name := "railTexts", fn := fun _ => fun
  | [d] => { results := [.lit (.bool false)], args := [d] }
  | _ => none }
def RailTextsWrongFalsely : Prop := railTextsRow.holds Tryd.pinned (OpenSpec.ofChange railTextsWrong)

/-- 'hinterlandlaw03.RailReads': WHATEVER THE INPUT: true; the input reads as it did. -/
def railReadsSpec : ChangeSpec := { name := "railReads", fn := fun _ => fun
  | [d] => { results := [.lit (.bool true)], args := [d] }
  | _ => none }
def railReadsRow : OpenClaim := { program := "ytlpmahdplilbiabdoor", sum := "16ad4ccfab0a79a8976727c111bc42c2c2e9b22490a350f0ba5d0b4928fc5e39", func := "hinterland/hinterlandlaw03.RailReads", spec := "railReads", inPlace := ["internal/bytealg.IndexByteString", "internal/bytealg.IndexString"], unfollowed := true, recurses := true, named := ["hinterland/rail.ends", "unicode/utf8.first", "unicode/utf8.acceptRanges", "internal/bytealg.MaxLen"], plainKeys := false, apart := false, laid := [("unicode/utf8.acceptRanges", laid_unicode_utf8_acceptRanges), ("hinterland/rail.ends", laid_hinterland_rail_ends), ("unicode/utf8.first", laid_unicode_utf8_first)] }
def RailReadsSaid : Prop := railReadsRow.holds Tryd.pinned (OpenSpec.ofChange railReadsSpec)

/-- ITS FALSE NEIGHBOUR: 'it returns false'. Refute it at one input. -/
def railReadsWrong : ChangeSpec := { name := "railReads", fn := fun _ => fun
  | [d] => { results := [.lit (.bool false)], args := [d] }
  | _ => none }
def RailReadsWrongFalsely : Prop := railReadsRow.holds Tryd.pinned (OpenSpec.ofChange railReadsWrong)

/- THE SECOND FORM. 'bulk': how many values and letters a reading holds, each counted each time it is reached (what is shared counts as often as it is met; a slice's spare places count too). A statement '..UptoSaid' is the law's where the arguments, and the package variables that the reading takes, are together of bulk at most 1048576: NARROWER than '..Said'. Prove '..Said' where nothing that the law and all that it calls make is longer than what came in: it says more and counts as full. Else prove '..UptoSaid'. A law counts once. -/
mutual
def uptoBulk {H : Type} : DataW H → Nat
  | .lit (.string bytes) => bytes.length + 1
  | .lit _ => 1
  | .nil => 1
  | .ptr d => uptoBulk d + 1
  | .slice elems spare => uptoBulkAll elems + uptoBulkAll spare + 1
  | .agg parts => uptoBulkAll parts + 1
  | .iface _ d => uptoBulk d + 1
  | .map entries => uptoBulkEntries entries + 1
  | .held _ => 1
def uptoBulkAll {H : Type} : List (DataW H) → Nat
  | [] => 0
  | d :: r => uptoBulk d + uptoBulkAll r
def uptoBulkEntries {H : Type} : List (Lit × DataW H) → Nat
  | [] => 0
  | x :: r => uptoBulkEntry x + uptoBulkEntries r
def uptoBulkEntry {H : Type} : Lit × DataW H → Nat
  | (.string bytes, d) => bytes.length + uptoBulk d + 1
  | (_, d) => uptoBulk d + 1
 end
def uptoSmall : (H : Type) → List (DataW H) → Bool := fun _ ds => decide (uptoBulkAll ds ≤ 1048576)
def OpenSpec.upto (s : _root_.Go.ChangeSpec) : _root_.Go.OpenSpec := { _root_.Go.OpenSpec.ofChange s with cond := some uptoSmall }

/-- 'hinterlandlaw03.RailWaysBack', WHERE WHAT IT READS IS OF BULK AT MOST 1048576: true; the input reads as it did. -/
def railWaysBackUptoRow : OpenClaim := { program := "ytlpmahdplilbiabdoor", sum := "16ad4ccfab0a79a8976727c111bc42c2c2e9b22490a350f0ba5d0b4928fc5e39", func := "hinterland/hinterlandlaw03.RailWaysBack", spec := "railWaysBack", named := ["hinterland/rail.ends"], plainKeys := false, apart := false, laid := [("hinterland/rail.ends", laid_hinterland_rail_ends)], narrowed := true }
def RailWaysBackUptoSaid : Prop := railWaysBackUptoRow.holds Tryd.pinned (OpenSpec.upto railWaysBackSpec)

/-- 'hinterlandlaw03.RailTexts', WHERE WHAT IT READS IS OF BULK AT MOST 1048576: true; the input reads as it did. -/
def railTextsUptoRow : OpenClaim := { program := "ytlpmahdplilbiabdoor", sum := "16ad4ccfab0a79a8976727c111bc42c2c2e9b22490a350f0ba5d0b4928fc5e39", func := "hinterland/hinterlandlaw03.RailTexts", spec := "railTexts", inPlace := ["internal/abi.NoEscape", "internal/bytealg.IndexByteString", "internal/bytealg.IndexString"], unfollowed := true, recurses := true, named := ["hinterland/rail.ends", "unicode/utf8.first", "unicode/utf8.acceptRanges", "internal/bytealg.MaxLen"], plainKeys := false, apart := false, laid := [("unicode/utf8.acceptRanges", laid_unicode_utf8_acceptRanges), ("hinterland/rail.ends", laid_hinterland_rail_ends), ("unicode/utf8.first", laid_unicode_utf8_first)], narrowed := true }
def RailTextsUptoSaid : Prop := railTextsUptoRow.holds Tryd.pinned (OpenSpec.upto railTextsSpec)

/-- 'hinterlandlaw03.RailReads', WHERE WHAT IT READS IS OF BULK AT MOST 1048576: true; the input reads as it did. -/
def railReadsUptoRow : OpenClaim := { program := "ytlpmahdplilbiabdoor", sum := "16ad4ccfab0a79a8976727c111bc42c2c2e9b22490a350f0ba5d0b4928fc5e39", func := "hinterland/hinterlandlaw03.RailReads", spec := "railReads", inPlace := ["internal/bytealg.IndexByteString", "internal/bytealg.IndexString"], unfollowed := true, recurses := true, named := ["hinterland/rail.ends", "unicode/utf8.first", "unicode/utf8.acceptRanges", "internal/bytealg.MaxLen"], plainKeys := false, apart := false, laid := [("unicode/utf8.acceptRanges", laid_unicode_utf8_acceptRanges), ("hinterland/rail.ends", laid_hinterland_rail_ends), ("unicode/utf8.first", laid_unicode_utf8_first)], narrowed := true }
def RailReadsUptoSaid : Prop := railReadsUptoRow.holds Tryd.pinned (OpenSpec.upto railReadsSpec)

end Rows
end Go.Proofs.YtlpmahdplilbiabDoor
