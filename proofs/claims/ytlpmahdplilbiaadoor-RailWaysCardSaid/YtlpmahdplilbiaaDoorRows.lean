/-
  NARROWER THAN 'FOR EVERY INPUT', by the rows' own cells (each row's printed sentence says how): RailValidates: laid · RailEnds: laid · RailCosts: laid · RailLays: laid · RailLifts: laid · RailUndone: laid · RailNexts: laid · RailTurned: laid · RailReaches: laid · RailParts: laid · RailLoose: laid · RailWays: laid.
  DERIVED. THE GIVEN ROWS OF THIS SEAT. 12 by the template 'for every input the law returns true; each argument reads behind the call as it read before'; 0 by the template 'total and deterministic' (their statements: YtlpmahdplilbiaaDoorTotals.lean).
  GIVEN WITH THE SEED: the statements are not yours to turn. If you find one false, say at which input.
  Laid BY PROGRAM, IN A SANDBOX (cutbox-rows.mjs): the forced cells as the released guide's own fill.sh prints them over the translation e1ef718f93662960… (all of the seat's roots in one cut). By AI agents, Wed Nov 11 2026. No macro, syntax, notation, axiom, sorry.
-/
import Derived.Test.YtlpmahdplilbiaaDoorChecked
import GoSem.Claim
import GoSem.ClaimJoined
import GoSem.ClaimMapViews
import Derived.JoinedTies
import Derived.KernelRfl
namespace Go.Proofs.YtlpmahdplilbiaaDoor
/- THE CELL 'sum', in the pinned program and in every row, IS THE sha256 OF THE DUMP (.gsa) THAT YtlpmahdplilbiaaDoorProg.lean LOADS. Nothing in Lean hashes anything: it is a label: what it is worth is what the hold of that sum in a sandbox is worth. -/
noncomputable def Tryd.pinned : Pinned := { name := "ytlpmahdplilbiaadoor", sum := "e1ef718f93662960a4983d9b7cd3e24c854075e36a5bbb68484c26c2265d4758", checked := Tryd.checked }
namespace Rows
def none {H : Type} : Left H := { results := [], args := [] }

/- WHAT THE LISTED PACKAGE-LEVEL VARIABLES READ AS WHEN THE CALL BEGINS. Each datum BY PROGRAM (the guide's laid-datum.mjs) off the statement by which the dump's own 'gosem.cut.vars' lays the variable. In a bare row this is a premise. The card (YtlpmahdplilbiaaDoorCards.lean) ties it to the program's text. -/
def laid_hinterland_rail_ends {H : Type} : DataW H := .agg [.agg [.lit (.int .i64 0), .lit (.int .i64 2)], .agg [.lit (.int .i64 1), .lit (.int .i64 3)], .agg [.lit (.int .i64 0), .lit (.int .i64 1)], .agg [.lit (.int .i64 1), .lit (.int .i64 2)], .agg [.lit (.int .i64 2), .lit (.int .i64 3)], .agg [.lit (.int .i64 3), .lit (.int .i64 0)]]

/-- 'hinterlandlaw03.RailValidates': WHATEVER THE INPUT: true; the input reads as it did. -/
def railValidatesSpec : ChangeSpec := { name := "railValidates", fn := fun _ => fun
  | [d] => { results := [.lit (.bool true)], args := [d] }
  | _ => none }
def railValidatesRow : OpenClaim := { program := "ytlpmahdplilbiaadoor", sum := "e1ef718f93662960a4983d9b7cd3e24c854075e36a5bbb68484c26c2265d4758", func := "hinterland/hinterlandlaw03.RailValidates", spec := "railValidates", named := ["hinterland/rail.ends"], plainKeys := false, apart := false, laid := [("hinterland/rail.ends", laid_hinterland_rail_ends)] }
def RailValidatesSaid : Prop := railValidatesRow.holds Tryd.pinned (OpenSpec.ofChange railValidatesSpec)

/-- ITS FALSE NEIGHBOUR: 'it returns false'. Refute it at one input. -/
def railValidatesWrong : ChangeSpec := { name := "railValidates", fn := fun _ => fun
  | [d] => { results := [.lit (.bool false)], args := [d] }
  | _ => none }
def RailValidatesWrongFalsely : Prop := railValidatesRow.holds Tryd.pinned (OpenSpec.ofChange railValidatesWrong)

/-- 'hinterlandlaw03.RailEnds': WHATEVER THE INPUT: true; the input reads as it did. -/
def railEndsSpec : ChangeSpec := { name := "railEnds", fn := fun _ => fun
  | [d1, d2] => { results := [.lit (.bool true)], args := [d1, d2] }
  | _ => none }
def railEndsRow : OpenClaim := { program := "ytlpmahdplilbiaadoor", sum := "e1ef718f93662960a4983d9b7cd3e24c854075e36a5bbb68484c26c2265d4758", func := "hinterland/hinterlandlaw03.RailEnds", spec := "railEnds", named := ["hinterland/rail.ends"], plainKeys := false, apart := false, laid := [("hinterland/rail.ends", laid_hinterland_rail_ends)] }
def RailEndsSaid : Prop := railEndsRow.holds Tryd.pinned (OpenSpec.ofChange railEndsSpec)

/-- ITS FALSE NEIGHBOUR: 'it returns false'. Refute it at one input. -/
def railEndsWrong : ChangeSpec := { name := "railEnds", fn := fun _ => fun
  | [d1, d2] => { results := [.lit (.bool false)], args := [d1, d2] }
  | _ => none }
def RailEndsWrongFalsely : Prop := railEndsRow.holds Tryd.pinned (OpenSpec.ofChange railEndsWrong)

/-- 'hinterlandlaw03.RailCosts': WHATEVER THE INPUT: true; the input reads as it did. -/
def railCostsSpec : ChangeSpec := { name := "railCosts", fn := fun _ => fun
  | [d1, d2] => { results := [.lit (.bool true)], args := [d1, d2] }
  | _ => none }
def railCostsRow : OpenClaim := { program := "ytlpmahdplilbiaadoor", sum := "e1ef718f93662960a4983d9b7cd3e24c854075e36a5bbb68484c26c2265d4758", func := "hinterland/hinterlandlaw03.RailCosts", spec := "railCosts", named := ["hinterland/rail.ends"], plainKeys := false, apart := false, laid := [("hinterland/rail.ends", laid_hinterland_rail_ends)] }
def RailCostsSaid : Prop := railCostsRow.holds Tryd.pinned (OpenSpec.ofChange railCostsSpec)

/-- ITS FALSE NEIGHBOUR: 'it returns false'. Refute it at one input. -/
def railCostsWrong : ChangeSpec := { name := "railCosts", fn := fun _ => fun
  | [d1, d2] => { results := [.lit (.bool false)], args := [d1, d2] }
  | _ => none }
def RailCostsWrongFalsely : Prop := railCostsRow.holds Tryd.pinned (OpenSpec.ofChange railCostsWrong)

/-- 'hinterlandlaw03.RailLays': WHATEVER THE INPUT: true; the input reads as it did. -/
def railLaysSpec : ChangeSpec := { name := "railLays", fn := fun _ => fun
  | [d1, d2, d3, d4] => { results := [.lit (.bool true)], args := [d1, d2, d3, d4] }
  | _ => none }
def railLaysRow : OpenClaim := { program := "ytlpmahdplilbiaadoor", sum := "e1ef718f93662960a4983d9b7cd3e24c854075e36a5bbb68484c26c2265d4758", func := "hinterland/hinterlandlaw03.RailLays", spec := "railLays", named := ["hinterland/rail.ends"], plainKeys := false, apart := false, laid := [("hinterland/rail.ends", laid_hinterland_rail_ends)] }
def RailLaysSaid : Prop := railLaysRow.holds Tryd.pinned (OpenSpec.ofChange railLaysSpec)

/-- ITS FALSE NEIGHBOUR: 'it returns false'. Refute it at one input. -/
def railLaysWrong : ChangeSpec := { name := "railLays", fn := fun _ => fun
  | [d1, d2, d3, d4] => { results := [.lit (.bool false)], args := [d1, d2, d3, d4] }
  | _ => none }
def RailLaysWrongFalsely : Prop := railLaysRow.holds Tryd.pinned (OpenSpec.ofChange railLaysWrong)

/-- 'hinterlandlaw03.RailLifts': WHATEVER THE INPUT: true; the input reads as it did. -/
def railLiftsSpec : ChangeSpec := { name := "railLifts", fn := fun _ => fun
  | [d1, d2, d3] => { results := [.lit (.bool true)], args := [d1, d2, d3] }
  | _ => none }
def railLiftsRow : OpenClaim := { program := "ytlpmahdplilbiaadoor", sum := "e1ef718f93662960a4983d9b7cd3e24c854075e36a5bbb68484c26c2265d4758", func := "hinterland/hinterlandlaw03.RailLifts", spec := "railLifts", named := ["hinterland/rail.ends"], plainKeys := false, apart := false, laid := [("hinterland/rail.ends", laid_hinterland_rail_ends)] }
def RailLiftsSaid : Prop := railLiftsRow.holds Tryd.pinned (OpenSpec.ofChange railLiftsSpec)

/-- ITS FALSE NEIGHBOUR: 'it returns false'. Refute it at one input. -/
def railLiftsWrong : ChangeSpec := { name := "railLifts", fn := fun _ => fun
  | [d1, d2, d3] => { results := [.lit (.bool false)], args := [d1, d2, d3] }
  | _ => none }
def RailLiftsWrongFalsely : Prop := railLiftsRow.holds Tryd.pinned (OpenSpec.ofChange railLiftsWrong)

/-- 'hinterlandlaw03.RailUndone': WHATEVER THE INPUT: true; the input reads as it did. -/
def railUndoneSpec : ChangeSpec := { name := "railUndone", fn := fun _ => fun
  | [d1, d2, d3] => { results := [.lit (.bool true)], args := [d1, d2, d3] }
  | _ => none }
def railUndoneRow : OpenClaim := { program := "ytlpmahdplilbiaadoor", sum := "e1ef718f93662960a4983d9b7cd3e24c854075e36a5bbb68484c26c2265d4758", func := "hinterland/hinterlandlaw03.RailUndone", spec := "railUndone", named := ["hinterland/rail.ends"], plainKeys := false, apart := false, laid := [("hinterland/rail.ends", laid_hinterland_rail_ends)] }
def RailUndoneSaid : Prop := railUndoneRow.holds Tryd.pinned (OpenSpec.ofChange railUndoneSpec)

/-- ITS FALSE NEIGHBOUR: 'it returns false'. Refute it at one input. -/
def railUndoneWrong : ChangeSpec := { name := "railUndone", fn := fun _ => fun
  | [d1, d2, d3] => { results := [.lit (.bool false)], args := [d1, d2, d3] }
  | _ => none }
def RailUndoneWrongFalsely : Prop := railUndoneRow.holds Tryd.pinned (OpenSpec.ofChange railUndoneWrong)

/-- 'hinterlandlaw03.RailNexts': WHATEVER THE INPUT: true; the input reads as it did. -/
def railNextsSpec : ChangeSpec := { name := "railNexts", fn := fun _ => fun
  | [d1, d2] => { results := [.lit (.bool true)], args := [d1, d2] }
  | _ => none }
def railNextsRow : OpenClaim := { program := "ytlpmahdplilbiaadoor", sum := "e1ef718f93662960a4983d9b7cd3e24c854075e36a5bbb68484c26c2265d4758", func := "hinterland/hinterlandlaw03.RailNexts", spec := "railNexts", named := ["hinterland/rail.ends"], plainKeys := false, apart := false, laid := [("hinterland/rail.ends", laid_hinterland_rail_ends)] }
def RailNextsSaid : Prop := railNextsRow.holds Tryd.pinned (OpenSpec.ofChange railNextsSpec)

/-- ITS FALSE NEIGHBOUR: 'it returns false'. Refute it at one input. -/
def railNextsWrong : ChangeSpec := { name := "railNexts", fn := fun _ => fun
  | [d1, d2] => { results := [.lit (.bool false)], args := [d1, d2] }
  | _ => none }
def RailNextsWrongFalsely : Prop := railNextsRow.holds Tryd.pinned (OpenSpec.ofChange railNextsWrong)

/-- 'hinterlandlaw03.RailTurned': WHATEVER THE INPUT: true; the input reads as it did. -/
def railTurnedSpec : ChangeSpec := { name := "railTurned", fn := fun _ => fun
  | [d1, d2] => { results := [.lit (.bool true)], args := [d1, d2] }
  | _ => none }
def railTurnedRow : OpenClaim := { program := "ytlpmahdplilbiaadoor", sum := "e1ef718f93662960a4983d9b7cd3e24c854075e36a5bbb68484c26c2265d4758", func := "hinterland/hinterlandlaw03.RailTurned", spec := "railTurned", named := ["hinterland/rail.ends"], plainKeys := false, apart := false, laid := [("hinterland/rail.ends", laid_hinterland_rail_ends)] }
def RailTurnedSaid : Prop := railTurnedRow.holds Tryd.pinned (OpenSpec.ofChange railTurnedSpec)

/-- ITS FALSE NEIGHBOUR: 'it returns false'. Refute it at one input. -/
def railTurnedWrong : ChangeSpec := { name := "railTurned", fn := fun _ => fun
  | [d1, d2] => { results := [.lit (.bool false)], args := [d1, d2] }
  | _ => none }
def RailTurnedWrongFalsely : Prop := railTurnedRow.holds Tryd.pinned (OpenSpec.ofChange railTurnedWrong)

/-- 'hinterlandlaw03.RailReaches': WHATEVER THE INPUT: true; the input reads as it did. -/
def railReachesSpec : ChangeSpec := { name := "railReaches", fn := fun _ => fun
  | [d1, d2, d3] => { results := [.lit (.bool true)], args := [d1, d2, d3] }
  | _ => none }
def railReachesRow : OpenClaim := { program := "ytlpmahdplilbiaadoor", sum := "e1ef718f93662960a4983d9b7cd3e24c854075e36a5bbb68484c26c2265d4758", func := "hinterland/hinterlandlaw03.RailReaches", spec := "railReaches", unfollowed := true, recurses := true, named := ["hinterland/rail.ends"], plainKeys := false, apart := false, laid := [("hinterland/rail.ends", laid_hinterland_rail_ends)] }
def RailReachesSaid : Prop := railReachesRow.holds Tryd.pinned (OpenSpec.ofChange railReachesSpec)

/-- ITS FALSE NEIGHBOUR: 'it returns false'. Refute it at one input. -/
def railReachesWrong : ChangeSpec := { name := "railReaches", fn := fun _ => fun
  | [d1, d2, d3] => { results := [.lit (.bool false)], args := [d1, d2, d3] }
  | _ => none }
def RailReachesWrongFalsely : Prop := railReachesRow.holds Tryd.pinned (OpenSpec.ofChange railReachesWrong)

/-- 'hinterlandlaw03.RailParts': WHATEVER THE INPUT: true; the input reads as it did. -/
def railPartsSpec : ChangeSpec := { name := "railParts", fn := fun _ => fun
  | [d1, d2, d3, d4] => { results := [.lit (.bool true)], args := [d1, d2, d3, d4] }
  | _ => none }
def railPartsRow : OpenClaim := { program := "ytlpmahdplilbiaadoor", sum := "e1ef718f93662960a4983d9b7cd3e24c854075e36a5bbb68484c26c2265d4758", func := "hinterland/hinterlandlaw03.RailParts", spec := "railParts", unfollowed := true, recurses := true, named := ["hinterland/rail.ends"], plainKeys := false, apart := false, laid := [("hinterland/rail.ends", laid_hinterland_rail_ends)] }
def RailPartsSaid : Prop := railPartsRow.holds Tryd.pinned (OpenSpec.ofChange railPartsSpec)

/-- ITS FALSE NEIGHBOUR: 'it returns false'. Refute it at one input. -/
def railPartsWrong : ChangeSpec := { name := "railParts", fn := fun _ => fun
  | [d1, d2, d3, d4] => { results := [.lit (.bool false)], args := [d1, d2, d3, d4] }
  | _ => none }
def RailPartsWrongFalsely : Prop := railPartsRow.holds Tryd.pinned (OpenSpec.ofChange railPartsWrong)

/-- 'hinterlandlaw03.RailLoose': WHATEVER THE INPUT: true; the input reads as it did. -/
def railLooseSpec : ChangeSpec := { name := "railLoose", fn := fun _ => fun
  | [d] => { results := [.lit (.bool true)], args := [d] }
  | _ => none }
def railLooseRow : OpenClaim := { program := "ytlpmahdplilbiaadoor", sum := "e1ef718f93662960a4983d9b7cd3e24c854075e36a5bbb68484c26c2265d4758", func := "hinterland/hinterlandlaw03.RailLoose", spec := "railLoose", named := ["hinterland/rail.ends"], plainKeys := false, apart := false, laid := [("hinterland/rail.ends", laid_hinterland_rail_ends)] }
def RailLooseSaid : Prop := railLooseRow.holds Tryd.pinned (OpenSpec.ofChange railLooseSpec)

/-- ITS FALSE NEIGHBOUR: 'it returns false'. Refute it at one input. -/
def railLooseWrong : ChangeSpec := { name := "railLoose", fn := fun _ => fun
  | [d] => { results := [.lit (.bool false)], args := [d] }
  | _ => none }
def RailLooseWrongFalsely : Prop := railLooseRow.holds Tryd.pinned (OpenSpec.ofChange railLooseWrong)

/-- 'hinterlandlaw03.RailWays': WHATEVER THE INPUT: true; the input reads as it did. -/
def railWaysSpec : ChangeSpec := { name := "railWays", fn := fun _ => fun
  | [d1, d2] => { results := [.lit (.bool true)], args := [d1, d2] }
  | _ => none }
def railWaysRow : OpenClaim := { program := "ytlpmahdplilbiaadoor", sum := "e1ef718f93662960a4983d9b7cd3e24c854075e36a5bbb68484c26c2265d4758", func := "hinterland/hinterlandlaw03.RailWays", spec := "railWays", named := ["hinterland/rail.ends"], plainKeys := false, apart := false, laid := [("hinterland/rail.ends", laid_hinterland_rail_ends)] }
def RailWaysSaid : Prop := railWaysRow.holds Tryd.pinned (OpenSpec.ofChange railWaysSpec)

/-- ITS FALSE NEIGHBOUR: 'it returns false'. Refute it at one input. -/
def railWaysWrong : ChangeSpec := { name := "railWays", fn := fun _ => fun
  | [d1, d2] => { results := [.lit (.bool false)], args := [d1, d2] }
  | _ => none }
def RailWaysWrongFalsely : Prop := railWaysRow.holds Tryd.pinned (OpenSpec.ofChange railWaysWrong)

/- THE SECOND FORM. 'bulk': how many values and letters a reading holds, each counted each time it is reached (what is shared counts as often as it is met; a slice's spare places count too). A statement '..UptoSaid' is the law's where the arguments, and the package variables that the reading takes, are together of bulk at most 1048576: NARROWER than '..Said'. Prove '..Said' where nothing that the law and all that it calls make is longer than what came in: it says more and counts as full. Else prove '..UptoSaid'. A law counts once. -/
mutual
def uptoBulk {H : Type} : DataW H → Nat
  | .lit (.string bytes) => bytes.length + 1
  | .lit _ => 1
  | .nil => 1
  | .ptr d => uptoBulk d + 1
  | .slice elems spare => uptoBulkAll elems + uptoBulkAll spare + 1
  | .agg parts => uptoBulkAll parts + 1
  | .iface _ d => uptoBulk d + 1
  | .map entries => uptoBulkEntries entries + 1
  | .held _ => 1
def uptoBulkAll {H : Type} : List (DataW H) → Nat
  | [] => 0
  | d :: r => uptoBulk d + uptoBulkAll r
def uptoBulkEntries {H : Type} : List (Lit × DataW H) → Nat
  | [] => 0
  | x :: r => uptoBulkEntry x + uptoBulkEntries r
def uptoBulkEntry {H : Type} : Lit × DataW H → Nat
  | (.string bytes, d) => bytes.length + uptoBulk d + 1
  | (_, d) => uptoBulk d + 1
 end
def uptoSmall : (H : Type) → List (DataW H) → Bool := fun _ ds => decide (uptoBulkAll ds ≤ 1048576)
def OpenSpec.upto (s : _root_.Go.ChangeSpec) : _root_.Go.OpenSpec := { _root_.Go.OpenSpec.ofChange s with cond := some uptoSmall }

/-- 'hinterlandlaw03.RailValidates', WHERE WHAT IT READS IS OF BULK AT MOST 1048576: true; the input reads as it did. -/
def railValidatesUptoRow : OpenClaim := { program := "ytlpmahdplilbiaadoor", sum := "e1ef718f93662960a4983d9b7cd3e24c854075e36a5bbb68484c26c2265d4758", func := "hinterland/hinterlandlaw03.RailValidates", spec := "railValidates", named := ["hinterland/rail.ends"], plainKeys := false, apart := false, laid := [("hinterland/rail.ends", laid_hinterland_rail_ends)], narrowed := true }
def RailValidatesUptoSaid : Prop := railValidatesUptoRow.holds Tryd.pinned (OpenSpec.upto railValidatesSpec)

/-- 'hinterlandlaw03.RailEnds', WHERE WHAT IT READS IS OF BULK AT MOST 1048576: true; the input reads as it did. -/
def railEndsUptoRow : OpenClaim := { program := "ytlpmahdplilbiaadoor", sum := "e1ef718f93662960a4983d9b7cd3e24c854075e36a5bbb68484c26c2265d4758", func := "hinterland/hinterlandlaw03.RailEnds", spec := "railEnds", named := ["hinterland/rail.ends"], plainKeys := false, apart := false, laid := [("hinterland/rail.ends", laid_hinterland_rail_ends)], narrowed := true }
def RailEndsUptoSaid : Prop := railEndsUptoRow.holds Tryd.pinned (OpenSpec.upto railEndsSpec)

/-- 'hinterlandlaw03.RailCosts', WHERE WHAT IT READS IS OF BULK AT MOST 1048576: true; the input reads as it did. -/
def railCostsUptoRow : OpenClaim := { program := "ytlpmahdplilbiaadoor", sum := "e1ef718f93662960a4983d9b7cd3e24c854075e36a5bbb68484c26c2265d4758", func := "hinterland/hinterlandlaw03.RailCosts", spec := "railCosts", named := ["hinterland/rail.ends"], plainKeys := false, apart := false, laid := [("hinterland/rail.ends", laid_hinterland_rail_ends)], narrowed := true }
def RailCostsUptoSaid : Prop := railCostsUptoRow.holds Tryd.pinned (OpenSpec.upto railCostsSpec)

/-- 'hinterlandlaw03.RailLays', WHERE WHAT IT READS IS OF BULK AT MOST 1048576: true; the input reads as it did. -/
def railLaysUptoRow : OpenClaim := { program := "ytlpmahdplilbiaadoor", sum := "e1ef718f93662960a4983d9b7cd3e24c854075e36a5bbb68484c26c2265d4758", func := "hinterland/hinterlandlaw03.RailLays", spec := "railLays", named := ["hinterland/rail.ends"], plainKeys := false, apart := false, laid := [("hinterland/rail.ends", laid_hinterland_rail_ends)], narrowed := true }
def RailLaysUptoSaid : Prop := railLaysUptoRow.holds Tryd.pinned (OpenSpec.upto railLaysSpec)

/-- 'hinterlandlaw03.RailLifts', WHERE WHAT IT READS IS OF BULK AT MOST 1048576: true; the input reads as it did. -/
def railLiftsUptoRow : OpenClaim := { program := "ytlpmahdplilbiaadoor", sum := "e1ef718f93662960a4983d9b7cd3e24c854075e36a5bbb68484c26c2265d4758", func := "hinterland/hinterlandlaw03.RailLifts", spec := "railLifts", named := ["hinterland/rail.ends"], plainKeys := false, apart := false, laid := [("hinterland/rail.ends", laid_hinterland_rail_ends)], narrowed := true }
def RailLiftsUptoSaid : Prop := railLiftsUptoRow.holds Tryd.pinned (OpenSpec.upto railLiftsSpec)

/-- 'hinterlandlaw03.RailUndone', WHERE WHAT IT READS IS OF BULK AT MOST 1048576: true; the input reads as it did. -/
def railUndoneUptoRow : OpenClaim := { program := "ytlpmahdplilbiaadoor", sum := "e1ef718f93662960a4983d9b7cd3e24c854075e36a5bbb68484c26c2265d4758", func := "hinterland/hinterlandlaw03.RailUndone", spec := "railUndone", named := ["hinterland/rail.ends"], plainKeys := false, apart := false, laid := [("hinterland/rail.ends", laid_hinterland_rail_ends)], narrowed := true }
def RailUndoneUptoSaid : Prop := railUndoneUptoRow.holds Tryd.pinned (OpenSpec.upto railUndoneSpec)

/-- 'hinterlandlaw03.RailNexts', WHERE WHAT IT READS IS OF BULK AT MOST 1048576: true; the input reads as it did. -/
def railNextsUptoRow : OpenClaim := { program := "ytlpmahdplilbiaadoor", sum := "e1ef718f93662960a4983d9b7cd3e24c854075e36a5bbb68484c26c2265d4758", func := "hinterland/hinterlandlaw03.RailNexts", spec := "railNexts", named := ["hinterland/rail.ends"], plainKeys := false, apart := false, laid := [("hinterland/rail.ends", laid_hinterland_rail_ends)], narrowed := true }
def RailNextsUptoSaid : Prop := railNextsUptoRow.holds Tryd.pinned (OpenSpec.upto railNextsSpec)

/-- 'hinterlandlaw03.RailTurned', WHERE WHAT IT READS IS OF BULK AT MOST 1048576: true; the input reads as it did. -/
def railTurnedUptoRow : OpenClaim := { program := "ytlpmahdplilbiaadoor", sum := "e1ef718f93662960a4983d9b7cd3e24c854075e36a5bbb68484c26c2265d4758", func := "hinterland/hinterlandlaw03.RailTurned", spec := "railTurned", named := ["hinterland/rail.ends"], plainKeys := false, apart := false, laid := [("hinterland/rail.ends", laid_hinterland_rail_ends)], narrowed := true }
def RailTurnedUptoSaid : Prop := railTurnedUptoRow.holds Tryd.pinned (OpenSpec.upto railTurnedSpec)

/-- 'hinterlandlaw03.RailReaches', WHERE WHAT IT READS IS OF BULK AT MOST 1048576: true; the input reads as it did. -/
def railReachesUptoRow : OpenClaim := { program := "ytlpmahdplilbiaadoor", sum := "e1ef718f93662960a4983d9b7cd3e24c854075e36a5bbb68484c26c2265d4758", func := "hinterland/hinterlandlaw03.RailReaches", spec := "railReaches", unfollowed := true, recurses := true, named := ["hinterland/rail.ends"], plainKeys := false, apart := false, laid := [("hinterland/rail.ends", laid_hinterland_rail_ends)], narrowed := true }
def RailReachesUptoSaid : Prop := railReachesUptoRow.holds Tryd.pinned (OpenSpec.upto railReachesSpec)

/-- 'hinterlandlaw03.RailParts', WHERE WHAT IT READS IS OF BULK AT MOST 1048576: true; the input reads as it did. -/
def railPartsUptoRow : OpenClaim := { program := "ytlpmahdplilbiaadoor", sum := "e1ef718f93662960a4983d9b7cd3e24c854075e36a5bbb68484c26c2265d4758", func := "hinterland/hinterlandlaw03.RailParts", spec := "railParts", unfollowed := true, recurses := true, named := ["hinterland/rail.ends"], plainKeys := false, apart := false, laid := [("hinterland/rail.ends", laid_hinterland_rail_ends)], narrowed := true }
def RailPartsUptoSaid : Prop := railPartsUptoRow.holds Tryd.pinned (OpenSpec.upto railPartsSpec)

/-- 'hinterlandlaw03.RailLoose', WHERE WHAT IT READS IS OF BULK AT MOST 1048576: true; the input reads as it did. -/
def railLooseUptoRow : OpenClaim := { program := "ytlpmahdplilbiaadoor", sum := "e1ef718f93662960a4983d9b7cd3e24c854075e36a5bbb68484c26c2265d4758", func := "hinterland/hinterlandlaw03.RailLoose", spec := "railLoose", named := ["hinterland/rail.ends"], plainKeys := false, apart := false, laid := [("hinterland/rail.ends", laid_hinterland_rail_ends)], narrowed := true }
def RailLooseUptoSaid : Prop := railLooseUptoRow.holds Tryd.pinned (OpenSpec.upto railLooseSpec)

/-- 'hinterlandlaw03.RailWays', WHERE WHAT IT READS IS OF BULK AT MOST 1048576: true; the input reads as it did. -/
def railWaysUptoRow : OpenClaim := { program := "ytlpmahdplilbiaadoor", sum := "e1ef718f93662960a4983d9b7cd3e24c854075e36a5bbb68484c26c2265d4758", func := "hinterland/hinterlandlaw03.RailWays", spec := "railWays", named := ["hinterland/rail.ends"], plainKeys := false, apart := false, laid := [("hinterland/rail.ends", laid_hinterland_rail_ends)], narrowed := true }
def RailWaysUptoSaid : Prop := railWaysUptoRow.holds Tryd.pinned (OpenSpec.upto railWaysSpec)

end Rows
end Go.Proofs.YtlpmahdplilbiaaDoor
