/-
  DERIVED. GIVEN WITH THE SEED: THE CARDS: each row of YtlpmahdplilbiaaDoorRows.lean that lists a variable, with what it lists TIED to the program's text (the seventh form; the later family's looks); each row that meets fmt, with fmt's text TOLD by the authors' own Lean function (tested against real Go, not proved from fmt's source: count such statements apart). THE CARD IS WHAT COUNTS. Prove the row's statement (the work); the ties are given (YtlpmahdplilbiaaDoorTie.lean); close each card by the builder's one call (the guide's Derived/Test/ToyasCard.lean, 'card_holds'). Laid BY PROGRAM, IN A SANDBOX (cutbox-door.mjs). By AI agents, Wed Nov 11 2026. No macro, syntax, notation, axiom, sorry.
-/
import Derived.Test.YtlpmahdplilbiaaDoorRows
import GoSem.ClaimSeven
namespace Go.Proofs.YtlpmahdplilbiaaDoor
namespace Rows

/-- THE TIED CARD OF 'hinterlandlaw03.RailValidates'. -/
def railValidatesCard : Claim7 := { stood := { row := railValidatesRow, standIns := [], harness := (true, "d0cf3ce16dd07cd4bb5bc4c890b76ae4f34041ef65c3201b0faad0b5288171e7"), looks := false }, kinds := [], alts := [], laidByText := true, laidKinds := [.data], laidTests := true, laidLooks := .later }
def RailValidatesCardSaid : Prop := Claim7.holds Tryd.pinned (.plain (OpenSpec.ofChange railValidatesSpec)) railValidatesCard

/-- THE TIED CARD OF 'hinterlandlaw03.RailEnds'. -/
def railEndsCard : Claim7 := { stood := { row := railEndsRow, standIns := [], harness := (true, "d0cf3ce16dd07cd4bb5bc4c890b76ae4f34041ef65c3201b0faad0b5288171e7"), looks := false }, kinds := [], alts := [], laidByText := true, laidKinds := [.data], laidTests := true, laidLooks := .later }
def RailEndsCardSaid : Prop := Claim7.holds Tryd.pinned (.plain (OpenSpec.ofChange railEndsSpec)) railEndsCard

/-- THE TIED CARD OF 'hinterlandlaw03.RailCosts'. -/
def railCostsCard : Claim7 := { stood := { row := railCostsRow, standIns := [], harness := (true, "d0cf3ce16dd07cd4bb5bc4c890b76ae4f34041ef65c3201b0faad0b5288171e7"), looks := false }, kinds := [], alts := [], laidByText := true, laidKinds := [.data], laidTests := true, laidLooks := .later }
def RailCostsCardSaid : Prop := Claim7.holds Tryd.pinned (.plain (OpenSpec.ofChange railCostsSpec)) railCostsCard

/-- THE TIED CARD OF 'hinterlandlaw03.RailLays'. -/
def railLaysCard : Claim7 := { stood := { row := railLaysRow, standIns := [], harness := (true, "d0cf3ce16dd07cd4bb5bc4c890b76ae4f34041ef65c3201b0faad0b5288171e7"), looks := false }, kinds := [], alts := [], laidByText := true, laidKinds := [.data], laidTests := true, laidLooks := .later }
def RailLaysCardSaid : Prop := Claim7.holds Tryd.pinned (.plain (OpenSpec.ofChange railLaysSpec)) railLaysCard

/-- THE TIED CARD OF 'hinterlandlaw03.RailLifts'. -/
def railLiftsCard : Claim7 := { stood := { row := railLiftsRow, standIns := [], harness := (true, "d0cf3ce16dd07cd4bb5bc4c890b76ae4f34041ef65c3201b0faad0b5288171e7"), looks := false }, kinds := [], alts := [], laidByText := true, laidKinds := [.data], laidTests := true, laidLooks := .later }
def RailLiftsCardSaid : Prop := Claim7.holds Tryd.pinned (.plain (OpenSpec.ofChange railLiftsSpec)) railLiftsCard

/-- THE TIED CARD OF 'hinterlandlaw03.RailUndone'. -/
def railUndoneCard : Claim7 := { stood := { row := railUndoneRow, standIns := [], harness := (true, "d0cf3ce16dd07cd4bb5bc4c890b76ae4f34041ef65c3201b0faad0b5288171e7"), looks := false }, kinds := [], alts := [], laidByText := true, laidKinds := [.data], laidTests := true, laidLooks := .later }
def RailUndoneCardSaid : Prop := Claim7.holds Tryd.pinned (.plain (OpenSpec.ofChange railUndoneSpec)) railUndoneCard

/-- THE TIED CARD OF 'hinterlandlaw03.RailNexts'. -/
def railNextsCard : Claim7 := { stood := { row := railNextsRow, standIns := [], harness := (true, "d0cf3ce16dd07cd4bb5bc4c890b76ae4f34041ef65c3201b0faad0b5288171e7"), looks := false }, kinds := [], alts := [], laidByText := true, laidKinds := [.data], laidTests := true, laidLooks := .later }
def RailNextsCardSaid : Prop := Claim7.holds Tryd.pinned (.plain (OpenSpec.ofChange railNextsSpec)) railNextsCard

/-- THE TIED CARD OF 'hinterlandlaw03.RailTurned'. -/
def railTurnedCard : Claim7 := { stood := { row := railTurnedRow, standIns := [], harness := (true, "d0cf3ce16dd07cd4bb5bc4c890b76ae4f34041ef65c3201b0faad0b5288171e7"), looks := false }, kinds := [], alts := [], laidByText := true, laidKinds := [.data], laidTests := true, laidLooks := .later }
def RailTurnedCardSaid : Prop := Claim7.holds Tryd.pinned (.plain (OpenSpec.ofChange railTurnedSpec)) railTurnedCard

/-- THE TIED CARD OF 'hinterlandlaw03.RailReaches'. -/
def railReachesCard : Claim7 := { stood := { row := railReachesRow, standIns := [], harness := (true, "d0cf3ce16dd07cd4bb5bc4c890b76ae4f34041ef65c3201b0faad0b5288171e7"), looks := false }, kinds := [], alts := [], laidByText := true, laidKinds := [.data], laidTests := true, laidLooks := .later }
def RailReachesCardSaid : Prop := Claim7.holds Tryd.pinned (.plain (OpenSpec.ofChange railReachesSpec)) railReachesCard

/-- THE TIED CARD OF 'hinterlandlaw03.RailParts'. -/
def railPartsCard : Claim7 := { stood := { row := railPartsRow, standIns := [], harness := (true, "d0cf3ce16dd07cd4bb5bc4c890b76ae4f34041ef65c3201b0faad0b5288171e7"), looks := false }, kinds := [], alts := [], laidByText := true, laidKinds := [.data], laidTests := true, laidLooks := .later }
def RailPartsCardSaid : Prop := Claim7.holds Tryd.pinned (.plain (OpenSpec.ofChange railPartsSpec)) railPartsCard

/-- THE TIED CARD OF 'hinterlandlaw03.RailLoose'. -/
def railLooseCard : Claim7 := { stood := { row := railLooseRow, standIns := [], harness := (true, "d0cf3ce16dd07cd4bb5bc4c890b76ae4f34041ef65c3201b0faad0b5288171e7"), looks := false }, kinds := [], alts := [], laidByText := true, laidKinds := [.data], laidTests := true, laidLooks := .later }
def RailLooseCardSaid : Prop := Claim7.holds Tryd.pinned (.plain (OpenSpec.ofChange railLooseSpec)) railLooseCard

/-- THE TIED CARD OF 'hinterlandlaw03.RailWays'. -/
def railWaysCard : Claim7 := { stood := { row := railWaysRow, standIns := [], harness := (true, "d0cf3ce16dd07cd4bb5bc4c890b76ae4f34041ef65c3201b0faad0b5288171e7"), looks := false }, kinds := [], alts := [], laidByText := true, laidKinds := [.data], laidTests := true, laidLooks := .later }
def RailWaysCardSaid : Prop := Claim7.holds Tryd.pinned (.plain (OpenSpec.ofChange railWaysSpec)) railWaysCard

/-- THE SECOND FORM's CARD OF 'hinterlandlaw03.RailValidates'. -/
def railValidatesUptoCard : Claim7 := { stood := { row := railValidatesUptoRow, standIns := [], harness := (true, "d0cf3ce16dd07cd4bb5bc4c890b76ae4f34041ef65c3201b0faad0b5288171e7"), looks := false }, kinds := [], alts := [], laidByText := true, laidKinds := [.data], laidTests := true, laidLooks := .later }
def RailValidatesUptoCardSaid : Prop := Claim7.holds Tryd.pinned (.plain (OpenSpec.upto railValidatesSpec)) railValidatesUptoCard

/-- THE SECOND FORM's CARD OF 'hinterlandlaw03.RailEnds'. -/
def railEndsUptoCard : Claim7 := { stood := { row := railEndsUptoRow, standIns := [], harness := (true, "d0cf3ce16dd07cd4bb5bc4c890b76ae4f34041ef65c3201b0faad0b5288171e7"), looks := false }, kinds := [], alts := [], laidByText := true, laidKinds := [.data], laidTests := true, laidLooks := .later }
def RailEndsUptoCardSaid : Prop := Claim7.holds Tryd.pinned (.plain (OpenSpec.upto railEndsSpec)) railEndsUptoCard

/-- THE SECOND FORM's CARD OF 'hinterlandlaw03.RailCosts'. -/
def railCostsUptoCard : Claim7 := { stood := { row := railCostsUptoRow, standIns := [], harness := (true, "d0cf3ce16dd07cd4bb5bc4c890b76ae4f34041ef65c3201b0faad0b5288171e7"), looks := false }, kinds := [], alts := [], laidByText := true, laidKinds := [.data], laidTests := true, laidLooks := .later }
def RailCostsUptoCardSaid : Prop := Claim7.holds Tryd.pinned (.plain (OpenSpec.upto railCostsSpec)) railCostsUptoCard

/-- THE SECOND FORM's CARD OF 'hinterlandlaw03.RailLays'. -/
def railLaysUptoCard : Claim7 := { stood := { row := railLaysUptoRow, standIns := [], harness := (true, "d0cf3ce16dd07cd4bb5bc4c890b76ae4f34041ef65c3201b0faad0b5288171e7"), looks := false }, kinds := [], alts := [], laidByText := true, laidKinds := [.data], laidTests := true, laidLooks := .later }
def RailLaysUptoCardSaid : Prop := Claim7.holds Tryd.pinned (.plain (OpenSpec.upto railLaysSpec)) railLaysUptoCard

/-- THE SECOND FORM's CARD OF 'hinterlandlaw03.RailLifts'. -/
def railLiftsUptoCard : Claim7 := { stood := { row := railLiftsUptoRow, standIns := [], harness := (true, "d0cf3ce16dd07cd4bb5bc4c890b76ae4f34041ef65c3201b0faad0b5288171e7"), looks := false }, kinds := [], alts := [], laidByText := true, laidKinds := [.data], laidTests := true, laidLooks := .later }
def RailLiftsUptoCardSaid : Prop := Claim7.holds Tryd.pinned (.plain (OpenSpec.upto railLiftsSpec)) railLiftsUptoCard

/-- THE SECOND FORM's CARD OF 'hinterlandlaw03.RailUndone'. -/
def railUndoneUptoCard : Claim7 := { stood := { row := railUndoneUptoRow, standIns := [], harness := (true, "d0cf3ce16dd07cd4bb5bc4c890b76ae4f34041ef65c3201b0faad0b5288171e7"), looks := false }, kinds := [], alts := [], laidByText := true, laidKinds := [.data], laidTests := true, laidLooks := .later }
def RailUndoneUptoCardSaid : Prop := Claim7.holds Tryd.pinned (.plain (OpenSpec.upto railUndoneSpec)) railUndoneUptoCard

/-- THE SECOND FORM's CARD OF 'hinterlandlaw03.RailNexts'. -/
def railNextsUptoCard : Claim7 := { stood := { row := railNextsUptoRow, standIns := [], harness := (true, "d0cf3ce16dd07cd4bb5bc4c890b76ae4f34041ef65c3201b0faad0b5288171e7"), looks := false }, kinds := [], alts := [], laidByText := true, laidKinds := [.data], laidTests := true, laidLooks := .later }
def RailNextsUptoCardSaid : Prop := Claim7.holds Tryd.pinned (.plain (OpenSpec.upto railNextsSpec)) railNextsUptoCard

/-- THE SECOND FORM's CARD OF 'hinterlandlaw03.RailTurned'. -/
def railTurnedUptoCard : Claim7 := { stood := { row := railTurnedUptoRow, standIns := [], harness := (true, "d0cf3ce16dd07cd4bb5bc4c890b76ae4f34041ef65c3201b0faad0b5288171e7"), looks := false }, kinds := [], alts := [], laidByText := true, laidKinds := [.data], laidTests := true, laidLooks := .later }
def RailTurnedUptoCardSaid : Prop := Claim7.holds Tryd.pinned (.plain (OpenSpec.upto railTurnedSpec)) railTurnedUptoCard

/-- THE SECOND FORM's CARD OF 'hinterlandlaw03.RailReaches'. -/
def railReachesUptoCard : Claim7 := { stood := { row := railReachesUptoRow, standIns := [], harness := (true, "d0cf3ce16dd07cd4bb5bc4c890b76ae4f34041ef65c3201b0faad0b5288171e7"), looks := false }, kinds := [], alts := [], laidByText := true, laidKinds := [.data], laidTests := true, laidLooks := .later }
def RailReachesUptoCardSaid : Prop := Claim7.holds Tryd.pinned (.plain (OpenSpec.upto railReachesSpec)) railReachesUptoCard

/-- THE SECOND FORM's CARD OF 'hinterlandlaw03.RailParts'. -/
def railPartsUptoCard : Claim7 := { stood := { row := railPartsUptoRow, standIns := [], harness := (true, "d0cf3ce16dd07cd4bb5bc4c890b76ae4f34041ef65c3201b0faad0b5288171e7"), looks := false }, kinds := [], alts := [], laidByText := true, laidKinds := [.data], laidTests := true, laidLooks := .later }
def RailPartsUptoCardSaid : Prop := Claim7.holds Tryd.pinned (.plain (OpenSpec.upto railPartsSpec)) railPartsUptoCard

/-- THE SECOND FORM's CARD OF 'hinterlandlaw03.RailLoose'. -/
def railLooseUptoCard : Claim7 := { stood := { row := railLooseUptoRow, standIns := [], harness := (true, "d0cf3ce16dd07cd4bb5bc4c890b76ae4f34041ef65c3201b0faad0b5288171e7"), looks := false }, kinds := [], alts := [], laidByText := true, laidKinds := [.data], laidTests := true, laidLooks := .later }
def RailLooseUptoCardSaid : Prop := Claim7.holds Tryd.pinned (.plain (OpenSpec.upto railLooseSpec)) railLooseUptoCard

/-- THE SECOND FORM's CARD OF 'hinterlandlaw03.RailWays'. -/
def railWaysUptoCard : Claim7 := { stood := { row := railWaysUptoRow, standIns := [], harness := (true, "d0cf3ce16dd07cd4bb5bc4c890b76ae4f34041ef65c3201b0faad0b5288171e7"), looks := false }, kinds := [], alts := [], laidByText := true, laidKinds := [.data], laidTests := true, laidLooks := .later }
def RailWaysUptoCardSaid : Prop := Claim7.holds Tryd.pinned (.plain (OpenSpec.upto railWaysSpec)) railWaysUptoCard
end Rows
end Go.Proofs.YtlpmahdplilbiaaDoor
