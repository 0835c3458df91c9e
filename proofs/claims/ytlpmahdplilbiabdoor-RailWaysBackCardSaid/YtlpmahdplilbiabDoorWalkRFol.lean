/-
  The walk of follow of the reference: the spots behind a spot.
-/
import Derived.Test.YtlpmahdplilbiabDoorWalkFol
namespace Go.Proofs.YtlpmahdplilbiabDoor
open Go.RowKit

end Go.Proofs.YtlpmahdplilbiabDoor
