/-
  A way that is turned round is a way.
-/
import Derived.Test.YtlpmahdplilbiabDoorWalkWay
import Derived.Test.YtlpmahdplilbiabDoorTurn
namespace Go.Proofs.YtlpmahdplilbiabDoor
open Go.RowKit

def turn (x : Int × Int × Int) : Int × Int × Int := (x.1, x.2.1, oth x.2.1 x.2.2)
theorem way_ok {W H : Int} {n m : Nat} {Z : Nat → Int} {B : Nat → Bool} {k : Nat} {S : Nat → Int × Int × Int} (h : WayIs W H n m Z B k S 0) :
    Right W H n m Z B ∧ (∀ i, i < k → IsSpot n Z (S i).1 (S i).2.1 (S i).2.2) ∧ (∀ i, i < k → StepAt W H Z S i) ∧ ∀ i, i < k → Fresh S i := by
  obtain ⟨e0, hE, ⟨h1, h2⟩ | ⟨rfl, h⟩⟩ := h
  · exact absurd h2.symm h1
  · obtain ⟨hR, hs⟩ := hE.ok
    rcases h with ⟨h, _⟩ | ⟨_, h, _⟩ | ⟨hst, hf, _⟩
    · cases h
    · cases h
    · exact ⟨hR, hs, hst, hf⟩
theorem spot_turn {n : Nat} {Z : Nat → Int} {x : Int × Int × Int} (h : IsSpot n Z x.1 x.2.1 x.2.2) : IsSpot n Z (turn x).1 (turn x).2.1 (turn x).2.2 := by
  refine ⟨?_, h.2⟩
  show 0 ≤ oth x.2.1 (oth x.2.1 x.2.2)
  rw [oth_back h.1]
  exact (oth_yes h.1).2.1
theorem way_back {W H : Int} {n m : Nat} {Z : Nat → Int} {B : Nat → Bool} {k : Nat} {S T : Nat → Int × Int × Int} (h : WayIs W H n m Z B k S 0) (hT : ∀ i, i < k → T i = turn (S (k - 1 - i))) : WayIs W H n m Z B k T 0 := by
  obtain ⟨hR, hs, hst, hf⟩ := way_ok h
  refine ⟨0, .inr ⟨hR, .inl ⟨rfl, fun i hi => ?_⟩⟩, .inr ⟨rfl, .inr (.inr ⟨fun i hi h0 => ?_, fun i hi => ?_, rfl⟩)⟩⟩
  · rw [hT i hi]
    exact spot_turn (hs _ (by omega))
  · rw [hT i hi, hT (i - 1) (by omega)]
    have e := hst (k - 1 - i + 1) (by omega) (by omega)
    rw [show k - 1 - i + 1 - 1 = k - 1 - i by omega] at e
    have := (nxt_back hR (hs (k - 1 - i) (by omega)) e).2
    rw [show k - 1 - (i - 1) = k - 1 - i + 1 by omega]
    exact this
  · rintro ⟨j, hj, e1, e2⟩
    rw [hT i hi, hT j (by omega)] at e1 e2
    exact hf (k - 1 - j) (by omega) ⟨k - 1 - i, by omega, e1.symm, e2.symm⟩
end Go.Proofs.YtlpmahdplilbiabDoor
