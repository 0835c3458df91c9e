/-
  The walk of validatePlace; what laying and lifting a piece gives, in plain numbers.
-/
import Derived.Test.YtlpmahdplilbiabDoorWalkLies
import Derived.Test.YtlpmahdplilbiabDoorBox
namespace Go.Proofs.YtlpmahdplilbiabDoor
open Go.RowKit

/-- The error of a place: rails that are wrong, no piece, no tile. -/
def PErr (W H : Int) (n m : Nat) (Z : Nat → Int) (B : Nat → Bool) (t p e : Int) : Prop :=
  (e = 1 ∧ ¬ Right W H n m Z B) ∨ (e = 1 ∧ Right W H n m Z B ∧ ¬ (0 ≤ p ∧ p ≤ 5)) ∨ (e = 2 ∧ Right W H n m Z B ∧ (0 ≤ p ∧ p ≤ 5) ∧ ¬ (0 ≤ t ∧ t < n)) ∨
    (e = 0 ∧ Right W H n m Z B ∧ (0 ≤ p ∧ p ≤ 5) ∧ 0 ≤ t ∧ t < n)
theorem verr_ok {W H : Int} {n m : Nat} {Z : Nat → Int} {B : Nat → Bool} (h : Right W H n m Z B) : VErr W H n m Z B 0 := .inl ⟨rfl, h⟩
theorem verr_no {W H : Int} {n m : Nat} {Z : Nat → Int} {B : Nat → Bool} (h : ¬ Right W H n m Z B) : VErr W H n m Z B 1 := .inr ⟨rfl, h⟩

end Go.Proofs.YtlpmahdplilbiabDoor
