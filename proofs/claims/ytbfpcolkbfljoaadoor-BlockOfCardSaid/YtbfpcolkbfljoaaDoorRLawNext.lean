/-
  The walk of the law on the spots behind a spot.
-/
import Derived.Test.YtbfpcolkbfljoaaDoorRWalkNext
namespace Go.Proofs.YtbfpcolkbfljoaaDoor
open Go.RowKit

theorem row_slice {w : World} {B : Nat} {e : TypeId} {size n : Nat} {v : Value} {xs : List Value} (h : w.ownsRow B e size v n xs) : ∃ ao cap, v = .slice ao n cap := by
  rcases h.2 with ⟨rfl, rfl⟩ | ⟨g, cap, _, rfl, _⟩
  · exact ⟨none, 0, rfl⟩
  · exact ⟨_, _, rfl⟩
theorem encS_get (L : List (Int × Int × Int)) : ∀ j, j < L.length → (encS L)[j * 3]? = some (.int .i64 (L.getD j (0, 0, 0)).1) ∧ (encS L)[j * 3 + 1]? = some (.int .i64 (L.getD j (0, 0, 0)).2.1) ∧ (encS L)[j * 3 + 2]? = some (.int .i64 (L.getD j (0, 0, 0)).2.2) := by
  induction L with
  | nil => intro j hj; simp at hj
  | cons a L ih =>
    intro j hj
    cases j with
    | zero => exact ⟨rfl, rfl, rfl⟩
    | succ j =>
      have h := ih j (by simpa using hj)
      rw [show (j + 1) * 3 = j * 3 + 3 by omega]
      exact h
end Go.Proofs.YtbfpcolkbfljoaaDoor
