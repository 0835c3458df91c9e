/-
  The walk of the law on the ends of pieces and on spots turned round.
-/
import Derived.Test.YtbfpcolkbfljoaaDoorRWalkBack
namespace Go.Proofs.YtbfpcolkbfljoaaDoor
open Go.RowKit

def EndsIs (p x y f : Int) : Prop := ((0 ≤ p ∧ p ≤ 5) ∧ x = fst p ∧ y = snd p ∧ f = 0) ∨ (¬ (0 ≤ p ∧ p ≤ 5) ∧ x = 0 ∧ y = 0 ∧ f = 1)
theorem EndsIs.ex (p : Int) : ∃ x y f, EndsIs p x y f := by
  by_cases h : 0 ≤ p ∧ p ≤ 5
  · exact ⟨_, _, _, .inl ⟨h, rfl, rfl, rfl⟩⟩
  · exact ⟨_, _, _, .inr ⟨h, rfl, rfl, rfl⟩⟩
theorem ends_to {p x y f : Int} (h : EndsIs p x y f) (w : World) (hT : Tab w) : Calls Tryd.prog 130 #[.int .i64 p] w fun e w' =>
    e = .returned (.tuple #[.int .i64 x, .int .i64 y, .int .i64 f]) ∧ Below w.heap.size w w' := by
  rcases h with ⟨h, rfl, rfl, rfl⟩ | ⟨h, rfl, rfl, rfl⟩
  · exact ends_yes h w hT
  · exact ends_no h w
def BackIs (t p s t' p' s' g : Int) : Prop := (0 ≤ oth p s ∧ t' = t ∧ p' = p ∧ s' = oth p s ∧ g = 0) ∨ (oth p s < 0 ∧ t' = 0 ∧ p' = 0 ∧ s' = 0 ∧ g = 1)
theorem BackIs.ex (t p s : Int) : ∃ t' p' s' g, BackIs t p s t' p' s' g := by
  by_cases h : 0 ≤ oth p s
  · exact ⟨_, _, _, _, .inl ⟨h, rfl, rfl, rfl, rfl⟩⟩
  · exact ⟨_, _, _, _, .inr ⟨by omega, rfl, rfl, rfl, rfl⟩⟩
theorem BackIs.twice {t p s t' p' s' u q r i : Int} (h : BackIs t p s t' p' s' 0) (k : BackIs t' p' s' u q r i) : u = t ∧ q = p ∧ r = s ∧ i = 0 := by
  rcases h with ⟨h, rfl, rfl, rfl, _⟩ | ⟨_, _, _, _, h⟩
  · have hb := oth_back h
    rcases k with ⟨_, rfl, rfl, rfl, rfl⟩ | ⟨k, _⟩
    · exact ⟨rfl, rfl, hb, rfl⟩
    · have := (oth_yes h).2.1; omega
  · omega
theorem BackIs.err {t p s t' p' s' g : Int} (h : BackIs t p s t' p' s' g) : g = 0 ∨ g = 1 := by
  rcases h with ⟨_, _, _, _, h⟩ | ⟨_, _, _, _, h⟩
  · exact .inl h
  · exact .inr h
theorem back_to {t p s t' p' s' g : Int} (h : BackIs t p s t' p' s' g) (w : World) (hT : Tab w) : Calls Tryd.prog 78 #[sv t p s] w fun e w' =>
    e = .returned (.tuple #[sv t' p' s', .int .i64 g]) ∧ Below w.heap.size w w' := by
  rcases h with ⟨h, rfl, rfl, rfl, rfl⟩ | ⟨h, rfl, rfl, rfl, rfl⟩
  · exact back_yes h rfl w hT
  · exact back_no h w hT
end Go.Proofs.YtbfpcolkbfljoaaDoor
