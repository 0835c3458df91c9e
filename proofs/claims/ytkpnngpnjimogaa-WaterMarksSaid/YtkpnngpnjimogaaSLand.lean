/-
  Lands as lists of heights: which are right, which first error they have.
-/
namespace Go.Proofs.Ytkpnngpnjimogaa

/-- The distance of two numbers. -/
def dist (a b : Int) : Int := if a < b then b - a else a - b
theorem dist_comm (a b : Int) : dist a b = dist b a := by unfold dist; split <;> split <;> omega
theorem dist_nn (a b : Int) : 0 ≤ dist a b := by unfold dist; split <;> omega
theorem dist_le {a b c : Int} : dist a b ≤ c ↔ a - b ≤ c ∧ b - a ≤ c := by unfold dist; split <;> omega

/-- The sides are allowed, and there are as many heights. -/
def Sized (W H : Int) : Prop := (4 ≤ W ∧ W ≤ 32) ∧ 4 ≤ H ∧ H ≤ 32
def Shaped (W H : Int) (n : Nat) : Prop := Sized W H ∧ (n : Int) = (W + 1) * (H + 1)
/-- All heights are allowed. -/
def High (n : Nat) (Z : Nat → Int) : Prop := ∀ i, i < n → 0 ≤ Z i ∧ Z i ≤ 15
/-- Ahead of the i-th corner: the one to the west and the one to the north are within one step. -/
def West (W : Int) (Z : Nat → Int) (i : Nat) : Prop := 0 < (i : Int) % (W + 1) → dist (Z i) (Z (i - 1)) ≤ 1
def North (W : Int) (Z : Nat → Int) (i : Nat) : Prop := W + 1 ≤ i → dist (Z i) (Z ((i : Int) - (W + 1)).toNat) ≤ 1
structure Valid (W H : Int) (n : Nat) (Z : Nat → Int) : Prop where
  shaped : Shaped W H n
  high : High n Z
  near : ∀ i, i < n → West W Z i ∧ North W Z i
/-- The first error of a land. -/
def VErr (W H : Int) (n : Nat) (Z : Nat → Int) (e : Int) : Prop :=
  (e = 1 ∧ (¬ Shaped W H n ∨ ¬ High n Z)) ∨ (e = 5 ∧ Shaped W H n ∧ High n Z ∧ ¬ ∀ i, i < n → West W Z i ∧ North W Z i) ∨ (e = 0 ∧ Valid W H n Z)
theorem VErr.ex (W H : Int) (n : Nat) (Z : Nat → Int) : ∃ e, VErr W H n Z e := by
  by_cases h1 : Shaped W H n
  · by_cases h2 : High n Z
    · by_cases h3 : ∀ i, i < n → West W Z i ∧ North W Z i
      · exact ⟨0, .inr (.inr ⟨rfl, h1, h2, h3⟩)⟩
      · exact ⟨5, .inr (.inl ⟨rfl, h1, h2, h3⟩)⟩
    · exact ⟨1, .inl ⟨rfl, .inr h2⟩⟩
  · exact ⟨1, .inl ⟨rfl, .inl h1⟩⟩
theorem VErr.ok {W H : Int} {n : Nat} {Z : Nat → Int} (h : VErr W H n Z 0) : Valid W H n Z := by
  rcases h with ⟨h, _⟩ | ⟨h, _⟩ | ⟨_, h⟩
  · cases h
  · cases h
  · exact h
theorem Valid.err {W H : Int} {n : Nat} {Z : Nat → Int} (h : Valid W H n Z) : VErr W H n Z 0 := .inr (.inr ⟨rfl, h⟩)
theorem VErr.one {W H : Int} {n : Nat} {Z : Nat → Int} {e e' : Int} (h : VErr W H n Z e) (h' : VErr W H n Z e') : e = e' := by
  rcases h with ⟨h, a⟩ | ⟨h, a, b, c⟩ | ⟨h, a⟩ <;> rcases h' with ⟨h', a'⟩ | ⟨h', a', b', c'⟩ | ⟨h', a'⟩ <;> subst h <;> subst h'
  · rfl
  · rcases a with a | a
    · exact absurd a' a
    · exact absurd b' a
  · rcases a with a | a
    · exact absurd a'.shaped a
    · exact absurd a'.high a
  · rcases a' with a' | a'
    · exact absurd a a'
    · exact absurd b a'
  · rfl
  · exact absurd a'.near c
  · rcases a' with a' | a'
    · exact absurd a.shaped a'
    · exact absurd a.high a'
  · exact absurd a.near c'
  · rfl
theorem Shaped.bound {W H : Int} {n : Nat} (h : Shaped W H n) : 25 ≤ n ∧ n ≤ 1089 := by
  obtain ⟨⟨⟨h1, h2⟩, h3, h4⟩, h5⟩ := h
  have a : (W + 1) * (H + 1) ≤ 33 * 33 := Int.mul_le_mul (by omega) (by omega) (by omega) (by omega)
  have b : 5 * 5 ≤ (W + 1) * (H + 1) := Int.mul_le_mul (by omega) (by omega) (by omega) (by omega)
  omega
theorem emod_le {a b : Int} (ha : 0 ≤ a) (hb : 0 < b) : a % b ≤ a := by
  have h := Int.emod_add_mul_ediv a b
  have : 0 ≤ b * (a / b) := Int.mul_nonneg (by omega) (Int.ediv_nonneg ha (by omega))
  omega
end Go.Proofs.Ytkpnngpnjimogaa
