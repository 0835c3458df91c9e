/-
  Tracks in plain numbers: the ends of pieces, sets of pieces, which rails are right.
-/
namespace Go.Proofs.YtbfpcolkbfljoaaDoor

/-- The two sides of a piece; -1: no such piece. -/
def fst (p : Int) : Int := if p = 0 ∨ p = 2 then 0 else if p = 1 ∨ p = 3 then 1 else if p = 4 then 2 else if p = 5 then 3 else -1
def snd (p : Int) : Int := if p = 0 ∨ p = 3 then 2 else if p = 1 ∨ p = 4 then 3 else if p = 2 then 1 else if p = 5 then 0 else -1
/-- The other end of a piece that has an end at a side; -1: it has none there. -/
def oth (p s : Int) : Int := if s < 0 then -1 else if fst p = s then snd p else if snd p = s then fst p else -1
theorem fst_in {p : Int} (h : 0 ≤ p) (h' : p ≤ 5) : 0 ≤ fst p ∧ fst p ≤ 3 := by
  rcases (show p = 0 ∨ p = 1 ∨ p = 2 ∨ p = 3 ∨ p = 4 ∨ p = 5 by omega) with rfl | rfl | rfl | rfl | rfl | rfl <;> decide
theorem snd_in {p : Int} (h : 0 ≤ p) (h' : p ≤ 5) : 0 ≤ snd p ∧ snd p ≤ 3 := by
  rcases (show p = 0 ∨ p = 1 ∨ p = 2 ∨ p = 3 ∨ p = 4 ∨ p = 5 by omega) with rfl | rfl | rfl | rfl | rfl | rfl <;> decide
theorem fst_ne {p : Int} (h : 0 ≤ p) (h' : p ≤ 5) : fst p ≠ snd p := by
  rcases (show p = 0 ∨ p = 1 ∨ p = 2 ∨ p = 3 ∨ p = 4 ∨ p = 5 by omega) with rfl | rfl | rfl | rfl | rfl | rfl <;> decide
theorem fst_out {p : Int} (h : ¬ (0 ≤ p ∧ p ≤ 5)) : fst p = -1 := by
  unfold fst; rw [if_neg (by omega), if_neg (by omega), if_neg (by omega), if_neg (by omega)]
theorem snd_out {p : Int} (h : ¬ (0 ≤ p ∧ p ≤ 5)) : snd p = -1 := by
  unfold snd; rw [if_neg (by omega), if_neg (by omega), if_neg (by omega), if_neg (by omega)]
theorem fst_iff (p : Int) : 0 ≤ fst p ↔ 0 ≤ p ∧ p ≤ 5 := by
  by_cases h : 0 ≤ p ∧ p ≤ 5
  · exact ⟨fun _ => h, fun _ => (fst_in h.1 h.2).1⟩
  · rw [fst_out h]; omega
theorem oth_out {p : Int} (h : ¬ (0 ≤ p ∧ p ≤ 5)) (s : Int) : oth p s = -1 := by
  unfold oth; rw [fst_out h, snd_out h]; split <;> simp
theorem oth_yes {p s : Int} (h : 0 ≤ oth p s) : (0 ≤ p ∧ p ≤ 5) ∧ 0 ≤ s ∧ s ≤ 3 ∧ oth p s ≤ 3 ∧ ((s = fst p ∧ oth p s = snd p) ∨ (s = snd p ∧ s ≠ fst p ∧ oth p s = fst p)) := by
  by_cases hp : 0 ≤ p ∧ p ≤ 5
  · have h1 := fst_in hp.1 hp.2
    have h2 := snd_in hp.1 hp.2
    refine ⟨hp, ?_⟩
    unfold oth at h ⊢
    by_cases h0 : s < 0
    · rw [if_pos h0] at h; omega
    · rw [if_neg h0] at h ⊢
      by_cases ha : fst p = s
      · rw [if_pos ha] at h ⊢; omega
      · rw [if_neg ha] at h ⊢
        by_cases hb : snd p = s
        · rw [if_pos hb] at h ⊢; omega
        · rw [if_neg hb] at h; omega
  · rw [oth_out hp] at h; omega
theorem oth_back {p s : Int} (h : 0 ≤ oth p s) : oth p (oth p s) = s := by
  obtain ⟨hp, h0, h3, h4, h⟩ := oth_yes h
  have h1 := fst_in hp.1 hp.2
  have h2 := snd_in hp.1 hp.2
  have hne := fst_ne hp.1 hp.2
  rcases h with ⟨h, h'⟩ | ⟨h, hn, h'⟩
  · rw [h', h]; unfold oth; rw [if_neg (by omega), if_neg (by omega), if_pos rfl]
  · rw [h', h]; unfold oth; rw [if_neg (by omega), if_pos rfl]

/-- The sides are allowed. -/
def Sized (W H : Int) : Prop := (4 ≤ W ∧ W ≤ 32) ∧ 4 ≤ H ∧ H ≤ 32
/-- A tile's set and wire are right. -/
def Fine (z : Int) (b : Bool) : Prop := 0 ≤ z ∧ z ≤ 63 ∧ (z = 0 → b = false)
structure Right (W H : Int) (n m : Nat) (Z : Nat → Int) (B : Nat → Bool) : Prop where
  sized : Sized W H
  sets : (n : Int) = W * H
  wires : (m : Int) = W * H
  fine : ∀ i, i < n → Fine (Z i) (B i)
theorem Sized.bound {W H : Int} (h : Sized W H) : 16 ≤ W * H ∧ W * H ≤ 1024 := by
  obtain ⟨⟨h1, h2⟩, h3, h4⟩ := h
  have a : W * H ≤ 32 * 32 := Int.mul_le_mul (by omega) (by omega) (by omega) (by omega)
  have b : 4 * 4 ≤ W * H := Int.mul_le_mul (by omega) (by omega) (by omega) (by omega)
  omega

/-- How many pieces a set has. -/
def pop (z : Int) : Int := z % 2 + z / 2 % 2 + z / 4 % 2 + z / 8 % 2 + z / 16 % 2 + z / 32 % 2
/-- Whether a set has a piece. -/
def has (z p : Int) : Bool := z / 2 ^ p.toNat % 2 == 1
end Go.Proofs.YtbfpcolkbfljoaaDoor
