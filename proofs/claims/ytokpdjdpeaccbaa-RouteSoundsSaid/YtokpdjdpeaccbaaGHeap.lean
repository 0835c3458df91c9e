/-
  Heaps, as pure facts: no way is better than the one above it.
-/
import Derived.Test.YtokpdjdpeaccbaaGRow
namespace Go.Proofs.Ytokpdjdpeaccbaa

section
variable {W : Type} (rk : W → Int × Int × Int)
def updG (L : Nat → W) (j : Nat) (x : W) : Nat → W := fun i => if i = j then x else L i
/-- Two change places. -/
def swp (L : Nat → W) (a b : Nat) : Nat → W := updG (updG L a (L b)) b (L a)
theorem swp_a {L : Nat → W} {a b : Nat} (h : a ≠ b) : swp L a b a = L b := by simp [swp, updG, h]
theorem swp_b (L : Nat → W) (a b : Nat) : swp L a b b = L a := by simp [swp, updG]
theorem swp_ne {L : Nat → W} {a b i : Nat} (h : i ≠ a) (h' : i ≠ b) : swp L a b i = L i := by simp [swp, updG, h, h']
def Heap (q : Nat) (L : Nat → W) : Prop := ∀ i, 0 < i → i < q → ¬ lt3 (rk (L i)) (rk (L ((i - 1) / 2)))
theorem Heap.root {q : Nat} {L : Nat → W} (h : Heap rk q L) : ∀ i, i < q → ¬ lt3 (rk (L i)) (rk (L 0)) := by
  intro i
  induction i using Nat.strongRecOn with
  | _ i ih =>
    intro hi
    by_cases h0 : i = 0
    · subst h0; exact lt3_irrefl _
    · exact lt3_trans_not (ih ((i - 1) / 2) (by omega) (by omega)) (h i (by omega) hi)
/-- What lies in a list. -/
def In (q : Nat) (L : Nat → W) (x : W) : Prop := ∃ i, i < q ∧ L i = x
theorem In.swp {q : Nat} {L : Nat → W} {a b : Nat} (ha : a < q) (hb : b < q) (x : W) : In q (swp L a b) x ↔ In q L x := by
  by_cases hab : a = b
  · subst hab
    have : Go.Proofs.Ytokpdjdpeaccbaa.swp L a a = L := by funext i; by_cases e : i = a <;> simp [Go.Proofs.Ytokpdjdpeaccbaa.swp, updG, e]
    rw [this]
  · constructor
    · rintro ⟨i, hi, rfl⟩
      by_cases h1 : i = a
      · subst h1; exact ⟨b, hb, (swp_a hab).symm⟩
      · by_cases h2 : i = b
        · subst h2; exact ⟨a, ha, (swp_b L a i).symm⟩
        · exact ⟨i, hi, (swp_ne h1 h2).symm⟩
    · rintro ⟨i, hi, rfl⟩
      by_cases h1 : i = a
      · subst h1; exact ⟨b, hb, swp_b L i b⟩
      · by_cases h2 : i = b
        · subst h2; exact ⟨a, ha, swp_a hab⟩
        · exact ⟨i, hi, swp_ne h1 h2⟩

/-- A way is on its way up. -/
structure Up (q at_ : Nat) (L : Nat → W) : Prop where
  o : ∀ i, 0 < i → i < q → i ≠ at_ → ¬ lt3 (rk (L i)) (rk (L ((i - 1) / 2)))
  k : ∀ i, 0 < at_ → 0 < i → i < q → (i - 1) / 2 = at_ → ¬ lt3 (rk (L i)) (rk (L ((at_ - 1) / 2)))
theorem Up.start {q : Nat} {L : Nat → W} (h : Heap rk q L) (x : W) : Up rk (q + 1) q (updG L q x) where
  o i h0 hi hne := by
    rw [show updG L q x i = L i by simp [updG, hne], show updG L q x ((i - 1) / 2) = L ((i - 1) / 2) by simp [updG]; intro e; omega]
    exact h i h0 (by omega)
  k i h0 h1 hi he := by omega
theorem Up.swap {q a : Nat} {L : Nat → W} (h : Up rk q a L) (ha : 0 < a) (haq : a < q) (hb : lt3 (rk (L a)) (rk (L ((a - 1) / 2)))) : Up rk q ((a - 1) / 2) (swp L a ((a - 1) / 2)) where
  o i h0 hi hne := by
    have hab : a ≠ (a - 1) / 2 := by omega
    by_cases h1 : i = a
    · subst h1; rw [swp_a hab, swp_b]; exact lt3_not hb
    · rw [swp_ne h1 hne]
      by_cases h2 : (i - 1) / 2 = (a - 1) / 2
      · rw [h2, swp_b]
        have := h.o i h0 hi h1
        rw [h2] at this
        unfold lt3 at *; omega
      · by_cases h3 : (i - 1) / 2 = a
        · rw [h3, swp_a hab]; exact h.k i ha h0 hi h3
        · rw [swp_ne h3 h2]; exact h.o i h0 hi h1
  k i h0 h1 hi he := by
    have hab : a ≠ (a - 1) / 2 := by omega
    have hp := h.o ((a - 1) / 2) h0 (by omega) (by omega)
    rw [swp_ne (i := ((a - 1) / 2 - 1) / 2) (by omega) (by omega)]
    by_cases h2 : i = a
    · subst h2; rw [swp_a hab]; exact hp
    · rw [swp_ne h2 (by omega)]
      have := h.o i h1 hi h2
      rw [he] at this
      exact lt3_trans_not hp this
theorem Up.done {q a : Nat} {L : Nat → W} (h : Up rk q a L) (hb : 0 < a → ¬ lt3 (rk (L a)) (rk (L ((a - 1) / 2)))) : Heap rk q L := fun i h0 hi => by
  by_cases e : i = a
  · subst e; exact hb h0
  · exact h.o i h0 hi e

/-- A way is on its way down. -/
structure Down (q at_ : Nat) (L : Nat → W) : Prop where
  o : ∀ i, 0 < i → i < q → (i - 1) / 2 ≠ at_ → ¬ lt3 (rk (L i)) (rk (L ((i - 1) / 2)))
  k : ∀ i, 0 < at_ → 0 < i → i < q → (i - 1) / 2 = at_ → ¬ lt3 (rk (L i)) (rk (L ((at_ - 1) / 2)))
theorem Down.start {q : Nat} {L : Nat → W} (h : Heap rk (q + 1) L) : Down rk q 0 (updG L 0 (L q)) where
  o i h0 hi hne := by
    rw [show updG L 0 (L q) i = L i by simp [updG]; intro e; omega, show updG L 0 (L q) ((i - 1) / 2) = L ((i - 1) / 2) by simp [updG]; intro e; omega]
    exact h i h0 (by omega)
  k i h0 := by omega
/-- The better one of the two below. -/
def Bet (q a b : Nat) (L : Nat → W) : Prop := (b = 2 * a + 1 ∧ (2 * a + 2 < q → ¬ lt3 (rk (L (2 * a + 2))) (rk (L (2 * a + 1))))) ∨ (b = 2 * a + 2 ∧ b < q ∧ lt3 (rk (L b)) (rk (L (2 * a + 1))))
theorem Bet.best {q a b : Nat} {L : Nat → W} (h : Bet rk q a b L) {i : Nat} (h0 : 0 < i) (hi : i < q) (he : (i - 1) / 2 = a) : ¬ lt3 (rk (L i)) (rk (L b)) := by
  have hi2 : i = 2 * a + 1 ∨ i = 2 * a + 2 := by omega
  rcases h with ⟨rfl, h⟩ | ⟨rfl, _, h⟩ <;> rcases hi2 with rfl | rfl
  · exact lt3_irrefl _
  · exact h hi
  · exact lt3_not h
  · exact lt3_irrefl _
theorem Bet.par {q a b : Nat} {L : Nat → W} (h : Bet rk q a b L) : (b - 1) / 2 = a ∧ 0 < b ∧ b ≠ a := by rcases h with ⟨rfl, _⟩ | ⟨rfl, _⟩ <;> omega
theorem Down.swap {q a b : Nat} {L : Nat → W} (h : Down rk q a L) (hb : Bet rk q a b L) (hbq : b < q) (hlt : lt3 (rk (L b)) (rk (L a))) : Down rk q b (swp L a b) where
  o i h0 hi hne := by
    obtain ⟨hp, hb0, hba⟩ := hb.par
    by_cases h1 : i = b
    · subst h1; rw [swp_b, hp, swp_a (Ne.symm hba)]; exact lt3_not hlt
    · by_cases h2 : i = a
      · subst h2
        rw [swp_a (Ne.symm hba), swp_ne (by omega) hne]
        exact h.k b h0 hb0 hbq hp
      · rw [swp_ne h2 h1]
        by_cases h3 : (i - 1) / 2 = a
        · rw [h3, swp_a (Ne.symm hba)]; exact hb.best rk h0 hi h3
        · rw [swp_ne h3 hne]; exact h.o i h0 hi h3
  k i h0 h1 hi he := by
    obtain ⟨hp, hb0, hba⟩ := hb.par
    have h2 : i ≠ a := fun e => by subst e; omega
    have h3 : i ≠ b := by omega
    rw [hp, swp_ne h2 h3, swp_a (Ne.symm hba)]
    have := h.o i h1 hi (by omega)
    rwa [he] at this
theorem Down.done {q a b : Nat} {L : Nat → W} (h : Down rk q a L) (hb : Bet rk q a b L) (hx : b < q → ¬ lt3 (rk (L b)) (rk (L a))) : Heap rk q L := fun i h0 hi => by
  by_cases e : (i - 1) / 2 = a
  · have hbq : b < q := by
      have := hb.par
      rcases hb with ⟨rfl, _⟩ | ⟨rfl, h, _⟩ <;> omega
    rw [e]
    exact lt3_trans_not (hx hbq) (hb.best rk h0 hi e)
  · exact h.o i h0 hi e
end
end Go.Proofs.Ytokpdjdpeaccbaa
