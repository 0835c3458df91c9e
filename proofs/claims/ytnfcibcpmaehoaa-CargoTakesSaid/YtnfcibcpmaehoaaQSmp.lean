/-
  How symMerge parts two ranges, without the model.
-/
import Derived.Test.YtnfcibcpmaehoaaQPrm
namespace Go.Proofs.Ytnfcibcpmaehoaa

/-- Where the search begins and ends. -/
structure SBd (a m b mid s r : Nat) : Prop where
  le : s ≤ r
  s0 : s = a ∨ s + b = mid + m
  r0 : r = m ∨ r = mid
  sa : a ≤ s
  rm : r ≤ m
  rmid : r ≤ mid
  up : mid + m ≤ s + b
theorem sbd {a m b mid : Nat} (ha : a + 2 ≤ m) (hb : m + 2 ≤ b) (h : mid = (a + b) / 2) : (mid < m → SBd a m b mid (mid + m - b) mid) ∧ (¬ mid < m → SBd a m b mid a m) :=
  ⟨fun h1 => ⟨by omega, .inr (by omega), .inr rfl, by omega, by omega, by omega, by omega⟩, fun h1 => ⟨by omega, .inl rfl, .inl rfl, by omega, by omega, by omega, by omega⟩⟩
theorem sym_lo {r : Nat → Int} {a m b mid s0 q0 s e : Nat} {F : Nat → Nat} (h1 : Srt r a m F) (h2 : Srt r m b F) (hb : SBd a m b mid s0 q0) (hs : s0 ≤ s) (hq : s ≤ q0) (he : e + s = mid + m)
    (inv : ∀ c, s0 ≤ c → c < s → r (F c) < r (F (mid + m - 1 - c))) : ∀ x y, a ≤ x → x < s → e ≤ y → y < b → r (F x) < r (F y) := fun x y x1 x2 y1 y2 => by
  have := hb.rm
  have := hb.rmid
  by_cases c : s = s0
  · rcases hb.s0 with h | h <;> omega
  · have h3 := inv (s - 1) (by omega) (by omega)
    rw [show mid + m - 1 - (s - 1) = e by omega] at h3
    have h4 : r (F x) ≤ r (F (s - 1)) := by
      by_cases d : x = s - 1
      · subst d; exact Int.le_refl _
      · exact Int.le_of_lt (h1 x (s - 1) x1 (by omega) (by omega))
    have h5 : r (F e) ≤ r (F y) := by
      by_cases d : y = e
      · subst d; exact Int.le_refl _
      · exact Int.le_of_lt (h2 e y (by omega) (by omega) y2)
    omega
theorem sym_hi {r : Nat → Int} {a m b mid s0 q0 s e : Nat} {F : Nat → Nat} (h1 : Srt r a m F) (h2 : Srt r m b F) (hb : SBd a m b mid s0 q0) (hs : s0 ≤ s) (hq : s ≤ q0) (he : e + s = mid + m)
    (inv : ∀ c, s ≤ c → c < q0 → r (F (mid + m - 1 - c)) < r (F c)) : ∀ x y, m ≤ x → x < e → s ≤ y → y < m → r (F x) < r (F y) := fun x y x1 x2 y1 y2 => by
  have := hb.rm
  have := hb.rmid
  have := hb.sa
  have := hb.up
  by_cases c : s = q0
  · rcases hb.r0 with h | h <;> omega
  · have h3 := inv s (Nat.le_refl _) (by omega)
    rw [show mid + m - 1 - s = e - 1 by omega] at h3
    have h4 : r (F x) ≤ r (F (e - 1)) := by
      by_cases d : x = e - 1
      · subst d; exact Int.le_refl _
      · exact Int.le_of_lt (h2 x (e - 1) x1 (by omega) (by omega))
    have h5 : r (F s) ≤ r (F y) := by
      by_cases d : y = s
      · subst d; exact Int.le_refl _
      · exact Int.le_of_lt (h1 s y (by omega) (by omega) y2)
    omega
/-- A comparison in the search, and what it tells of the places below or above. -/
theorem sym_yes {r : Nat → Int} {a m b mid s0 q0 c : Nat} {F : Nat → Nat} (h1 : Srt r a m F) (h2 : Srt r m b F) (hb : SBd a m b mid s0 q0) (hc1 : s0 ≤ c) (hc2 : c < q0) (h : r (F (mid + m - 1 - c)) < r (F c)) :
    ∀ d, c ≤ d → d < q0 → r (F (mid + m - 1 - d)) < r (F d) := fun d d1 d2 => by
  have := hb.rm
  have := hb.rmid
  have := hb.sa
  have := hb.up
  by_cases e : d = c
  · subst e; exact h
  · have h3 := h1 c d (by omega) (by omega) (by omega)
    have h4 := h2 (mid + m - 1 - d) (mid + m - 1 - c) (by omega) (by omega) (by omega)
    omega
theorem sym_no {r : Nat → Int} {a m b mid s0 q0 c : Nat} {F : Nat → Nat} (h1 : Srt r a m F) (h2 : Srt r m b F) (hb : SBd a m b mid s0 q0) (hc1 : s0 ≤ c) (hc2 : c < q0) (h : r (F c) < r (F (mid + m - 1 - c))) :
    ∀ d, s0 ≤ d → d < c + 1 → r (F d) < r (F (mid + m - 1 - d)) := fun d d1 d2 => by
  have := hb.rm
  have := hb.rmid
  have := hb.sa
  have := hb.up
  by_cases e : d = c
  · subst e; exact h
  · have h3 := h1 d c (by omega) (by omega) (by omega)
    have h4 := h2 (mid + m - 1 - c) (mid + m - 1 - d) (by omega) (by omega) (by omega)
    omega
/-- Where the rotation ends. -/
theorem sym_bd {a m b mid s0 q0 s e : Nat} (hb : SBd a m b mid s0 q0) (hs : s0 ≤ s) (hq : s ≤ q0) (he : e + s = mid + m) : a ≤ s ∧ s ≤ m ∧ m ≤ e ∧ e ≤ b ∧ s + (e - m) = mid := by
  have := hb.rm
  have := hb.rmid
  have := hb.sa
  have := hb.up
  omega
end Go.Proofs.Ytnfcibcpmaehoaa
