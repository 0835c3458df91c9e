/-
  An insertion, without the model.
-/
import Derived.Test.YtnfcibcpmaehoaaQPrm
namespace Go.Proofs.Ytnfcibcpmaehoaa

/-- The element from i has come to j; the others are sorted. -/
structure Ins (r : Nat → Int) (a i j : Nat) (f F : Nat → Nat) : Prop where
  x : F j = f i
  mem : ∀ p, a ≤ p → p ≤ i → p ≠ j → ∃ q, a ≤ q ∧ q < i ∧ F p = f q
  srt : ∀ p q, a ≤ p → p < q → q ≤ i → q ≠ j → r (F p) < r (F q)
  inn : In a (i + 1) f F
theorem Ins.start {r : Nat → Int} {a i : Nat} {f : Nat → Nat} (h : Srt r a i f) : Ins r a i i f f :=
  ⟨rfl, fun p p1 p2 p3 => ⟨p, p1, by omega, rfl⟩, fun p q p1 pq q1 q2 => h p q p1 pq (by omega), In.refl _ _ _⟩
theorem Ins.step {r : Nat → Int} {a i j o : Nat} {f F : Nat → Nat} (h : Ins r a i j f F) (ho : o + 1 = j) (hj : a ≤ o) (hji : j ≤ i) (hr : r (F j) < r (F o)) : Ins r a i o f (swp F j o) := by
  have e1 : swp F j o o = F j := by unfold swp; rw [if_neg (by omega), if_pos rfl]
  have e2 : swp F j o j = F o := by unfold swp; rw [if_pos rfl]
  have e3 (p : Nat) (h1 : p ≠ j) (h2 : p ≠ o) : swp F j o p = F p := by unfold swp; rw [if_neg h1, if_neg h2]
  refine ⟨by rw [e1]; exact h.x, fun p p1 p2 p3 => ?_, fun p q p1 pq q1 q2 => ?_, h.inn.trans (In.swp F (by omega) (by omega))⟩
  · by_cases c : p = j
    · subst c; rw [e2]; exact h.mem o hj (by omega) (by omega)
    · rw [e3 p c p3]; exact h.mem p p1 p2 c
  · by_cases c : q = j
    · subst c
      rw [e2]
      by_cases d : p = o
      · subst d; rw [e1]; exact hr
      · rw [e3 p (by omega) d]; exact h.srt p o p1 (by omega) (by omega) (by omega)
    · rw [e3 q c q2]
      by_cases d : p = j
      · subst d; rw [e2]; exact h.srt o q hj (by omega) q1 c
      · by_cases d2 : p = o
        · subst d2; rw [e1]; exact h.srt j q (by omega) (by omega) q1 c
        · rw [e3 p d d2]; exact h.srt p q p1 pq q1 c
theorem Ins.done {r : Nat → Int} {a i j : Nat} {f F : Nat → Nat} (h : Ins r a i j f F) (hji : j ≤ i) (hr : a < j → r (F (j - 1)) < r (F j)) : Srt r a (i + 1) F := fun p q p1 pq q1 => by
  by_cases c : q = j
  · subst c
    have h1 := hr (by omega)
    by_cases d : p = q - 1
    · subst d; exact h1
    · have := h.srt p (q - 1) p1 (by omega) (by omega) (by omega); omega
  · exact h.srt p q p1 pq (by omega) c
/-- The order of the beginning still tells the moved one from the others. -/
theorem Ins.idx {r : Nat → Int} {a i j p : Nat} {f F : Nat → Nat} (h : Ins r a i j f F) (hi : ∀ q, a ≤ q → q < i → f q < f i) (p1 : a ≤ p) (p2 : p ≤ i) (p3 : p ≠ j) : F p < F j := by
  obtain ⟨q, q1, q2, e⟩ := h.mem p p1 p2 p3
  rw [e, h.x]; exact hi q q1 q2
/-- In the midst of an insertion sort. -/
structure InsS (r : Nat → Int) (a i : Nat) (f F : Nat → Nat) : Prop where
  srt : Srt r a i F
  inn : In a i f F
theorem InsS.start (r : Nat → Int) (a : Nat) (f : Nat → Nat) : InsS r a (a + 1) f f := ⟨fun p q p1 pq q1 => by omega, In.refl _ _ _⟩
theorem InsS.idx {r : Nat → Int} {a i b : Nat} {f F : Nat → Nat} (h : InsS r a i f F) (hi : i < b) (hf : ∀ p q, a ≤ p → p < q → q < b → f p < f q) : ∀ q, a ≤ q → q < i → F q < F i := fun q q1 q2 => by
  obtain ⟨s, s1, s2, e⟩ := h.inn.mem q q1 q2
  rw [e, h.inn.out i (by omega)]
  exact hf s i s1 s2 hi
theorem InsS.next {r : Nat → Int} {a i : Nat} {f F G : Nat → Nat} (h : InsS r a i f F) (h1 : Srt r a (i + 1) G) (h2 : In a (i + 1) F G) : InsS r a (i + 1) f G :=
  ⟨h1, (h.inn.widen (Nat.le_refl _) (by omega)).trans h2⟩
theorem InsS.end_ {r : Nat → Int} {a i b : Nat} {f F : Nat → Nat} (h : InsS r a i f F) (hi : ¬ i < b) (hi2 : i ≤ b ∨ i = a + 1) (hab : a ≤ b) : Srt r a b F ∧ In a b f F := by
  by_cases e : i = b
  · subst e; exact ⟨h.srt, h.inn⟩
  · have e1 : a = b := by omega
    subst e1
    refine ⟨fun p q p1 pq q1 => by omega, ⟨fun p hp => ?_, fun p p1 p2 => by omega⟩⟩
    by_cases c : p = a
    · obtain ⟨q, q1, q2, e⟩ := h.inn.mem p (by omega) (by omega)
      rw [e]; congr 1; omega
    · exact h.inn.out p (by omega)
end Go.Proofs.Ytnfcibcpmaehoaa
