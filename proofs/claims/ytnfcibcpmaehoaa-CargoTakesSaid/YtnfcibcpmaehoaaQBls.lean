/-
  A sort by blocks, without the model.
-/
import Derived.Test.YtnfcibcpmaehoaaQPrm
namespace Go.Proofs.Ytnfcibcpmaehoaa

/-- Blocks of s are sorted, and up to a blocks of t are; between blocks the order of the beginning stands. -/
def Bs (r : Nat → Int) (N s t a : Nat) (F : Nat → Nat) : Prop := ∀ p q, p < q → q < N → (((q < a ∧ p / t = q / t) ∨ p / s = q / s) → r (F p) < r (F q)) ∧ (¬ ((q < a ∧ p / t = q / t) ∨ p / s = q / s) → F p < F q)
theorem dv {t k p : Nat} (h1 : t * k ≤ p) (h2 : p < t * k + t) : p / t = k := by
  have ht : 0 < t := by omega
  rw [Nat.div_eq_iff ht]
  rw [Nat.mul_comm] at h1 h2
  omega
theorem dv_lt {t k p : Nat} (h2 : p < t * k) : p / t < k := by rw [Nat.div_lt_iff_lt_mul (by cases t <;> simp at h2 ⊢)]; rw [Nat.mul_comm]; exact h2
theorem dv_le {t k p : Nat} (ht : 0 < t) (h2 : t * k + t ≤ p) : k < p / t := by
  have : k + 1 ≤ p / t := by rw [Nat.le_div_iff_mul_le ht, Nat.add_mul, Nat.mul_comm]; omega
  omega
theorem Bs.start (r : Nat → Int) (N t : Nat) : Bs r N 1 t 0 (fun p => p) := fun p q pq qN => by
  have hn : ¬ ((q < 0 ∧ p / t = q / t) ∨ p / 1 = q / 1) := by simp; omega
  exact ⟨fun h => absurd h hn, fun _ => pq⟩
theorem Bs.step {r : Nat → Int} {N s t k b : Nat} {F G : Nat → Nat} (h : Bs r N s t (t * k) F) (hst : ∀ p q, p / s = q / s → p / t = q / t) (ht : 0 < t) (hb : b = t * k + t ∨ (b = N ∧ N ≤ t * k + t)) (hab : t * k ≤ b) (hbN : b ≤ N) (h1 : Srt r (t * k) b G) (h2 : In (t * k) b F G) : Bs r N s t b G := by
  obtain ⟨a, ha⟩ : ∃ a, t * k = a := ⟨_, rfl⟩
  have hlo (p : Nat) (hp : p < a) : p / t < k := dv_lt (by omega)
  have hmid (p : Nat) (h1 : a ≤ p) (h2 : p < b) : p / t = k := dv (by omega) (by omega)
  have hhi (p : Nat) (h1 : b ≤ p) (h2 : p < N) : k < p / t := dv_le ht (by omega)
  rw [ha] at h h1 h2 hab
  intro p q pq qN
  by_cases pa : p < a
  · have ep := h2.out p (.inl pa)
    by_cases qa : q < a
    · have eq := h2.out q (.inl qa)
      rw [ep, eq]
      have := h p q pq qN
      refine ⟨fun c => this.1 ?_, fun c => this.2 ?_⟩
      · rcases c with ⟨_, c⟩ | c
        · exact .inl ⟨qa, c⟩
        · exact .inr c
      · intro d; apply c
        rcases d with ⟨_, d⟩ | d
        · exact .inl ⟨by omega, d⟩
        · exact .inr d
    · by_cases qb : q < b
      · obtain ⟨q', q1, q2, e⟩ := h2.mem q (by omega) qb
        have n1 : p / t ≠ q / t := by have := hlo p pa; have := hmid q (by omega) qb; omega
        have n2 : p / t ≠ q' / t := by have := hlo p pa; have := hmid q' q1 q2; omega
        rw [ep, e]
        refine ⟨fun c => ?_, fun _ => (h p q' (by omega) (by omega)).2 ?_⟩
        · rcases c with ⟨_, c⟩ | c
          · exact absurd c n1
          · exact absurd (hst _ _ c) n1
        · rintro (⟨_, c⟩ | c)
          · exact n2 c
          · exact n2 (hst _ _ c)
      · have eq := h2.out q (.inr (by omega))
        rw [ep, eq]
        have := h p q pq qN
        refine ⟨fun c => this.1 ?_, fun c => this.2 ?_⟩
        · rcases c with ⟨c, _⟩ | c
          · omega
          · exact .inr c
        · intro d; apply c
          rcases d with ⟨d, _⟩ | d
          · omega
          · exact .inr d
  · by_cases qb : q < b
    · have e1 := hmid p (by omega) (by omega)
      have e2 := hmid q (by omega) qb
      exact ⟨fun _ => h1 p q (by omega) pq qb, fun c => absurd (.inl ⟨qb, by omega⟩) c⟩
    · have eq := h2.out q (.inr (by omega))
      by_cases pb : p < b
      · obtain ⟨p', p1, p2, e⟩ := h2.mem p (by omega) pb
        have n1 : p / t ≠ q / t := by have := hhi q (by omega) qN; have := hmid p (by omega) pb; omega
        have n2 : p' / t ≠ q / t := by have := hhi q (by omega) qN; have := hmid p' p1 p2; omega
        rw [e, eq]
        refine ⟨fun c => ?_, fun _ => (h p' q (by omega) (by omega)).2 ?_⟩
        · rcases c with ⟨_, c⟩ | c
          · exact absurd c n1
          · exact absurd (hst _ _ c) n1
        · rintro (⟨_, c⟩ | c)
          · exact n2 c
          · exact n2 (hst _ _ c)
      · have ep := h2.out p (.inr (by omega))
        rw [ep, eq]
        have := h p q pq qN
        refine ⟨fun c => this.1 ?_, fun c => this.2 ?_⟩
        · rcases c with ⟨c, _⟩ | c
          · omega
          · exact .inr c
        · intro d; apply c
          rcases d with ⟨d, _⟩ | d
          · omega
          · exact .inr d
/-- The next blocks. -/
theorem Bs.next {r : Nat → Int} {N s t u : Nat} {F : Nat → Nat} (h : Bs r N s t N F) (hst : ∀ p q, p / s = q / s → p / t = q / t) : Bs r N t u 0 F := fun p q pq qN => by
  have := h p q pq qN
  refine ⟨fun c => this.1 ?_, fun c => this.2 ?_⟩
  · rcases c with ⟨c, _⟩ | c
    · omega
    · exact .inl ⟨qN, c⟩
  · intro d; apply c
    rcases d with ⟨_, d⟩ | d
    · exact .inr d
    · exact .inr (hst _ _ d)
/-- A last block that has no other. -/
theorem Bs.alone {r : Nat → Int} {N s k : Nat} {F : Nat → Nat} (h : Bs r N s (s * 2) (s * 2 * k) F) (hs : 0 < s) (hN : N ≤ s * 2 * k + s) : Bs r N s (s * 2) N F := fun p q pq qN => by
  have := h p q pq qN
  obtain ⟨a, ha⟩ : ∃ a, s * 2 * k = a := ⟨_, rfl⟩
  rw [ha] at this hN
  have hin (p : Nat) (h1 : a ≤ p) (h2 : p < N) : p / s = 2 * k := by
    refine dv ?_ ?_
    · rw [← Nat.mul_assoc]; omega
    · rw [← Nat.mul_assoc]; omega
  refine ⟨fun c => this.1 ?_, fun c => this.2 ?_⟩
  · rcases c with ⟨_, c⟩ | c
    · by_cases qa : q < a
      · exact .inl ⟨qa, c⟩
      · have hq : q / (s * 2) = k := dv (by omega) (by omega)
        have hp : a ≤ p := by
          by_cases pa : p < a
          · have := dv_lt (t := s * 2) (k := k) (p := p) (by omega); omega
          · omega
        exact .inr ((hin p hp (by omega)).trans (hin q (by omega) qN).symm)
    · exact .inr c
  · intro d; apply c
    rcases d with ⟨_, d⟩ | d
    · exact .inl ⟨qN, d⟩
    · exact .inr d
theorem Bs.srt {r : Nat → Int} {N s t : Nat} {F : Nat → Nat} (h : Bs r N s t 0 F) (hs : N ≤ s) : Srt r 0 N F := fun p q _ pq qN =>
  (h p q pq qN).1 (.inr (by rw [Nat.div_eq_of_lt (by omega), Nat.div_eq_of_lt (by omega)]))
/-- What a block's sort is told. -/
theorem Bs.ord {r : Nat → Int} {N t a b : Nat} {F : Nat → Nat} (h : Bs r N 1 t a F) (hb : b ≤ N) : ∀ p q, a ≤ p → p < q → q < b → F p < F q := fun p q p1 pq qb =>
  (h p q pq (by omega)).2 (by rintro (⟨c, _⟩ | c); { omega }; { simp at c; omega })
/-- What a merge is told. -/
theorem Bs.merge {r : Nat → Int} {N s k b : Nat} {F : Nat → Nat} (h : Bs r N s (s * 2) (s * 2 * k) F) (hb : b ≤ N) : Srt r (s * 2 * k) (s * 2 * k + s) F ∨ b < s * 2 * k + s := by
  by_cases c : b < s * 2 * k + s
  · exact .inr c
  · refine .inl fun p q p1 pq q1 => (h p q pq (by omega)).1 (.inr ?_)
    have e : s * 2 * k = s * (2 * k) := Nat.mul_assoc _ _ _
    rw [dv (t := s) (k := 2 * k) (p := p) (by omega) (by omega), dv (t := s) (k := 2 * k) (p := q) (by omega) (by omega)]
theorem Bs.merge2 {r : Nat → Int} {N s k b : Nat} {F : Nat → Nat} (h : Bs r N s (s * 2) (s * 2 * k) F) (hb : b ≤ N) (hb2 : b ≤ s * 2 * k + s * 2) : Srt r (s * 2 * k + s) b F := fun p q p1 pq q1 =>
  (h p q pq (by omega)).1 (.inr (by
    have e : s * (2 * k + 1) = s * 2 * k + s := by rw [Nat.mul_add, Nat.mul_one, Nat.mul_assoc]
    rw [dv (t := s) (k := 2 * k + 1) (p := p) (by omega) (by omega), dv (t := s) (k := 2 * k + 1) (p := q) (by omega) (by omega)]))
theorem Bs.idx {r : Nat → Int} {N s k b : Nat} {F : Nat → Nat} (h : Bs r N s (s * 2) (s * 2 * k) F) (hb : b ≤ N) (hb2 : b ≤ s * 2 * k + s * 2) : Idx (s * 2 * k) (s * 2 * k + s) b F := fun p q p1 p2 q1 q2 =>
  (h p q (by omega) (by omega)).2 (by
    rintro (⟨c, _⟩ | c)
    · omega
    · have e : s * 2 * k = s * (2 * k) := Nat.mul_assoc _ _ _
      have e2 : s * (2 * k + 1) = s * 2 * k + s := by rw [Nat.mul_add, Nat.mul_one, Nat.mul_assoc]
      rw [dv (t := s) (k := 2 * k) (p := p) (by omega) (by omega), dv (t := s) (k := 2 * k + 1) (p := q) (by omega) (by omega)] at c
      omega)
theorem dv_one {t : Nat} : ∀ p q, p / 1 = q / 1 → p / t = q / t := fun p q h => by rw [Nat.div_one, Nat.div_one] at h; rw [h]
theorem dv_two {s : Nat} : ∀ p q, p / s = q / s → p / (s * 2) = q / (s * 2) := fun p q h => by rw [← Nat.div_div_eq_div_mul, ← Nat.div_div_eq_div_mul, h]
end Go.Proofs.Ytnfcibcpmaehoaa
