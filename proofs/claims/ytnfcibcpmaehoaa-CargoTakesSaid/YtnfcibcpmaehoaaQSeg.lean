/-
  What is taken of a load and what is left, without the model.
-/
import Derived.Test.YtnfcibcpmaehoaaQTk
import Derived.Test.YtnfcibcpmaehoaaQSpl
namespace Go.Proofs.Ytnfcibcpmaehoaa

/-- The lists of the places from a on, d of them, one behind the other. -/
def seg (f : Nat → List Par) (a : Nat) : Nat → List Par
  | 0 => []
  | d + 1 => seg f a d ++ f (a + d)
theorem seg_congr {f g : Nat → List Par} {a : Nat} : ∀ {d : Nat}, (∀ i, a ≤ i → i < a + d → f i = g i) → seg f a d = seg g a d
  | 0, _ => rfl
  | d + 1, h => by
    show seg f a d ++ f (a + d) = seg g a d ++ g (a + d)
    rw [seg_congr (fun i h1 h2 => h i h1 (by omega)), h (a + d) (by omega) (by omega)]
theorem seg_add (f : Nat → List Par) (a d : Nat) : ∀ e, seg f a (d + e) = seg f a d ++ seg f (a + d) e
  | 0 => by simp [seg]
  | e + 1 => by
    show seg f a (d + e) ++ f (a + (d + e)) = seg f a d ++ (seg f (a + d) e ++ f (a + d + e))
    rw [seg_add f a d e, List.append_assoc, Nat.add_assoc]
theorem seg_split (f : Nat → List Par) {x n : Nat} (h : x < n) : seg f 0 n = seg f 0 x ++ (f x ++ seg f (x + 1) (n - x - 1)) := by
  have e : n = x + (1 + (n - x - 1)) := by omega
  conv => lhs; rw [e]
  rw [seg_add, seg_add]
  simp [seg]
theorem mem_seg {f : Nat → List Par} {a : Nat} {y : Par} : ∀ {d : Nat}, y ∈ seg f a d ↔ ∃ i, a ≤ i ∧ i < a + d ∧ y ∈ f i
  | 0 => ⟨fun h => by simp [seg] at h, fun ⟨i, h1, h2, _⟩ => by omega⟩
  | d + 1 => by
    show y ∈ seg f a d ++ f (a + d) ↔ _
    rw [List.mem_append, mem_seg]
    constructor
    · rintro (⟨i, h1, h2, h3⟩ | h)
      · exact ⟨i, h1, by omega, h3⟩
      · exact ⟨a + d, by omega, by omega, h⟩
    · rintro ⟨i, h1, h2, h3⟩
      by_cases e : i = a + d
      · subst e; exact .inr h3
      · exact .inl ⟨i, h1, by omega, h3⟩
theorem seg_len {f : Nat → List Par} {a : Nat} (h : ∀ i, (f i).length ≤ 1) : ∀ d, (seg f a d).length ≤ d
  | 0 => Nat.le_refl _
  | d + 1 => by
    show (seg f a d ++ f (a + d)).length ≤ _
    rw [List.length_append]
    have := seg_len (a := a) h d
    have := h (a + d)
    omega
/-- What is taken at a place, and what is left there. -/
def fT (P : Nat → Par) (C : Nat → Int) (i : Nat) : List Par := if 0 < C i then [prt (P i) (C i)] else []
def fL (P : Nat → Par) (C : Nat → Int) (i : Nat) : List Par := if 0 < (P i).c - C i then [rst (P i) (C i)] else []
theorem fT_len (P : Nat → Par) (C : Nat → Int) (i : Nat) : (fT P C i).length ≤ 1 := by unfold fT; split <;> simp
theorem fL_len (P : Nat → Par) (C : Nat → Int) (i : Nat) : (fL P C i).length ≤ 1 := by unfold fL; split <;> simp
abbrev tkn (P : Nat → Par) (C : Nat → Int) (n : Nat) : List Par := seg (fT P C) 0 n
abbrev lft (P : Nat → Par) (C : Nat → Int) (n : Nat) : List Par := seg (fL P C) 0 n
theorem tkn_yes {P : Nat → Par} {C : Nat → Int} {i : Nat} (h : 0 < C i) : tkn P C (i + 1) = tkn P C i ++ [prt (P i) (C i)] := by
  have e : fT P C (0 + i) = [prt (P i) (C i)] := by rw [Nat.zero_add]; unfold fT; rw [if_pos h]
  show seg _ 0 i ++ _ = _
  rw [e]
theorem tkn_no {P : Nat → Par} {C : Nat → Int} {i : Nat} (h : ¬ 0 < C i) : tkn P C (i + 1) = tkn P C i := by
  have e : fT P C (0 + i) = [] := by rw [Nat.zero_add]; unfold fT; rw [if_neg h]
  show seg _ 0 i ++ _ = _
  rw [e, List.append_nil]
theorem lft_yes {P : Nat → Par} {C : Nat → Int} {i : Nat} (h : 0 < (P i).c - C i) : lft P C (i + 1) = lft P C i ++ [rst (P i) (C i)] := by
  have e : fL P C (0 + i) = [rst (P i) (C i)] := by rw [Nat.zero_add]; unfold fL; rw [if_pos h]
  show seg _ 0 i ++ _ = _
  rw [e]
theorem lft_no {P : Nat → Par} {C : Nat → Int} {i : Nat} (h : ¬ 0 < (P i).c - C i) : lft P C (i + 1) = lft P C i := by
  have e : fL P C (0 + i) = [] := by rw [Nat.zero_add]; unfold fL; rw [if_neg h]
  show seg _ 0 i ++ _ = _
  rw [e, List.append_nil]
theorem prt_all {x : Par} (h : okP x) : prt x x.c = x := by
  have := h.c1
  obtain ⟨k, f, t, a, c, s⟩ := x
  unfold prt
  dsimp only at *
  rw [Int.mul_ediv_cancel _ (by omega)]
theorem rst_none (x : Par) : rst x 0 = x := by
  obtain ⟨k, f, t, a, c, s⟩ := x
  unfold rst
  dsimp only
  rw [Int.mul_zero, Int.zero_ediv, Int.sub_zero, Int.sub_zero]
/-- What Take answers. -/
def TkV (n : Nat) (P : Nat → Par) (k u : Int) (tl ll : List Par) (er : Int) : Prop :=
  (LErr n P ≠ 0 ∧ tl = [] ∧ ll = [] ∧ er = LErr n P) ∨ (LErr n P = 0 ∧ u < 0 ∧ tl = [] ∧ ll = [] ∧ er = 1) ∨ (LErr n P = 0 ∧ 0 ≤ u ∧ er = 0 ∧ ∃ q σ, Sg n P k q σ ∧ tl = tkn P (cS P σ u q) n ∧ ll = lft P (cS P σ u q) n)
theorem Sg.same {n : Nat} {P : Nat → Par} {k : Int} {q q' : Nat} {σ τ : Nat → Nat} (h : Sg n P k q σ) (h' : Sg n P k q' τ) : ∀ j, j < q → j < q' ∧ σ j = τ j := fun j => by
  induction j using Nat.strongRecOn with
  | ind j ih =>
    intro hj
    obtain ⟨a, ha, e⟩ := h'.all (σ j) (h.lt j hj).1 (h.lt j hj).2
    have hja : j ≤ a := by
      by_cases c : a < j
      · have := (ih a c (by omega)).2
        exact absurd (this.trans e) (h.ne c hj)
      · omega
    refine ⟨by omega, ?_⟩
    by_cases c : a = j
    · subst c; exact e.symm
    · obtain ⟨b, hb, eb⟩ := h.all (τ j) (h'.lt j (by omega)).1 (h'.lt j (by omega)).2
      have r := h'.asc j a (by omega) ha
      rw [e, ← eb] at r
      have hbj : b < j := by
        by_cases c1 : b = j
        · subst c1; omega
        · by_cases c2 : j < b
          · have := h.asc j b c2 hb; omega
          · omega
      have := (ih b hbj hb).2
      exact absurd (this.symm.trans eb) (h'.ne hbj (by omega))
theorem Sg.one {n : Nat} {P : Nat → Par} {k : Int} {q q' : Nat} {σ τ : Nat → Nat} (h : Sg n P k q σ) (h' : Sg n P k q' τ) : q = q' := by
  have a : q ≤ q' := by
    by_cases c : q' < q
    · have := (h.same h' q' c).1; omega
    · omega
  have b : q' ≤ q := by
    by_cases c : q < q'
    · have := (h'.same h q c).1; omega
    · omega
  omega
theorem cS_same {P : Nat → Par} {σ τ : Nat → Nat} {u : Int} {q : Nat} (h : ∀ j, j < q → σ j = τ j) : ∀ j, j ≤ q → uS P σ u j = uS P τ u j ∧ cS P σ u j = cS P τ u j
  | 0, _ => ⟨rfl, rfl⟩
  | j + 1, hj => by
    have ih := cS_same (P := P) (u := u) h j (by omega)
    have e := h j (by omega)
    refine ⟨?_, ?_⟩
    · show uS P σ u j - _ = uS P τ u j - _
      rw [ih.1, e]
    · funext i
      show (if i = σ j then _ else _) = (if i = τ j then _ else _)
      rw [ih.1, ih.2, e]
theorem TkV.one {n : Nat} {P : Nat → Par} {k u : Int} {tl ll tl' ll' : List Par} {er er' : Int} (h : TkV n P k u tl ll er) (h' : TkV n P k u tl' ll' er') : tl = tl' ∧ ll = ll' ∧ er = er' := by
  rcases h with ⟨a, b, c, d⟩ | ⟨a, z, b, c, d⟩ | ⟨a, z, d, q, σ, h1, b, c⟩ <;> rcases h' with ⟨a', b', c', d'⟩ | ⟨a', z', b', c', d'⟩ | ⟨a', z', d', q', τ, h1', b', c'⟩
  · exact ⟨b.trans b'.symm, c.trans c'.symm, d.trans d'.symm⟩
  · exact absurd a' a
  · exact absurd a' a
  · exact absurd a a'
  · exact ⟨b.trans b'.symm, c.trans c'.symm, d.trans d'.symm⟩
  · omega
  · exact absurd a a'
  · omega
  · have e := h1.one h1'
    subst e
    have := (cS_same (u := u) (P := P) (fun j hj => (h1.same h1' j hj).2) q (Nat.le_refl _)).2
    rw [b, c, b', c', this]
    exact ⟨rfl, rfl, d.trans d'.symm⟩
end Go.Proofs.Ytnfcibcpmaehoaa
