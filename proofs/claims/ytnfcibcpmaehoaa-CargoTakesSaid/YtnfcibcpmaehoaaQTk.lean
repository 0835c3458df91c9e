/-
  Which units are the oldest, without the model.
-/
import Derived.Test.YtnfcibcpmaehoaaQPrm
import Derived.Test.YtnfcibcpmaehoaaQPar
namespace Go.Proofs.Ytnfcibcpmaehoaa

/-- No value twice and none beyond: then all. -/
theorem Pf.surj : ∀ (N : Nat) (f : Nat → Nat), Pf N f → ∀ v, v < N → ∃ p, p < N ∧ f p = v
  | 0, _, _, v, hv => absurd hv (by omega)
  | N + 1, f, h, v, hv => by
    by_cases e : f N = v
    · exact ⟨N, by omega, e⟩
    · have hg : Pf N (fun p => if f p = N then f N else f p) := by
        refine ⟨fun p q hp hq e => ?_, fun p hp => ?_⟩
        · by_cases a : f p = N
          · by_cases b : f q = N
            · exact h.inj p q (by omega) (by omega) (a.trans b.symm)
            · rw [if_pos a, if_neg b] at e
              have := h.inj N q (by omega) (by omega) e; omega
          · by_cases b : f q = N
            · rw [if_neg a, if_pos b] at e
              have := h.inj p N (by omega) (by omega) e; omega
            · rw [if_neg a, if_neg b] at e
              exact h.inj p q (by omega) (by omega) e
        · by_cases a : f p = N
          · rw [if_pos a]
            have h1 := h.lt N (by omega)
            have h2 : f N ≠ N := fun c => by have := h.inj p N (by omega) (by omega) (a.trans c.symm); omega
            omega
          · rw [if_neg a]
            have := h.lt p (by omega); omega
      by_cases hvN : v < N
      · obtain ⟨p, hp, hx⟩ := Pf.surj N _ hg v hvN
        by_cases a : f p = N
        · rw [if_pos a] at hx; exact absurd hx e
        · rw [if_neg a] at hx; exact ⟨p, by omega, hx⟩
      · obtain rfl : v = N := by omega
        have h1 := h.lt v (by omega)
        obtain ⟨p, hp, hx⟩ := Pf.surj v _ hg (f v) (by omega)
        by_cases a : f p = v
        · exact ⟨p, by omega, a⟩
        · rw [if_neg a] at hx
          have := h.inj p v (by omega) (by omega) hx; omega
/-- The places of a kind, the oldest first. -/
structure Sg (n : Nat) (P : Nat → Par) (k : Int) (q : Nat) (σ : Nat → Nat) : Prop where
  lt : ∀ j, j < q → σ j < n ∧ (P (σ j)).k = k
  asc : ∀ i j, i < j → j < q → (P (σ j)).a < (P (σ i)).a ∨ (P (σ i)).a = (P (σ j)).a ∧ σ i < σ j
  all : ∀ x, x < n → (P x).k = k → ∃ j, j < q ∧ σ j = x
theorem Sg.ne {n : Nat} {P : Nat → Par} {k : Int} {q : Nat} {σ : Nat → Nat} (h : Sg n P k q σ) {i j : Nat} (hij : i < j) (hj : j < q) : σ i ≠ σ j := fun e => by
  have := h.asc i j hij hj
  rw [e] at this; omega
/-- What is still to be taken, and what has been taken where. -/
def uS (P : Nat → Par) (σ : Nat → Nat) (u : Int) : Nat → Int
  | 0 => u
  | j + 1 => uS P σ u j - min (uS P σ u j) (P (σ j)).c
def cS (P : Nat → Par) (σ : Nat → Nat) (u : Int) : Nat → Nat → Int
  | 0 => fun _ => 0
  | j + 1 => fun i => if i = σ j then min (uS P σ u j) (P (σ j)).c else cS P σ u j i
theorem uS_bd {n : Nat} {P : Nat → Par} {k : Int} {q : Nat} {σ : Nat → Nat} {u : Int} (hL : Load n P) (h : Sg n P k q σ) (hu : 0 ≤ u) : ∀ j, j ≤ q → 0 ≤ uS P σ u j ∧ uS P σ u j ≤ u
  | 0, _ => ⟨hu, Int.le_refl _⟩
  | j + 1, hj => by
    have := uS_bd hL h hu j (by omega)
    have h1 := (hL.ok _ (h.lt j (by omega)).1).c1
    show 0 ≤ uS P σ u j - _ ∧ uS P σ u j - _ ≤ u
    omega
theorem cS_bd {n : Nat} {P : Nat → Par} {k : Int} {q : Nat} {σ : Nat → Nat} {u : Int} (hL : Load n P) (h : Sg n P k q σ) (hu : 0 ≤ u) : ∀ j, j ≤ q → ∀ i, i < n → 0 ≤ cS P σ u j i ∧ cS P σ u j i ≤ (P i).c
  | 0, _, i, hi => by have := (hL.ok i hi).c1; show (0 : Int) ≤ 0 ∧ (0 : Int) ≤ _; omega
  | j + 1, hj, i, hi => by
    have h0 := cS_bd hL h hu j (by omega) i hi
    have h1 := uS_bd hL h hu j (by omega)
    have h2 := (hL.ok _ (h.lt j (by omega)).1).c1
    show 0 ≤ (if i = σ j then _ else _) ∧ (if i = σ j then _ else _) ≤ _
    by_cases e : i = σ j
    · rw [if_pos e, e]; omega
    · rw [if_neg e]; exact h0
theorem getD_is {α : Type} (l : List α) (d : α) {j : Nat} (h : j < l.length) : l.getD j d = l[j] := by simp [List.getD, h]
/-- The places of a kind among the first i. -/
def pls (P : Nat → Par) (k : Int) (i : Nat) : List Nat := (List.range i).filter fun x => decide ((P x).k = k)
theorem pls_yes {P : Nat → Par} {k : Int} {i : Nat} (h : (P i).k = k) : pls P k (i + 1) = pls P k i ++ [i] := by
  unfold pls; rw [List.range_succ, List.filter_append]; simp [h]
theorem pls_no {P : Nat → Par} {k : Int} {i : Nat} (h : (P i).k ≠ k) : pls P k (i + 1) = pls P k i := by
  unfold pls; rw [List.range_succ, List.filter_append]; simp [h]
theorem pls_len (P : Nat → Par) (k : Int) (i : Nat) : (pls P k i).length ≤ i := Nat.le_trans (List.length_filter_le _ _) (by simp)
theorem pls_asc (P : Nat → Par) (k : Int) (i : Nat) : (pls P k i).Pairwise (· < ·) := List.pairwise_lt_range.filter _
theorem pls_mem {P : Nat → Par} {k : Int} {i x : Nat} : x ∈ pls P k i ↔ x < i ∧ (P x).k = k := by unfold pls; simp [List.mem_filter]
theorem pls_at {P : Nat → Par} {k : Int} {i j : Nat} (hj : j < (pls P k i).length) : (pls P k i).getD j 0 < i ∧ (P ((pls P k i).getD j 0)).k = k := by
  rw [getD_is _ _ hj]; exact pls_mem.1 (List.getElem_mem hj)
theorem pls_lt {P : Nat → Par} {k : Int} {i a b : Nat} (hab : a < b) (hb : b < (pls P k i).length) : (pls P k i).getD a 0 < (pls P k i).getD b 0 := by
  rw [getD_is _ _ (by omega), getD_is _ _ hb]
  exact List.pairwise_iff_getElem.1 (pls_asc P k i) a b (by omega) hb hab
/-- The rank of a place in the list of them. -/
def rkA (P : Nat → Par) (k : Int) (n : Nat) (p : Nat) : Int := -(P ((pls P k n).getD p 0)).a * 1000 + (p : Int)
theorem rkA_rk {n : Nat} {P : Nat → Par} {k : Int} (hL : Load n P) : Rk (pls P k n).length (rkA P k n) := fun i j hi hj e => by
  have h1 := hL.ok _ (pls_at hi).1
  have h2 := hL.ok _ (pls_at hj).1
  have := h1.a1; have := h1.a2; have := h2.a1; have := h2.a2
  have := hL.le
  have := pls_len P k n
  unfold rkA at e
  omega
theorem rkA_lt {n : Nat} {P : Nat → Par} {k : Int} (hL : Load n P) {i j : Nat} (hij : i < j) (hj : j < (pls P k n).length) : rkA P k n j < rkA P k n i ↔ (P ((pls P k n).getD i 0)).a < (P ((pls P k n).getD j 0)).a := by
  have h1 := hL.ok _ (pls_at (P := P) (k := k) (i := n) (show i < (pls P k n).length by omega)).1
  have h2 := hL.ok _ (pls_at hj).1
  have := h1.a1; have := h1.a2; have := h2.a1; have := h2.a2
  have := hL.le
  have := pls_len P k n
  unfold rkA
  omega
theorem Sg.of {n : Nat} {P : Nat → Par} {k : Int} (hL : Load n P) {F : Nat → Nat} (hf : Pf (pls P k n).length F) (hs : Srt (rkA P k n) 0 (pls P k n).length F) : Sg n P k (pls P k n).length (fun j => (pls P k n).getD (F j) 0) := by
  refine ⟨fun j hj => pls_at (hf.lt j hj), fun i j hij hj => ?_, fun x hx hk => ?_⟩
  · have h := hs i j (Nat.zero_le _) hij hj
    have f1 := hf.lt i (by omega)
    have f2 := hf.lt j hj
    have h1 := hL.ok _ (pls_at f1).1
    have h2 := hL.ok _ (pls_at f2).1
    have := h1.a1; have := h1.a2; have := h2.a1; have := h2.a2
    have := hL.le
    have := pls_len P k n
    unfold rkA at h
    by_cases e : (P ((pls P k n).getD (F i) 0)).a = (P ((pls P k n).getD (F j) 0)).a
    · exact .inr ⟨e, pls_lt (by rw [e] at h; omega) f2⟩
    · exact .inl (by show (P ((pls P k n).getD (F j) 0)).a < (P ((pls P k n).getD (F i) 0)).a; omega)
  · have hm : x ∈ pls P k n := pls_mem.2 ⟨hx, hk⟩
    obtain ⟨i, hi, e⟩ := List.getElem_of_mem hm
    obtain ⟨p, hp, hpe⟩ := Pf.surj _ _ hf i hi
    exact ⟨p, hp, by show (pls P k n).getD (F p) 0 = x; rw [hpe, getD_is _ _ hi, e]⟩
theorem Sg.none {n : Nat} {P : Nat → Par} {k : Int} (h : pls P k n = []) (σ : Nat → Nat) : Sg n P k 0 σ :=
  ⟨fun j hj => absurd hj (by omega), fun i j _ hj => absurd hj (by omega), fun x hx hk => by
    have := pls_mem.2 ⟨hx, hk⟩
    rw [h] at this; cases this⟩
end Go.Proofs.Ytnfcibcpmaehoaa
