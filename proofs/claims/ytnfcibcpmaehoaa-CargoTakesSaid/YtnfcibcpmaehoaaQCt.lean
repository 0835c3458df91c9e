/-
  A step of the reference's cut, without the model.
-/
import Derived.Test.YtnfcibcpmaehoaaQRl
namespace Go.Proofs.Ytnfcibcpmaehoaa

/-- The order of ages, then places. -/
def leA (P : Nat → Par) (x y : Nat) : Bool := decide ((P y).a < (P x).a) || (decide ((P x).a = (P y).a) && decide (x ≤ y))
theorem leA_iff {P : Nat → Par} {x y : Nat} : leA P x y = true ↔ (P y).a < (P x).a ∨ ((P x).a = (P y).a ∧ x ≤ y) := by
  unfold leA; simp
theorem Sg.exists (n : Nat) (P : Nat → Par) (k : Int) : ∃ q σ, Sg n P k q σ := by
  have hp := List.mergeSort_perm (pls P k n) (leA P)
  have hs : ((pls P k n).mergeSort (leA P)).Pairwise fun a b => leA P a b = true := List.pairwise_mergeSort (fun a b c h1 h2 => by rw [leA_iff] at h1 h2 ⊢; omega) (fun a b => by rw [Bool.or_eq_true, leA_iff, leA_iff]; omega) _
  have hd : ((pls P k n).mergeSort (leA P)).Nodup := hp.symm.nodup ((pls_asc P k n).imp fun h => by omega)
  generalize (pls P k n).mergeSort (leA P) = L at hp hs hd
  refine ⟨L.length, fun j => L.getD j 0, fun j hj => ?_, fun i j hij hj => ?_, fun x hx hk => ?_⟩
  · rw [getD_is _ _ hj]; exact pls_mem.1 (hp.mem_iff.1 (List.getElem_mem hj))
  · rw [getD_is _ _ hj, getD_is _ _ (by omega)]
    have h1 := leA_iff.1 (List.pairwise_iff_getElem.1 hs i j (by omega) hj hij)
    have h2 : L[i] ≠ L[j] := List.pairwise_iff_getElem.1 hd i j (by omega) hj hij
    omega
  · obtain ⟨i, hi, e⟩ := List.getElem_of_mem (hp.mem_iff.2 (pls_mem.2 ⟨hx, hk⟩))
    exact ⟨i, hi, by rw [getD_is _ _ hi]; exact e⟩
section
variable {n : Nat} {P : Nat → Par} {k : Int} {q : Nat} {σ : Nat → Nat} {u : Int}
theorem cS_zero {x : Nat} : ∀ j, (∀ i, i < j → σ i ≠ x) → cS P σ u j x = 0
  | 0, _ => rfl
  | j + 1, h => by
    show (if x = σ j then _ else _) = _
    rw [if_neg fun e => h j (by omega) e.symm]
    exact cS_zero j fun i hi => h i (by omega)
theorem uS_pos (hL : Load n P) (h : Sg n P k q σ) {j : Nat} (hj : j < q) (hp : 0 < uS P σ u (j + 1)) : 0 < uS P σ u j ∧ min (uS P σ u j) (P (σ j)).c = (P (σ j)).c := by
  have hp' : 0 < uS P σ u j - min (uS P σ u j) (P (σ j)).c := hp
  have := (hL.ok _ (h.lt j hj).1).c1
  omega
theorem cS_whole (hL : Load n P) (h : Sg n P k q σ) : ∀ j, j ≤ q → 0 < uS P σ u j → ∀ i, i < j → cS P σ u j (σ i) = (P (σ i)).c
  | 0, _, _, i, hi => absurd hi (by omega)
  | j + 1, hj, hp, i, hi => by
    have hx := uS_pos hL h (show j < q by omega) hp
    show (if σ i = σ j then _ else _) = _
    by_cases e : i = j
    · subst e; rw [if_pos rfl]; exact hx.2
    · rw [if_neg (h.ne (show i < j by omega) (by omega))]
      exact cS_whole hL h j (by omega) hx.1 i (by omega)
theorem cS_end (h : Sg n P k q σ) : ∀ d j, j + d ≤ q → uS P σ u j = 0 → (∀ i, i < q → 1 ≤ (P (σ i)).c) → uS P σ u (j + d) = 0 ∧ cS P σ u (j + d) = cS P σ u j
  | 0, _, _, h0, _ => ⟨h0, rfl⟩
  | d + 1, j, hj, h0, hc => by
    obtain ⟨a, b⟩ := cS_end h d j (by omega) h0 hc
    have c1 := hc (j + d) (by omega)
    have hm : min (uS P σ u (j + d)) (P (σ (j + d))).c = 0 := by rw [a]; omega
    refine ⟨?_, ?_⟩
    · show uS P σ u (j + d) - min (uS P σ u (j + d)) (P (σ (j + d))).c = 0
      rw [hm, a]; rfl
    · funext x
      show (if x = σ (j + d) then min (uS P σ u (j + d)) (P (σ (j + d))).c else cS P σ u (j + d) x) = _
      by_cases e : x = σ (j + d)
      · rw [if_pos e, hm, ← b, e]
        exact (cS_zero (j + d) fun i hi e' => h.ne hi (by omega) e').symm
      · rw [if_neg e, b]
theorem Load.lt (hL : Load n P) {i j : Nat} (hij : i < j) (hj : j < n) : lt4 (P i) (P j) := by
  obtain ⟨d, rfl⟩ : ∃ d, j = i + 1 + d := ⟨j - i - 1, by omega⟩
  clear hij
  induction d with
  | zero => exact hL.asc i hj
  | succ d ih =>
    have h1 := ih (by omega)
    have h2 := hL.asc (i + 1 + d) hj
    unfold lt4 at h1 h2 ⊢
    rw [show i + 1 + (d + 1) = i + 1 + d + 1 by omega]
    omega
/-- What a step does to the two lists. -/
theorem step_lists (hL : Load n P) (h : Sg n P k q σ) {j : Nat} (hj : j < q) (hp : 0 < uS P σ u j) {v : Int} (hv : min (uS P σ u j) (P (σ j)).c = v) :
    ∃ TA TC LA LC, tkn P (cS P σ u j) n = TA ++ TC ∧ tkn P (cS P σ u (j + 1)) n = TA ++ prt (P (σ j)) v :: TC ∧ lft P (cS P σ u j) n = LA ++ P (σ j) :: LC ∧ lft P (cS P σ u (j + 1)) n = LA ++ ((if 0 < (P (σ j)).c - v then [rst (P (σ j)) v] else []) ++ LC) ∧ (∀ y ∈ TA, lt4 y (prt (P (σ j)) v)) ∧ (∀ y ∈ TC, lt4 (prt (P (σ j)) v) y) ∧ (∀ y ∈ LA, y.k = k → y.a < (P (σ j)).a) ∧ (∀ y ∈ LC, y.k = k → y.a ≤ (P (σ j)).a) := by
  have hx := (h.lt j hj).1
  have hz : cS P σ u j (σ j) = 0 := cS_zero j fun i hi => h.ne hi hj
  have hc := (hL.ok _ hx).c1
  have hn : ∀ i, i ≠ σ j → cS P σ u (j + 1) i = cS P σ u j i := fun i hi => by
    show (if i = σ j then _ else _) = _
    rw [if_neg hi]
  have hy : cS P σ u (j + 1) (σ j) = v := by
    show (if σ j = σ j then _ else _) = _
    rw [if_pos rfl]; exact hv
  have hw := cS_whole (u := u) hL h j (by omega) hp
  generalize hxx : σ j = x at *
  have hage : ∀ i, i < n → i ≠ x → (P i).k = k → 0 < (P i).c - cS P σ u j i → (P i).a < (P x).a ∨ (P x).a = (P i).a ∧ x < i := fun i hi hne hk hl => by
    obtain ⟨i', hi', e⟩ := h.all i hi hk
    have h1 : ¬ i' < j := fun c => by have := hw i' c; rw [e] at this; omega
    have h2 : i' ≠ j := fun c => by subst c; exact hne (e.symm.trans hxx)
    have := h.asc j i' (by omega) hi'
    rw [hxx, e] at this
    exact this
  refine ⟨seg (fT P (cS P σ u j)) 0 x, seg (fT P (cS P σ u j)) (x + 1) (n - x - 1), seg (fL P (cS P σ u j)) 0 x, seg (fL P (cS P σ u j)) (x + 1) (n - x - 1), ?_, ?_, ?_, ?_, ?_, ?_, ?_, ?_⟩
  · rw [show tkn P (cS P σ u j) n = _ from seg_split _ hx]
    have : fT P (cS P σ u j) x = [] := by unfold fT; rw [hz]; rfl
    rw [this]; rfl
  · rw [show tkn P (cS P σ u (j + 1)) n = _ from seg_split _ hx]
    have : fT P (cS P σ u (j + 1)) x = [prt (P x) v] := by unfold fT; rw [hy, if_pos (by omega)]
    rw [this, seg_congr (g := fT P (cS P σ u j)) (d := x) (fun i _ h2 => by unfold fT; rw [hn i (by omega)]), seg_congr (g := fT P (cS P σ u j)) (a := x + 1) (fun i h1 _ => by unfold fT; rw [hn i (by omega)])]
    rfl
  · rw [show lft P (cS P σ u j) n = _ from seg_split _ hx]
    have : fL P (cS P σ u j) x = [P x] := by unfold fL; rw [hz, if_pos (by omega), rst_none]
    rw [this]; rfl
  · rw [show lft P (cS P σ u (j + 1)) n = _ from seg_split _ hx]
    have : fL P (cS P σ u (j + 1)) x = if 0 < (P x).c - v then [rst (P x) v] else [] := by unfold fL; rw [hy]
    rw [this, seg_congr (g := fL P (cS P σ u j)) (d := x) (fun i _ h2 => by unfold fL; rw [hn i (by omega)]), seg_congr (g := fL P (cS P σ u j)) (a := x + 1) (fun i h1 _ => by unfold fL; rw [hn i (by omega)])]
  · intro y hyy
    obtain ⟨i, _, h2, h3⟩ := mem_seg.1 hyy
    unfold fT at h3
    split at h3
    · simp at h3; subst h3
      have := hL.lt (i := i) (j := x) (by omega) hx
      unfold lt4 prt at *; exact this
    · cases h3
  · intro y hyy
    obtain ⟨i, h1, h2, h3⟩ := mem_seg.1 hyy
    unfold fT at h3
    split at h3
    · simp at h3; subst h3
      have := hL.lt (i := x) (j := i) (by omega) (by omega)
      unfold lt4 prt at *; exact this
    · cases h3
  · intro y hyy hk
    obtain ⟨i, _, h2, h3⟩ := mem_seg.1 hyy
    unfold fL at h3
    split at h3
    · simp at h3; subst h3
      have := hage i (by omega) (by omega) hk (by assumption)
      show (P i).a < _
      omega
    · cases h3
  · intro y hyy hk
    obtain ⟨i, h1, h2, h3⟩ := mem_seg.1 hyy
    unfold fL at h3
    split at h3
    · simp at h3; subst h3
      have := hage i (by omega) (by omega) hk (by assumption)
      show (P i).a ≤ _
      omega
    · cases h3
/-- None of the kind is left. -/
theorem none_left (hL : Load n P) (h : Sg n P k q σ) (hp : 0 < uS P σ u q) : ∀ y ∈ lft P (cS P σ u q) n, y.k ≠ k := fun y hy hk => by
  obtain ⟨i, _, h2, h3⟩ := mem_seg.1 hy
  unfold fL at h3
  split at h3
  · simp at h3; subst h3
    obtain ⟨i', hi', e⟩ := h.all i (by omega) hk
    have := cS_whole (u := u) hL h q (Nat.le_refl _) hp i' hi'
    rw [e] at this
    omega
  · cases h3
end
theorem lft_zero {n : Nat} {P : Nat → Par} (hL : Load n P) : ∀ i, i ≤ n → tkn P (fun _ => 0) i = [] ∧ (lft P (fun _ => 0) i).length = i ∧ ∀ j, j < i → lf (lft P (fun _ => 0) i) j = P j
  | 0, _ => ⟨rfl, rfl, fun j hj => absurd hj (by omega)⟩
  | i + 1, hi => by
    obtain ⟨a, b, c⟩ := lft_zero hL i (by omega)
    have h1 := (hL.ok i (by omega)).c1
    rw [tkn_no (by decide), lft_yes (by show 0 < (P i).c - 0; omega), rst_none]
    refine ⟨a, by rw [List.length_append, b]; rfl, fun j hj => ?_⟩
    by_cases e : j = i
    · have := lf_snoc_new (lft P (fun _ => 0) i) (P i)
      rw [b] at this; rw [e]; exact this
    · rw [lf_snoc_old _ _ (by omega)]; exact c j (by omega)
/-- The best place of the first i. -/
def bst (L : Nat → Par) (k : Int) : Nat → Int
  | 0 => -1
  | i + 1 => if (L i).k = k ∧ (bst L k i < 0 ∨ (L (bst L k i).toNat).a < (L i).a) then (i : Int) else bst L k i
theorem bst_succ (L : Nat → Par) (k : Int) (i : Nat) : bst L k (i + 1) = if (L i).k = k ∧ (bst L k i < 0 ∨ (L (bst L k i).toNat).a < (L i).a) then (i : Int) else bst L k i := rfl
theorem bst_bd (L : Nat → Par) (k : Int) : ∀ i, -1 ≤ bst L k i ∧ bst L k i < i ∧ (0 ≤ bst L k i → (L (bst L k i).toNat).k = k)
  | 0 => ⟨Int.le_refl _, by show (-1 : Int) < _; omega, fun h => by have h' : (0 : Int) ≤ -1 := h; omega⟩
  | i + 1 => by
    have ih := bst_bd L k i
    rw [bst_succ]
    split
    · rename_i h
      exact ⟨by omega, by omega, fun _ => by rw [Int.toNat_natCast]; exact h.1⟩
    · exact ⟨ih.1, by omega, ih.2.2⟩
theorem bst_none {L : Nat → Par} {k : Int} : ∀ i, (∀ j, j < i → (L j).k ≠ k) → bst L k i = -1
  | 0, _ => rfl
  | i + 1, h => by
    rw [bst_succ, if_neg fun c => h i (by omega) c.1]
    exact bst_none i fun j hj => h j (by omega)
theorem bst_is {L : Nat → Par} {k : Int} {t m : Nat} (ht : (L t).k = k) (h1 : ∀ j, j < t → (L j).k = k → (L j).a < (L t).a) (h2 : ∀ j, t < j → j < m → (L j).k = k → (L j).a ≤ (L t).a) : ∀ d, t + 1 + d ≤ m → bst L k (t + 1 + d) = (t : Int)
  | 0, _ => by
    rw [Nat.add_zero, bst_succ, if_pos]
    refine ⟨ht, ?_⟩
    have hb := bst_bd L k t
    by_cases c : bst L k t < 0
    · exact .inl c
    · exact .inr (h1 _ (by omega) (hb.2.2 (by omega)))
  | d + 1, hd => by
    have ih := bst_is ht h1 h2 d (by omega)
    rw [← Nat.add_assoc, bst_succ, ih, if_neg]
    rintro ⟨a, b⟩
    rcases b with b | b
    · omega
    · rw [Int.toNat_natCast] at b
      have := h2 (t + 1 + d) (by omega) (by omega) a
      omega
end Go.Proofs.Ytnfcibcpmaehoaa
