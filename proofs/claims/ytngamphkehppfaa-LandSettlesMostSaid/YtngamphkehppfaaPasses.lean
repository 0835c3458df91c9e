/-
  The two passes of the program over the heights, and the four of the reference: what each has done when it stands at a corner.
-/
import Derived.Test.YtngamphkehppfaaSettle
namespace Go.Proofs.Ytngamphkehppfaa

/-- j stands north-west of i (or there). -/
def NW (W i j : Nat) : Prop := j / (W + 1) ≤ i / (W + 1) ∧ j % (W + 1) ≤ i % (W + 1)
/-- Ahead of the p-th corner of the first pass. -/
structure PassA (W n : Nat) (R : Nat → Int) (p : Nat) (Y : Nat → Int) : Prop where
  lo : Lo W n R Y
  le : ∀ i, i < n → Y i ≤ R i
  up : ∀ i j, i < p → i < n → j < n → NW W i j → Y i ≤ R j + dd W i j
  same : ∀ i, p ≤ i → i < n → Y i = R i
  nn : ∀ i, i < n → 0 ≤ Y i ∧ Y i ≤ 15
/-- Ahead of the p-th corner (from behind) of the second pass, F being what the first one left. -/
structure PassB (W n : Nat) (R F : Nat → Int) (p : Nat) (Y : Nat → Int) : Prop where
  lo : Lo W n R Y
  le : ∀ i, i < n → Y i ≤ F i
  up : ∀ i j, p ≤ i → i < n → j < n → NW W j i → Y i ≤ F j + dd W i j
  same : ∀ i, i < p → i < n → Y i = F i
  nn : ∀ i, i < n → 0 ≤ Y i ∧ Y i ≤ 15

theorem dd_west {W p : Nat} (h : 0 < p % (W + 1)) (j : Nat) (hj : NW W (p - 1) j) : dd W p j = dd W (p - 1) j + 1 ∧ (p - 1) % (W + 1) + 1 = p % (W + 1) ∧ (p - 1) / (W + 1) = p / (W + 1) := by
  have hm := Nat.mod_lt p (show 0 < W + 1 by omega)
  have e := at_split W p
  have e1 : p - 1 = p / (W + 1) * (W + 1) + (p % (W + 1) - 1) := by omega
  have m1 : (p - 1) % (W + 1) = p % (W + 1) - 1 := by rw [e1]; exact at_mod (by omega)
  have m2 : (p - 1) / (W + 1) = p / (W + 1) := by rw [e1]; exact at_div (by omega)
  obtain ⟨h1, h2⟩ := hj
  rw [m1] at h2
  refine ⟨?_, by omega, m2⟩
  unfold dd
  rw [m1, m2]
  unfold dist
  rw [if_neg (by omega), if_neg (by omega), if_neg (by omega)]
  omega
theorem dd_north {W p : Nat} (h : W + 1 ≤ p) (j : Nat) (hj : NW W (p - (W + 1)) j) : dd W p j = dd W (p - (W + 1)) j + 1 ∧ (p - (W + 1)) % (W + 1) = p % (W + 1) ∧ (p - (W + 1)) / (W + 1) + 1 = p / (W + 1) := by
  have hm := Nat.mod_lt p (show 0 < W + 1 by omega)
  have e := at_split W p
  have h0 : 0 < p / (W + 1) := Nat.div_pos h (by omega)
  have e0 : p / (W + 1) * (W + 1) = (p / (W + 1) - 1) * (W + 1) + (W + 1) := by
    have := Nat.succ_mul (p / (W + 1) - 1) (W + 1)
    rw [show (p / (W + 1) - 1).succ = p / (W + 1) by omega] at this
    exact this
  have e1 : p - (W + 1) = (p / (W + 1) - 1) * (W + 1) + p % (W + 1) := by omega
  have m1 : (p - (W + 1)) % (W + 1) = p % (W + 1) := by rw [e1]; exact at_mod hm
  have m2 : (p - (W + 1)) / (W + 1) = p / (W + 1) - 1 := by rw [e1]; exact at_div hm
  obtain ⟨h1, h2⟩ := hj
  rw [m2] at h1
  refine ⟨?_, m1, by omega⟩
  unfold dd
  rw [m1, m2]
  unfold dist
  rw [if_neg (by omega), if_neg (by omega), if_neg (by omega)]
  omega
theorem dd_one_west {W p : Nat} (h : 0 < p % (W + 1)) : dd W p (p - 1) = 1 := by
  have := (dd_west h (p - 1) ⟨Nat.le_refl _, Nat.le_refl _⟩).1
  rw [dd_self] at this; omega
theorem dd_one_north {W p : Nat} (h : W + 1 ≤ p) : dd W p (p - (W + 1)) = 1 := by
  have := (dd_north h (p - (W + 1)) ⟨Nat.le_refl _, Nat.le_refl _⟩).1
  rw [dd_self] at this; omega

/-- One corner of the first pass: x is what it gets. -/
theorem PassA.step {W n : Nat} {R Y : Nat → Int} {p : Nat} {x : Int} (h : PassA W n R p Y) (hp : p < n) (hx : x ≤ Y p) (h0 : 0 ≤ x) (hlo : Lo W n R (upd Y p x))
    (hw : 0 < p % (W + 1) → x ≤ Y (p - 1) + 1) (hn : W + 1 ≤ p → x ≤ Y (p - (W + 1)) + 1) : PassA W n R (p + 1) (upd Y p x) := by
  refine ⟨hlo, fun i hi => ?_, fun i j hi hin hj hnw => ?_, fun i hi hin => ?_, fun i hi => ?_⟩
  · by_cases e : i = p
    · subst e; rw [upd_at]; have := h.le i hi; omega
    · rw [upd_off _ _ e]; exact h.le i hi
  · by_cases e : i = p
    · subst e
      rw [upd_at]
      by_cases hu : j % (W + 1) < i % (W + 1)
      · have hi0 : 0 < i := by
          rcases Nat.eq_zero_or_pos i with h0 | h0
          · subst h0; simp at hu
          · exact h0
        have hq : NW W (i - 1) j := by
          have m := dd_west (W := W) (p := i) (by omega) (i - 1) ⟨Nat.le_refl _, Nat.le_refl _⟩
          exact ⟨by rw [m.2.2]; exact hnw.1, by omega⟩
        have m := dd_west (by omega) j hq
        have := hw (by omega)
        have := h.up (i - 1) j (by omega) (by omega) hj hq
        omega
      · by_cases hv : j / (W + 1) < i / (W + 1)
        · have hwi : W + 1 ≤ i := by
            have := at_split W i
            have h1 : 1 * (W + 1) ≤ i / (W + 1) * (W + 1) := Nat.mul_le_mul_right _ (Nat.lt_of_le_of_lt (Nat.zero_le _) hv)
            omega
          have hq : NW W (i - (W + 1)) j := by
            have m := dd_north (W := W) hwi (i - (W + 1)) ⟨Nat.le_refl _, Nat.le_refl _⟩
            exact ⟨by omega, by rw [m.2.1]; exact hnw.2⟩
          have m := dd_north hwi j hq
          have := hn hwi
          have := h.up (i - (W + 1)) j (by omega) (by omega) hj hq
          omega
        · have e1 := at_split W i
          have e2 := at_split W j
          have e3 : j / (W + 1) = i / (W + 1) := Nat.le_antisymm hnw.1 (by omega)
          have e4 : j % (W + 1) = i % (W + 1) := Nat.le_antisymm hnw.2 (by omega)
          rw [e3, e4, ← e1] at e2
          subst e2
          rw [dd_self]
          have := h.le j hin
          omega
    · rw [upd_off _ _ e]; exact h.up i j (by omega) hin hj hnw
  · rw [upd_off _ _ (by omega)]; exact h.same i (by omega) hin
  · by_cases e : i = p
    · subst e; rw [upd_at]; have := h.nn i hi; omega
    · rw [upd_off _ _ e]; exact h.nn i hi
theorem PassA.start {W n : Nat} {R : Nat → Int} (h : ∀ i, i < n → 0 ≤ R i ∧ R i ≤ 15) : PassA W n R 0 R :=
  ⟨fun _ _ hr i hi => hr i hi, fun _ _ => Int.le_refl _, fun _ _ hi => absurd hi (Nat.not_lt_zero _), fun _ _ _ => rfl, h⟩
/-- One corner of the second pass. -/
theorem PassB.step {W n : Nat} {R F Y : Nat → Int} {p : Nat} {x : Int} (h : PassB W n R F (p + 1) Y) (hp : p < n) (hx : x ≤ Y p) (h0 : 0 ≤ x) (hlo : Lo W n R (upd Y p x))
    (he : p % (W + 1) < W → p + 1 < n → x ≤ Y (p + 1) + 1) (hs : p + (W + 1) < n → x ≤ Y (p + (W + 1)) + 1) : PassB W n R F p (upd Y p x) := by
  refine ⟨hlo, fun i hi => ?_, fun i j hi hin hj hnw => ?_, fun i hi hin => ?_, fun i hi => ?_⟩
  · by_cases e : i = p
    · subst e; rw [upd_at]; have := h.le i hi; omega
    · rw [upd_off _ _ e]; exact h.le i hi
  · by_cases e : i = p
    · subst e
      rw [upd_at]
      have e1 := at_split W i
      have e2 := at_split W j
      have hmi := Nat.mod_lt i (show 0 < W + 1 by omega)
      have hmj := Nat.mod_lt j (show 0 < W + 1 by omega)
      by_cases hu : i % (W + 1) < j % (W + 1)
      · -- the one to the east
        have a1 : i + 1 = i / (W + 1) * (W + 1) + (i % (W + 1) + 1) := by omega
        have m1 : (i + 1) % (W + 1) = i % (W + 1) + 1 := by rw [a1]; exact at_mod (by omega)
        have m2 : (i + 1) / (W + 1) = i / (W + 1) := by rw [a1]; exact at_div (by omega)
        have hle : i / (W + 1) * (W + 1) ≤ j / (W + 1) * (W + 1) := Nat.mul_le_mul_right _ hnw.1
        have hin1 : i + 1 < n := by omega
        have := he (by omega) hin1
        have hq : NW W j (i + 1) := ⟨by rw [m2]; exact hnw.1, by rw [m1]; omega⟩
        have h3 := h.up (i + 1) j (Nat.le_refl _) hin1 hj hq
        have e3 : dd W i j = dd W (i + 1) j + 1 := by
          have hn1 := hnw.1
          unfold dd; rw [m1, m2]; unfold dist
          rw [if_pos (by omega)]
          split <;> split <;> omega
        omega
      · by_cases hv : i / (W + 1) < j / (W + 1)
        · have a0 : (i / (W + 1) + 1) * (W + 1) = i / (W + 1) * (W + 1) + (W + 1) := Nat.succ_mul _ _
          have a1 : i + (W + 1) = (i / (W + 1) + 1) * (W + 1) + i % (W + 1) := by omega
          have m1 : (i + (W + 1)) % (W + 1) = i % (W + 1) := by rw [a1]; exact at_mod hmi
          have m2 : (i + (W + 1)) / (W + 1) = i / (W + 1) + 1 := by rw [a1]; exact at_div hmi
          have hle : (i / (W + 1) + 1) * (W + 1) ≤ j / (W + 1) * (W + 1) := Nat.mul_le_mul_right _ hv
          have hn2 := hnw.2
          have hin1 : i + (W + 1) < n := by omega
          have := hs hin1
          have hq : NW W j (i + (W + 1)) := ⟨by rw [m2]; exact hv, by rw [m1]; exact hn2⟩
          have h3 := h.up (i + (W + 1)) j (by omega) hin1 hj hq
          have e3 : dd W i j = dd W (i + (W + 1)) j + 1 := by
            unfold dd; rw [m1, m2]; unfold dist
            split <;> split <;> split <;> omega
          omega
        · have e3 : i / (W + 1) = j / (W + 1) := Nat.le_antisymm hnw.1 (by omega)
          have e4 : i % (W + 1) = j % (W + 1) := Nat.le_antisymm hnw.2 (by omega)
          rw [← e3, ← e4, ← e1] at e2
          subst e2
          rw [dd_self]
          have := h.le j hin
          omega
    · rw [upd_off _ _ e]; exact h.up i j (by omega) hin hj hnw
  · rw [upd_off _ _ (by omega)]; exact h.same i (by omega) hin
  · by_cases e : i = p
    · subst e; rw [upd_at]; have := h.nn i hi; omega
    · rw [upd_off _ _ e]; exact h.nn i hi
theorem PassB.start {W n : Nat} {R F : Nat → Int} (h : PassA W n R n F) : PassB W n R F n F :=
  ⟨h.lo, fun _ _ => Int.le_refl _, fun _ _ hi hin => by omega, fun _ _ _ => rfl, h.nn⟩
/-- Behind both passes each corner is cut to what all allow. -/
theorem passes_up {W H n : Nat} {R F Y : Nat → Int} (hn : n = (W + 1) * (H + 1)) (ha : PassA W n R n F) (hb : PassB W n R F 0 Y) : Up W n R Y := by
  intro i j hi hj
  have hmi := Nat.mod_lt i (show 0 < W + 1 by omega)
  have hmj := Nat.mod_lt j (show 0 < W + 1 by omega)
  have hvi : i / (W + 1) < H + 1 := Nat.div_lt_of_lt_mul (by rw [← hn]; exact hi)
  have hvj : j / (W + 1) < H + 1 := Nat.div_lt_of_lt_mul (by rw [← hn]; exact hj)
  obtain ⟨v, hv⟩ : ∃ v, v = max (i / (W + 1)) (j / (W + 1)) := ⟨_, rfl⟩
  obtain ⟨u, hu⟩ : ∃ u, u = max (i % (W + 1)) (j % (W + 1)) := ⟨_, rfl⟩
  have hm : v * (W + 1) + u < n := by
    have hb : (v + 1) * (W + 1) ≤ (H + 1) * (W + 1) := Nat.mul_le_mul_right _ (by omega)
    have hb2 : (v + 1) * (W + 1) = v * (W + 1) + (W + 1) := Nat.succ_mul _ _
    rw [hn, Nat.mul_comm (W + 1)]; omega
  have m1 : (v * (W + 1) + u) % (W + 1) = u := at_mod (by omega)
  have m2 : (v * (W + 1) + u) / (W + 1) = v := at_div (by omega)
  have h1 := hb.up i (v * (W + 1) + u) (Nat.zero_le _) hi hm ⟨by rw [m2]; omega, by rw [m1]; omega⟩
  have h2 := ha.up (v * (W + 1) + u) j hm hm hj ⟨by rw [m2]; omega, by rw [m1]; omega⟩
  have e : dd W i (v * (W + 1) + u) + dd W (v * (W + 1) + u) j = dd W i j := by
    unfold dd; rw [m1, m2]; unfold dist
    (repeat' split) <;> omega
  omega
end Go.Proofs.Ytngamphkehppfaa
