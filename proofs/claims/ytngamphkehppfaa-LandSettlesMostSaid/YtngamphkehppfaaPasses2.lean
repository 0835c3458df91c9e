/-
  The reference's four passes: each along rows or columns alone.
-/
import Derived.Test.YtngamphkehppfaaWalkSettle
namespace Go.Proofs.Ytngamphkehppfaa

/-- Ahead of a step of a pass that began at F: the corners D are done; each is cut to what the corners that it can see (Rl) allow. -/
structure PassG (W n : Nat) (R : Nat → Int) (Rl : Nat → Nat → Prop) (F : Nat → Int) (D : Nat → Prop) (Y : Nat → Int) : Prop where
  lo : Lo W n R Y
  le : ∀ i, i < n → Y i ≤ F i
  up : ∀ i j, D i → i < n → j < n → Rl i j → Y i ≤ F j + dd W i j
  nn : ∀ i, i < n → 0 ≤ Y i ∧ Y i ≤ 15
theorem PassG.step {W n : Nat} {R F Y : Nat → Int} {Rl : Nat → Nat → Prop} {D D' : Nat → Prop} {p : Nat} {x : Int} (h : PassG W n R Rl F D Y) (hp : p < n) (hx : x ≤ Y p) (h0 : 0 ≤ x) (hlo : Lo W n R (upd Y p x))
    (hD : ∀ i, i < n → D' i → i ≠ p → D i) (hq : ∀ j, j < n → Rl p j → j ≠ p → ∃ q, D q ∧ q < n ∧ Rl q j ∧ dd W p j = dd W q j + 1 ∧ x ≤ Y q + 1) : PassG W n R Rl F D' (upd Y p x) := by
  refine ⟨hlo, fun i hi => ?_, fun i j hi hin hj hr => ?_, fun i hi => ?_⟩
  · by_cases e : i = p
    · subst e; rw [upd_at]; have := h.le i hi; omega
    · rw [upd_off _ _ e]; exact h.le i hi
  · by_cases e : i = p
    · subst e
      rw [upd_at]
      by_cases ej : j = i
      · subst ej; rw [dd_self]; have := h.le j hj; omega
      · obtain ⟨q, d1, d2, d3, d4, d5⟩ := hq j hj hr ej
        have := h.up q j d1 d2 hj d3
        omega
    · rw [upd_off _ _ e]; exact h.up i j (hD i hin hi e) hin hj hr
  · by_cases e : i = p
    · subst e; rw [upd_at]; have := h.nn i hi; omega
    · rw [upd_off _ _ e]; exact h.nn i hi

/-- j stands in i's row, west of it (or there); east; in its column, north; south. -/
def RW (W i j : Nat) : Prop := j / (W + 1) = i / (W + 1) ∧ j % (W + 1) ≤ i % (W + 1)
def RE (W i j : Nat) : Prop := j / (W + 1) = i / (W + 1) ∧ i % (W + 1) ≤ j % (W + 1)
def RN (W i j : Nat) : Prop := j % (W + 1) = i % (W + 1) ∧ j / (W + 1) ≤ i / (W + 1)
def RS (W i j : Nat) : Prop := j % (W + 1) = i % (W + 1) ∧ i / (W + 1) ≤ j / (W + 1)
theorem same_at {W i j : Nat} (h1 : j / (W + 1) = i / (W + 1)) (h2 : j % (W + 1) = i % (W + 1)) : j = i := by
  rw [at_split W i, at_split W j, h1, h2]

theorem west_step {W n : Nat} {R F Y : Nat → Int} {p : Nat} {x : Int} (h : PassG W n R (RW W) F (fun i => i < p) Y) (hp : p < n) (hx : x ≤ Y p) (h0 : 0 ≤ x) (hlo : Lo W n R (upd Y p x)) (hw : 0 < p % (W + 1) → x ≤ Y (p - 1) + 1) :
    PassG W n R (RW W) F (fun i => i < p + 1) (upd Y p x) := by
  refine h.step hp hx h0 hlo (fun i _ hi he => by omega) (fun j hj hr he => ?_)
  have hlt : j % (W + 1) < p % (W + 1) := by
    rcases Nat.lt_or_eq_of_le hr.2 with h1 | h1
    · exact h1
    · exact absurd (same_at hr.1 h1) he
  have m := dd_west (W := W) (p := p) (by omega) (p - 1) ⟨Nat.le_refl _, Nat.le_refl _⟩
  have hp0 : 0 < p := by
    rcases Nat.eq_zero_or_pos p with h0 | h0
    · subst h0; simp at hlt
    · exact h0
  have hq : NW W (p - 1) j := ⟨by rw [m.2.2, hr.1]; exact Nat.le_refl _, by omega⟩
  exact ⟨p - 1, by show p - 1 < p; omega, by omega, ⟨by rw [m.2.2]; exact hr.1, hq.2⟩, (dd_west (by omega) j hq).1, hw (by omega)⟩
theorem north_step {W n : Nat} {R F Y : Nat → Int} {p : Nat} {x : Int} (h : PassG W n R (RN W) F (fun i => i < p) Y) (hp : p < n) (hw1 : W + 1 ≤ p) (hx : x ≤ Y p) (h0 : 0 ≤ x) (hlo : Lo W n R (upd Y p x)) (hw : x ≤ Y (p - (W + 1)) + 1) :
    PassG W n R (RN W) F (fun i => i < p + 1) (upd Y p x) := by
  refine h.step hp hx h0 hlo (fun i _ hi he => by omega) (fun j hj hr he => ?_)
  have hlt : j / (W + 1) < p / (W + 1) := by
    rcases Nat.lt_or_eq_of_le hr.2 with h1 | h1
    · exact h1
    · exact absurd (same_at h1 hr.1) he
  have m := dd_north (W := W) hw1 (p - (W + 1)) ⟨Nat.le_refl _, Nat.le_refl _⟩
  have hq : NW W (p - (W + 1)) j := ⟨by omega, by rw [m.2.1, hr.1]; exact Nat.le_refl _⟩
  exact ⟨p - (W + 1), by show p - (W + 1) < p; omega, by omega, ⟨by rw [m.2.1]; exact hr.1, hq.1⟩, (dd_north hw1 j hq).1, hw⟩
theorem east_step {W H n : Nat} {R F Y : Nat → Int} {p : Nat} {x : Int} (hn : n = (W + 1) * (H + 1)) (h : PassG W n R (RE W) F (fun i => p + 1 ≤ i) Y) (hp : p < n) (hx : x ≤ Y p) (h0 : 0 ≤ x) (hlo : Lo W n R (upd Y p x)) (hw : p % (W + 1) < W → x ≤ Y (p + 1) + 1) :
    PassG W n R (RE W) F (fun i => p ≤ i) (upd Y p x) := by
  refine h.step hp hx h0 hlo (fun i _ hi he => by show p + 1 ≤ i; have : p ≤ i := hi; omega) (fun j hj hr he => ?_)
  have hlt : p % (W + 1) < j % (W + 1) := by
    rcases Nat.lt_or_eq_of_le hr.2 with h1 | h1
    · exact h1
    · exact absurd (same_at hr.1 h1.symm) he
  have hmj := Nat.mod_lt j (show 0 < W + 1 by omega)
  have e1 := at_split W p
  have a1 : p + 1 = p / (W + 1) * (W + 1) + (p % (W + 1) + 1) := by omega
  have m1 : (p + 1) % (W + 1) = p % (W + 1) + 1 := by rw [a1]; exact at_mod (by omega)
  have m2 : (p + 1) / (W + 1) = p / (W + 1) := by rw [a1]; exact at_div (by omega)
  refine ⟨p + 1, Nat.le_refl _, east_in hn hp (by omega), ⟨by rw [m2]; exact hr.1, by rw [m1]; omega⟩, ?_, hw (by omega)⟩
  unfold dd; rw [m1, m2]; unfold dist
  (repeat' split) <;> omega
theorem south_step {W H n : Nat} {R F Y : Nat → Int} {p : Nat} {x : Int} (hn : n = (W + 1) * (H + 1)) (h : PassG W n R (RS W) F (fun i => p + 1 ≤ i) Y) (hp : p + (W + 1) < n) (hx : x ≤ Y p) (h0 : 0 ≤ x) (hlo : Lo W n R (upd Y p x)) (hw : x ≤ Y (p + (W + 1)) + 1) :
    PassG W n R (RS W) F (fun i => p ≤ i) (upd Y p x) := by
  refine h.step (by omega) hx h0 hlo (fun i _ hi he => by show p + 1 ≤ i; have : p ≤ i := hi; omega) (fun j hj hr he => ?_)
  have hlt : p / (W + 1) < j / (W + 1) := by
    rcases Nat.lt_or_eq_of_le hr.2 with h1 | h1
    · exact h1
    · exact absurd (same_at h1.symm hr.1) he
  have hmi := Nat.mod_lt p (show 0 < W + 1 by omega)
  have e1 := at_split W p
  have a0 : (p / (W + 1) + 1) * (W + 1) = p / (W + 1) * (W + 1) + (W + 1) := Nat.succ_mul _ _
  have a1 : p + (W + 1) = (p / (W + 1) + 1) * (W + 1) + p % (W + 1) := by omega
  have m1 : (p + (W + 1)) % (W + 1) = p % (W + 1) := by rw [a1]; exact at_mod hmi
  have m2 : (p + (W + 1)) / (W + 1) = p / (W + 1) + 1 := by rw [a1]; exact at_div hmi
  refine ⟨p + (W + 1), by show p + 1 ≤ p + (W + 1); omega, hp, ⟨by rw [m1]; exact hr.1, by rw [m2]; omega⟩, ?_, hw⟩
  unfold dd; rw [m1, m2]; unfold dist
  (repeat' split) <;> omega

/-- Behind a round: all four passes. -/
theorem four_up {W H n : Nat} {R S F1 F2 F3 Y : Nat → Int} (hn : n = (W + 1) * (H + 1)) (h1 : PassG W n R (RW W) S (fun i => i < n) F1) (h2 : PassG W n R (RE W) F1 (fun i => 0 ≤ i) F2)
    (h3 : PassG W n R (RN W) F2 (fun i => i < n) F3) (h4 : PassG W n R (RS W) F3 (fun i => 0 ≤ i) Y) : Up W n S Y := by
  intro i j hi hj
  have hmi := Nat.mod_lt i (show 0 < W + 1 by omega)
  have hvj : j / (W + 1) < H + 1 := Nat.div_lt_of_lt_mul (by rw [← hn]; exact hj)
  obtain ⟨v, hv⟩ : ∃ v, v = j / (W + 1) := ⟨_, rfl⟩
  obtain ⟨u, hu⟩ : ∃ u, u = i % (W + 1) := ⟨_, rfl⟩
  have hm : v * (W + 1) + u < n := by
    have hb : (v + 1) * (W + 1) ≤ (H + 1) * (W + 1) := Nat.mul_le_mul_right _ (by omega)
    have hb2 : (v + 1) * (W + 1) = v * (W + 1) + (W + 1) := Nat.succ_mul _ _
    rw [hn, Nat.mul_comm (W + 1)]; omega
  have m1 : (v * (W + 1) + u) % (W + 1) = u := at_mod (by omega)
  have m2 : (v * (W + 1) + u) / (W + 1) = v := at_div (by omega)
  obtain ⟨k, hk⟩ : ∃ k, k = v * (W + 1) + u := ⟨_, rfl⟩
  rw [← hk] at hm m1 m2
  have c1 : Y i ≤ F2 k + dd W i k := by
    by_cases hc : i / (W + 1) ≤ k / (W + 1)
    · have a := h4.up i k (Nat.zero_le _) hi hm ⟨by rw [m1, hu], hc⟩
      have b := h3.le k hm
      omega
    · have a := h4.le i hi
      have b := h3.up i k hi hi hm ⟨by rw [m1, hu], by omega⟩
      omega
  have c2 : F2 k ≤ S j + dd W k j := by
    by_cases hc : k % (W + 1) ≤ j % (W + 1)
    · have a := h2.up k j (Nat.zero_le _) hm hj ⟨by rw [m2, hv], hc⟩
      have b := h1.le j hj
      omega
    · have a := h2.le k hm
      have b := h1.up k j hm hm hj ⟨by rw [m2, hv], by omega⟩
      omega
  have e : dd W i k + dd W k j = dd W i j := by
    unfold dd; rw [m1, m2, hu, hv, dist_self, dist_self]; omega
  omega
theorem PassG.start {W n : Nat} {R F : Nat → Int} {Rl : Nat → Nat → Prop} {D : Nat → Prop} (hlo : Lo W n R F) (hnn : ∀ i, i < n → 0 ≤ F i ∧ F i ≤ 15) (hd : ∀ i j, D i → i < n → j < n → Rl i j → j = i) : PassG W n R Rl F D F :=
  ⟨hlo, fun _ _ => Int.le_refl _, fun i j hi hin hj hr => by rw [hd i j hi hin hj hr, dd_self]; omega, hnn⟩
theorem rn_first {W i j : Nat} (h : i < W + 1) (hr : RN W i j) : j = i := by
  have h0 : i / (W + 1) = 0 := Nat.div_eq_of_lt h
  have := hr.2
  rw [h0] at this
  exact same_at (by rw [h0]; exact Nat.le_zero.1 this) hr.1
theorem rs_last {W H n i j : Nat} (hn : n = (W + 1) * (H + 1)) (h : n - (W + 1) ≤ i) (hj : j < n) (hr : RS W i j) : j = i := by
  have hvj : j / (W + 1) < H + 1 := Nat.div_lt_of_lt_mul (by rw [← hn]; exact hj)
  have e : n - (W + 1) = H * (W + 1) := by rw [hn, Nat.mul_comm, Nat.succ_mul]; omega
  have h2 : H ≤ i / (W + 1) := (Nat.le_div_iff_mul_le (by omega)).2 (by omega)
  have := hr.2
  exact same_at (by omega) hr.1
end Go.Proofs.Ytngamphkehppfaa
