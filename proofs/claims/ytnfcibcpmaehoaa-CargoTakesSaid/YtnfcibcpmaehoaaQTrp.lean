/-
  What a load that comes to a tile is worth: the errors of a trip, how far parcels have come, sums of what is paid and of shares.
-/
import Derived.Test.YtnfcibcpmaehoaaQRPay
import Derived.Test.YtnfcibcpmaehoaaQCg2
import Derived.Test.YtnfcibcpmaehoaaQRVal
namespace Go.Proofs.Ytnfcibcpmaehoaa
open Go.RowKit

/-- The error of a load of some cargoes that comes to a tile of a map with W columns. -/
def TErr (m : Nat) (C : Nat → Cg) (n : Nat) (P : Nat → Par) (W u : Int) : Int :=
  if CErr m C ≠ 0 then CErr m C else if LErr n P ≠ 0 then LErr n P else if anyP n (fun i => decide ((m : Int) ≤ (P i).k)) = true then 2 else
    if ((decide (4 ≤ W) && decide (W ≤ 32)) && (decide (0 ≤ u) && decide (u ≤ 1000000))) = true then 0 else 1
structure Trip (m : Nat) (C : Nat → Cg) (n : Nat) (P : Nat → Par) (W u : Int) : Prop where
  cg : Cargoes m C
  ld : Load n P
  kd : ∀ i, i < n → (P i).k < m
  w1 : 4 ≤ W
  w2 : W ≤ 32
  u1 : 0 ≤ u
  u2 : u ≤ 1000000
theorem TErr.trip {m : Nat} {C : Nat → Cg} {n : Nat} {P : Nat → Par} {W u : Int} (h : TErr m C n P W u = 0) : Trip m C n P W u := by
  unfold TErr at h
  by_cases h1 : CErr m C = 0
  · rw [if_neg (by simpa using h1)] at h
    by_cases h2 : LErr n P = 0
    · rw [if_neg (by simpa using h2)] at h
      cases h3 : anyP n (fun i => decide ((m : Int) ≤ (P i).k))
      · rw [h3, if_neg (by simp)] at h
        by_cases h4 : ((decide (4 ≤ W) && decide (W ≤ 32)) && (decide (0 ≤ u) && decide (u ≤ 1000000))) = true
        · simp only [Bool.and_eq_true, decide_eq_true_eq] at h4
          exact ⟨CErr.ok h1, LErr.load h2, fun i hi => by have := anyP_no' h3 hi; simpa using this, h4.1.1, h4.1.2, h4.2.1, h4.2.2⟩
        · rw [if_neg h4] at h; exact absurd h (by decide)
      · rw [h3, if_pos rfl] at h; exact absurd h (by decide)
    · rw [if_pos h2] at h; exact absurd h h2
  · rw [if_pos h1] at h; exact absurd h h1
/-- How far two tiles are apart. -/
def dst (W a b : Int) : Int := max (a % W - b % W) (b % W - a % W) + max (a / W - b / W) (b / W - a / W)
theorem dst_bd {W a b : Int} (w1 : 4 ≤ W) (w2 : W ≤ 32) (a1 : 0 ≤ a) (a2 : a ≤ 1000000) (b1 : 0 ≤ b) (b2 : b ≤ 1000000) :
    (0 ≤ a % W ∧ a % W < 32) ∧ (0 ≤ b % W ∧ b % W < 32) ∧ (0 ≤ a / W ∧ a / W ≤ 250000) ∧ (0 ≤ b / W ∧ b / W ≤ 250000) ∧ 0 ≤ dst W a b ∧ dst W a b ≤ 250031 := by
  have h1 := Int.emod_nonneg a (show W ≠ 0 by omega)
  have h2 := Int.emod_lt_of_pos a (show 0 < W by omega)
  have h3 := Int.emod_nonneg b (show W ≠ 0 by omega)
  have h4 := Int.emod_lt_of_pos b (show 0 < W by omega)
  have h5 := Int.ediv_nonneg a1 (show 0 ≤ W by omega)
  have h6 := Int.ediv_nonneg b1 (show 0 ≤ W by omega)
  have q (x : Int) (x1 : 0 ≤ x) (x2 : x ≤ 1000000) : x / W ≤ 250000 := by
    have e1 : x / W ≤ x / 4 := by
      have h0 := Int.ediv_nonneg x1 (show 0 ≤ W by omega)
      have hm := Int.mul_ediv_add_emod x W
      have hr := Int.emod_nonneg x (show W ≠ 0 by omega)
      have hk : 4 * (x / W) ≤ W * (x / W) := Int.mul_le_mul_of_nonneg_right w1 h0
      generalize W * (x / W) = y at *
      omega
    omega
  have h7 := q a a1 a2
  have h8 := q b b1 b2
  unfold dst
  refine ⟨⟨h1, by omega⟩, ⟨h3, by omega⟩, ⟨h5, h7⟩, ⟨h6, h8⟩, ?_, ?_⟩ <;> omega
/-- What is paid for the parcel at i. -/
def pdP (C : Nat → Cg) (P : Nat → Par) (W u : Int) (i : Nat) : Int := payV (C (P i).k.toNat) (P i).c (dst W (P i).t u) (P i).a
/-- What is paid for the first i parcels; their shares. -/
def pdS (C : Nat → Cg) (P : Nat → Par) (W u : Int) : Nat → Int
  | 0 => 0
  | i + 1 => pdS C P W u i + pdP C P W u i
def shS (P : Nat → Par) : Nat → Int
  | 0 => 0
  | i + 1 => shS P i + (P i).s
theorem Trip.pd {m : Nat} {C : Nat → Cg} {n : Nat} {P : Nat → Par} {W u : Int} (h : Trip m C n P W u) {i : Nat} (hi : i < n) : 0 ≤ pdP C P W u i ∧ pdP C P W u i ≤ 1000000000000 := by
  have hp := h.ld.ok i hi
  have hk := h.kd i hi
  have hd := dst_bd h.w1 h.w2 hp.t1 hp.t2 h.u1 h.u2
  exact ⟨payV_nn (h.cg.ok _ (by have := hp.k1; omega)) (by have := hp.c1; omega) hd.2.2.2.2.1, payV_le _ _ _ _⟩
theorem Trip.pds {m : Nat} {C : Nat → Cg} {n : Nat} {P : Nat → Par} {W u : Int} (h : Trip m C n P W u) : ∀ i, i ≤ n → 0 ≤ pdS C P W u i ∧ pdS C P W u i ≤ 1000000000000 * (i : Int)
  | 0, _ => ⟨Int.le_refl _, Int.le_refl _⟩
  | i + 1, hi => by
    have h1 := h.pds i (by omega)
    have h2 := h.pd (i := i) (by omega)
    show 0 ≤ pdS C P W u i + pdP C P W u i ∧ pdS C P W u i + pdP C P W u i ≤ _
    omega
theorem Trip.shs {m : Nat} {C : Nat → Cg} {n : Nat} {P : Nat → Par} {W u : Int} (h : Trip m C n P W u) : ∀ i, i ≤ n → 0 ≤ shS P i ∧ shS P i ≤ 1000000000000 * (i : Int)
  | 0, _ => ⟨Int.le_refl _, Int.le_refl _⟩
  | i + 1, hi => by
    have h1 := h.shs i (by omega)
    have h2 := h.ld.ok i (by omega)
    have h3 := h2.s1
    have h4 := h2.s2
    show 0 ≤ shS P i + (P i).s ∧ shS P i + (P i).s ≤ _
    omega
theorem Trip.mono {m : Nat} {C : Nat → Cg} {n : Nat} {P : Nat → Par} {W u : Int} (h : Trip m C n P W u) : ∀ d i, i + d ≤ n → pdS C P W u i ≤ pdS C P W u (i + d)
  | 0, i, _ => Int.le_refl _
  | d + 1, i, hi => by
    have h1 := h.mono d i (by omega)
    have h2 := h.pd (i := i + d) (by omega)
    show _ ≤ pdS C P W u (i + d) + pdP C P W u (i + d)
    omega
end Go.Proofs.Ytnfcibcpmaehoaa
