/-
  Lands with sides as numbers: what is beside what.
-/
import Derived.Test.YtkpnngpnjimogaaSLand
namespace Go.Proofs.Ytkpnngpnjimogaa

theorem at_mod {W v u : Nat} (h : u < W + 1) : (v * (W + 1) + u) % (W + 1) = u := by
  rw [Nat.mul_comm, Nat.mul_add_mod]; exact Nat.mod_eq_of_lt h
theorem at_div {W v u : Nat} (h : u < W + 1) : (v * (W + 1) + u) / (W + 1) = v := by
  rw [Nat.mul_comm, Nat.mul_add_div (by omega)]; rw [Nat.div_eq_of_lt h]; omega
theorem at_split (W i : Nat) : i = i / (W + 1) * (W + 1) + i % (W + 1) := by
  have := Nat.div_add_mod i (W + 1)
  rw [Nat.mul_comm] at this; omega
/-- Sides as numbers from 0 on. -/
def Good (W H n : Nat) (Z : Nat → Int) : Prop := Valid W H n Z
theorem Good.len {W H n : Nat} {Z : Nat → Int} (h : Good W H n Z) : n = (W + 1) * (H + 1) := by
  have := h.shaped.2
  have e : ((W : Int) + 1) * ((H : Int) + 1) = (((W + 1) * (H + 1) : Nat) : Int) := by simp
  omega
theorem Good.side {W H n : Nat} {Z : Nat → Int} (h : Good W H n Z) : 4 ≤ W ∧ W ≤ 32 ∧ 4 ≤ H ∧ H ≤ 32 := by
  obtain ⟨⟨h1, h2⟩, h3, h4⟩ := h.shaped.1; omega
theorem Valid.good {W H : Int} {n : Nat} {Z : Nat → Int} (h : Valid W H n Z) : ∃ a b : Nat, W = a ∧ H = b ∧ Good a b n Z := by
  obtain ⟨⟨h1, h2⟩, h3, h4⟩ := h.shaped.1
  refine ⟨W.toNat, H.toNat, by omega, by omega, ?_⟩
  unfold Good
  rwa [show ((W.toNat : Nat) : Int) = W by omega, show ((H.toNat : Nat) : Int) = H by omega]
theorem Good.east {W H n : Nat} {Z : Nat → Int} (h : Good W H n Z) {v u : Nat} (hu : u + 1 < W + 1) (hv : v < H + 1) : dist (Z (v * (W + 1) + u + 1)) (Z (v * (W + 1) + u)) ≤ 1 := by
  have hl := h.len
  have hb : (v + 1) * (W + 1) ≤ (H + 1) * (W + 1) := Nat.mul_le_mul_right _ (by omega)
  have hb2 : (v + 1) * (W + 1) = v * (W + 1) + (W + 1) := Nat.succ_mul _ _
  have hn : v * (W + 1) + u + 1 < n := by rw [hl, Nat.mul_comm (W + 1)]; omega
  have := (h.near _ hn).1
  unfold West at this
  rw [show v * (W + 1) + u + 1 - 1 = v * (W + 1) + u from by omega] at this
  refine this ?_
  have e : ((v * (W + 1) + u + 1 : Nat) : Int) % ((W : Int) + 1) = (((v * (W + 1) + (u + 1)) % (W + 1) : Nat) : Int) := by
    rw [Int.natCast_emod]; rfl
  rw [e, at_mod hu]; omega
theorem Good.south {W H n : Nat} {Z : Nat → Int} (h : Good W H n Z) {v u : Nat} (hu : u < W + 1) (hv : v + 1 < H + 1) : dist (Z ((v + 1) * (W + 1) + u)) (Z (v * (W + 1) + u)) ≤ 1 := by
  have hl := h.len
  have hb : (v + 2) * (W + 1) ≤ (H + 1) * (W + 1) := Nat.mul_le_mul_right _ (by omega)
  have hb2 : (v + 2) * (W + 1) = v * (W + 1) + 2 * (W + 1) := Nat.add_mul _ _ _
  have hb3 : (v + 1) * (W + 1) = v * (W + 1) + (W + 1) := Nat.succ_mul _ _
  have hn : (v + 1) * (W + 1) + u < n := by rw [hl, Nat.mul_comm (W + 1)]; omega
  have := (h.near _ hn).2
  unfold North at this
  rw [show ((((v + 1) * (W + 1) + u : Nat) : Int) - ((W : Int) + 1)).toNat = v * (W + 1) + u from by omega] at this
  exact this (by omega)
theorem Good.at_lt {W H n : Nat} {Z : Nat → Int} (h : Good W H n Z) {v u : Nat} (hu : u < W + 1) (hv : v < H + 1) : v * (W + 1) + u < n := by
  have hb : (v + 1) * (W + 1) ≤ (H + 1) * (W + 1) := Nat.mul_le_mul_right _ (by omega)
  have hb2 : (v + 1) * (W + 1) = v * (W + 1) + (W + 1) := Nat.succ_mul _ _
  rw [h.len, Nat.mul_comm (W + 1)]; omega

end Go.Proofs.Ytkpnngpnjimogaa
