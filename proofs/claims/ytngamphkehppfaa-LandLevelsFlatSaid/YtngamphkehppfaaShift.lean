/-
  What raising and lowering a corner does to a land: which corners follow, with their new heights.
-/
import Derived.Test.YtngamphkehppfaaLand
namespace Go.Proofs.Ytngamphkehppfaa

/-- The number of steps from (x, y) to the i-th corner. -/
def far (W : Nat) (x y : Int) (i : Nat) : Int := dist ((i % (W + 1) : Nat) : Int) x + dist ((i / (W + 1) : Nat) : Int) y
/-- The height that the i-th corner must come to at least (or at most). -/
def bnd (W : Nat) (x y z s : Int) (i : Nat) : Int := z - s * far W x y i
def chgB (W : Nat) (x y z s : Int) (Z : Nat → Int) (i : Nat) : Bool := decide (0 < (bnd W x y z s i - Z i) * s)
def newZ (W : Nat) (x y z s : Int) (Z : Nat → Int) (i : Nat) : Int := if chgB W x y z s Z i then bnd W x y z s i else Z i
/-- The changed corners among the first k. -/
def chs (W : Nat) (x y z s : Int) (Z : Nat → Int) (k : Nat) : List Nat := (List.range k).filter (chgB W x y z s Z)

theorem chs_zero (W : Nat) (x y z s : Int) (Z : Nat → Int) : chs W x y z s Z 0 = [] := rfl
theorem chs_yes {W : Nat} {x y z s : Int} {Z : Nat → Int} {k : Nat} (h : chgB W x y z s Z k = true) : chs W x y z s Z (k + 1) = chs W x y z s Z k ++ [k] := by
  unfold chs; rw [List.range_succ, List.filter_append]; simp [h]
theorem chs_no {W : Nat} {x y z s : Int} {Z : Nat → Int} {k : Nat} (h : chgB W x y z s Z k = false) : chs W x y z s Z (k + 1) = chs W x y z s Z k := by
  unfold chs; rw [List.range_succ, List.filter_append]; simp [h]
theorem chs_skip {W : Nat} {x y z s : Int} {Z : Nat → Int} {k : Nat} (d : Nat) (h : ∀ i, k ≤ i → i < k + d → chgB W x y z s Z i = false) : chs W x y z s Z (k + d) = chs W x y z s Z k := by
  induction d with
  | zero => rfl
  | succ d ih =>
    rw [show k + (d + 1) = (k + d) + 1 from rfl, chs_no (h (k + d) (by omega) (by omega))]
    exact ih fun i h1 h2 => h i h1 (by omega)
theorem chs_le (W : Nat) (x y z s : Int) (Z : Nat → Int) (k : Nat) : (chs W x y z s Z k).length ≤ k := by
  unfold chs; exact Nat.le_trans (List.length_filter_le _ _) (by simp)
theorem mem_chs {W : Nat} {x y z s : Int} {Z : Nat → Int} {k i : Nat} : i ∈ chs W x y z s Z k ↔ i < k ∧ chgB W x y z s Z i = true := by
  unfold chs; simp

theorem at_mod {W v u : Nat} (h : u < W + 1) : (v * (W + 1) + u) % (W + 1) = u := by
  rw [Nat.mul_comm, Nat.mul_add_mod]; exact Nat.mod_eq_of_lt h
theorem at_div {W v u : Nat} (h : u < W + 1) : (v * (W + 1) + u) / (W + 1) = v := by
  rw [Nat.mul_comm, Nat.mul_add_div (by omega)]; rw [Nat.div_eq_of_lt h]; omega
theorem at_split (W i : Nat) : i = i / (W + 1) * (W + 1) + i % (W + 1) := by
  have := Nat.div_add_mod i (W + 1)
  rw [Nat.mul_comm] at this; omega
theorem far_at {W v u : Nat} (h : u < W + 1) (x y : Int) : far W x y (v * (W + 1) + u) = dist u x + dist v y := by
  unfold far; rw [at_mod h, at_div h]
theorem chg_up {W : Nat} {x y z : Int} {Z : Nat → Int} {i : Nat} : chgB W x y z 1 Z i = true ↔ Z i < z - far W x y i := by
  unfold chgB bnd; simp only [decide_eq_true_eq]; omega
theorem chg_dn {W : Nat} {x y z : Int} {Z : Nat → Int} {i : Nat} : chgB W x y z (-1) Z i = true ↔ z + far W x y i < Z i := by
  unfold chgB bnd; simp only [decide_eq_true_eq]; omega

/-- Sides as numbers from 0 on. -/
def Good (W H n : Nat) (Z : Nat → Int) : Prop := Valid W H n Z
theorem Good.len {W H n : Nat} {Z : Nat → Int} (h : Good W H n Z) : n = (W + 1) * (H + 1) := by
  have := h.shaped.2
  have e : ((W : Int) + 1) * ((H : Int) + 1) = (((W + 1) * (H + 1) : Nat) : Int) := by simp
  omega
theorem Good.side {W H n : Nat} {Z : Nat → Int} (h : Good W H n Z) : 4 ≤ W ∧ W ≤ 32 ∧ 4 ≤ H ∧ H ≤ 32 := by
  obtain ⟨⟨h1, h2⟩, h3, h4⟩ := h.shaped.1; omega
theorem Valid.good {W H : Int} {n : Nat} {Z : Nat → Int} (h : Valid W H n Z) : ∃ a b : Nat, W = a ∧ H = b ∧ Good a b n Z := by
  obtain ⟨⟨h1, h2⟩, h3, h4⟩ := h.shaped.1
  refine ⟨W.toNat, H.toNat, by omega, by omega, ?_⟩
  unfold Good
  rwa [show ((W.toNat : Nat) : Int) = W by omega, show ((H.toNat : Nat) : Int) = H by omega]
theorem Good.east {W H n : Nat} {Z : Nat → Int} (h : Good W H n Z) {v u : Nat} (hu : u + 1 < W + 1) (hv : v < H + 1) : dist (Z (v * (W + 1) + u + 1)) (Z (v * (W + 1) + u)) ≤ 1 := by
  have hl := h.len
  have hb : (v + 1) * (W + 1) ≤ (H + 1) * (W + 1) := Nat.mul_le_mul_right _ (by omega)
  have hb2 : (v + 1) * (W + 1) = v * (W + 1) + (W + 1) := Nat.succ_mul _ _
  have hn : v * (W + 1) + u + 1 < n := by rw [hl, Nat.mul_comm (W + 1)]; omega
  have := (h.near _ hn).1
  unfold West at this
  rw [show v * (W + 1) + u + 1 - 1 = v * (W + 1) + u from by omega] at this
  refine this ?_
  have e : ((v * (W + 1) + u + 1 : Nat) : Int) % ((W : Int) + 1) = (((v * (W + 1) + (u + 1)) % (W + 1) : Nat) : Int) := by
    rw [Int.natCast_emod]; rfl
  rw [e, at_mod hu]; omega
theorem Good.south {W H n : Nat} {Z : Nat → Int} (h : Good W H n Z) {v u : Nat} (hu : u < W + 1) (hv : v + 1 < H + 1) : dist (Z ((v + 1) * (W + 1) + u)) (Z (v * (W + 1) + u)) ≤ 1 := by
  have hl := h.len
  have hb : (v + 2) * (W + 1) ≤ (H + 1) * (W + 1) := Nat.mul_le_mul_right _ (by omega)
  have hb2 : (v + 2) * (W + 1) = v * (W + 1) + 2 * (W + 1) := Nat.add_mul _ _ _
  have hb3 : (v + 1) * (W + 1) = v * (W + 1) + (W + 1) := Nat.succ_mul _ _
  have hn : (v + 1) * (W + 1) + u < n := by rw [hl, Nat.mul_comm (W + 1)]; omega
  have := (h.near _ hn).2
  unfold North at this
  rw [show ((((v + 1) * (W + 1) + u : Nat) : Int) - ((W : Int) + 1)).toNat = v * (W + 1) + u from by omega] at this
  exact this (by omega)
theorem Good.at_lt {W H n : Nat} {Z : Nat → Int} (h : Good W H n Z) {v u : Nat} (hu : u < W + 1) (hv : v < H + 1) : v * (W + 1) + u < n := by
  have hb : (v + 1) * (W + 1) ≤ (H + 1) * (W + 1) := Nat.mul_le_mul_right _ (by omega)
  have hb2 : (v + 1) * (W + 1) = v * (W + 1) + (W + 1) := Nat.succ_mul _ _
  rw [h.len, Nat.mul_comm (W + 1)]; omega

theorem dist_small {a b c : Nat} (ha : a ≤ c) (hb : b ≤ c) : 0 ≤ dist (a : Int) b ∧ dist (a : Int) b ≤ c := by unfold dist; split <;> omega
/-- Where a corner at x or east of it stays, all east of it in its row stay. -/
theorem stay_east {W H n : Nat} {Z : Nat → Int} (hg : Good W H n Z) {x : Nat} {y z s : Int} (hs : s = 1 ∨ s = -1) {v u : Nat} (hv : v < H + 1) (hx : x ≤ u)
    (h : chgB W x y z s Z (v * (W + 1) + u) = false) : ∀ d, u + d < W + 1 → chgB W x y z s Z (v * (W + 1) + (u + d)) = false := by
  intro d
  induction d with
  | zero => exact fun _ => h
  | succ d ih =>
    intro hd
    have h1 := ih (by omega)
    have h2 := dist_le.1 (hg.east (v := v) (u := u + d) (by omega) hv)
    have f1 := far_at (W := W) (v := v) (u := u + d) (by omega) x y
    have f2 := far_at (W := W) (v := v) (u := u + d + 1) (by omega) x y
    have e1 : dist ((u + d : Nat) : Int) x = (u + d : Nat) - x := by unfold dist; rw [if_neg (by omega)]
    have e2 : dist ((u + d + 1 : Nat) : Int) x = (u + d + 1 : Nat) - x := by unfold dist; rw [if_neg (by omega)]
    rw [Bool.eq_false_iff] at h1 ⊢
    rw [show v * (W + 1) + (u + (d + 1)) = v * (W + 1) + (u + d) + 1 from by omega]
    rw [show v * (W + 1) + (u + d + 1) = v * (W + 1) + (u + d) + 1 from by omega] at f2
    rcases hs with rfl | rfl
    · rw [Ne, chg_up] at h1 ⊢; omega
    · rw [Ne, chg_dn] at h1 ⊢; omega
end Go.Proofs.Ytngamphkehppfaa
