/-
  In a right land heights differ by no more than the steps between them; a changed corner changes by one.
-/
import Derived.Test.YtngamphkehppfaaWalkHeld
namespace Go.Proofs.Ytngamphkehppfaa
open Go.RowKit

theorem lip_row {W H n : Nat} {Z : Nat → Int} (hg : Good W H n Z) {v u : Nat} (hv : v < H + 1) : ∀ d, u + d < W + 1 → dist (Z (v * (W + 1) + (u + d))) (Z (v * (W + 1) + u)) ≤ d := by
  intro d
  induction d with
  | zero => intro _; unfold dist; simp
  | succ d ih =>
    intro h
    have h1 := dist_le.1 (ih (by omega))
    have h2 := dist_le.1 (hg.east (v := v) (u := u + d) (by omega) hv)
    rw [show v * (W + 1) + (u + (d + 1)) = v * (W + 1) + (u + d) + 1 from rfl, dist_le]
    omega
theorem lip_col {W H n : Nat} {Z : Nat → Int} (hg : Good W H n Z) {v u : Nat} (hu : u < W + 1) : ∀ d, v + d < H + 1 → dist (Z ((v + d) * (W + 1) + u)) (Z (v * (W + 1) + u)) ≤ d := by
  intro d
  induction d with
  | zero => intro _; unfold dist; simp
  | succ d ih =>
    intro h
    have h1 := dist_le.1 (ih (by omega))
    have h2 := dist_le.1 (hg.south (v := v + d) (u := u) hu (by omega))
    rw [show v + (d + 1) = v + d + 1 from rfl, dist_le]
    omega
theorem lip_row' {W H n : Nat} {Z : Nat → Int} (hg : Good W H n Z) {v u x : Nat} (hv : v < H + 1) (hu : u < W + 1) (hx : x < W + 1) : dist (Z (v * (W + 1) + u)) (Z (v * (W + 1) + x)) ≤ dist (u : Int) x := by
  by_cases h : x ≤ u
  · have := lip_row hg (u := x) hv (u - x) (by omega)
    rw [show x + (u - x) = u by omega] at this
    have e : dist (u : Int) x = ((u - x : Nat) : Int) := by unfold dist; rw [if_neg (by omega)]; omega
    rw [e]; exact this
  · have := lip_row hg (u := u) hv (x - u) (by omega)
    rw [show u + (x - u) = x by omega, dist_comm] at this
    have e : dist (u : Int) x = ((x - u : Nat) : Int) := by unfold dist; rw [if_pos (by omega)]; omega
    rw [e]; exact this
theorem lip_col' {W H n : Nat} {Z : Nat → Int} (hg : Good W H n Z) {v y u : Nat} (hv : v < H + 1) (hy : y < H + 1) (hu : u < W + 1) : dist (Z (v * (W + 1) + u)) (Z (y * (W + 1) + u)) ≤ dist (v : Int) y := by
  by_cases h : y ≤ v
  · have := lip_col hg (v := y) hu (v - y) (by omega)
    rw [show y + (v - y) = v by omega] at this
    have e : dist (v : Int) y = ((v - y : Nat) : Int) := by unfold dist; rw [if_neg (by omega)]; omega
    rw [e]; exact this
  · have := lip_col hg (v := v) hu (y - v) (by omega)
    rw [show v + (y - v) = y by omega, dist_comm] at this
    have e : dist (v : Int) y = ((y - v : Nat) : Int) := by unfold dist; rw [if_pos (by omega)]; omega
    rw [e]; exact this
theorem Good.row_lt {W H n i : Nat} {Z : Nat → Int} (hg : Good W H n Z) (hi : i < n) : i / (W + 1) < H + 1 := Nat.div_lt_of_lt_mul (by rw [← hg.len]; exact hi)
theorem lip {W H n : Nat} {Z : Nat → Int} (hg : Good W H n Z) {x y i : Nat} (hx : x ≤ W) (hy : y ≤ H) (hi : i < n) : dist (Z i) (Z (y * (W + 1) + x)) ≤ far W x y i := by
  have hv := hg.row_lt hi
  have hu := Nat.mod_lt i (show 0 < W + 1 by omega)
  have h1 := dist_le.1 (lip_row' hg (v := i / (W + 1)) (u := i % (W + 1)) (x := x) hv hu (by omega))
  have h2 := dist_le.1 (lip_col' hg (v := i / (W + 1)) (y := y) (u := x) hv (by omega) (by omega))
  have e := at_split W i
  rw [← e] at h1
  unfold far
  rw [dist_le]
  omega
/-- A changed corner moves by one step. -/
theorem chg_one {W H n : Nat} {Z : Nat → Int} (hg : Good W H n Z) {x y i : Nat} (hx : x ≤ W) (hy : y ≤ H) (hi : i < n) {s z : Int} (hs : s = 1 ∨ s = -1) (ez : z = Z (y * (W + 1) + x) + s) (hc : chgB W x y z s Z i = true) :
    newZ W x y z s Z i = Z i + s := by
  have h := dist_le.1 (lip hg hx hy hi)
  rcases hs with rfl | rfl
  · have h1 := chg_up.1 hc
    rw [newZ_up, if_pos h1]; omega
  · have h1 := chg_dn.1 hc
    rw [newZ_dn, if_pos h1]; omega
/-- Two rows of elements of two kinds lie in two blocks. -/
theorem row_apart {w : World} {B B' : Nat} {e e' : TypeId} {size size' n n' : Nat} {v v' : Value} {xs xs' : List Value} (h : w.ownsRow B e size v n xs) (h' : w.ownsRow B' e' size' v' n' xs') (hne : e ≠ e') :
    v.ownBlock = none ∨ v.ownBlock ≠ v'.ownBlock := by
  rcases h.2 with ⟨rfl, _⟩ | ⟨g, cap, cur, rfl, _, hg, _⟩
  · exact .inl rfl
  · refine .inr fun hk => ?_
    rcases h'.2 with ⟨rfl, _⟩ | ⟨g', cap', cur', rfl, _, hg', _⟩
    · cases hk
    · simp only [Value.ownBlock, Option.some.injEq] at hk
      subst hk
      rw [hg] at hg'
      simp at hg'
      exact hne hg'.2
end Go.Proofs.Ytngamphkehppfaa
