/-
  Raising and lowering keep a land right.
-/
import Derived.Test.YtngamphkehppfaaWalkSh2
namespace Go.Proofs.Ytngamphkehppfaa

theorem newZ_up (W : Nat) (x y z : Int) (Z : Nat → Int) (i : Nat) : newZ W x y z 1 Z i = if Z i < z - far W x y i then z - far W x y i else Z i := by
  unfold newZ
  by_cases h : Z i < z - far W x y i
  · rw [if_pos (chg_up.2 h), if_pos h]; unfold bnd; omega
  · rw [if_neg (fun k => h (chg_up.1 k)), if_neg h]
theorem newZ_dn (W : Nat) (x y z : Int) (Z : Nat → Int) (i : Nat) : newZ W x y z (-1) Z i = if z + far W x y i < Z i then z + far W x y i else Z i := by
  unfold newZ
  by_cases h : z + far W x y i < Z i
  · rw [if_pos (chg_dn.2 h), if_pos h]; unfold bnd; omega
  · rw [if_neg (fun k => h (chg_dn.1 k)), if_neg h]
theorem far_nn (W : Nat) (x y : Int) (i : Nat) : 0 ≤ far W x y i := by unfold far; have := dist_nn ((i % (W + 1) : Nat) : Int) x; have := dist_nn ((i / (W + 1) : Nat) : Int) y; omega
theorem dist_step {a b : Int} (c : Int) (h : dist a b ≤ 1) : dist a c - dist b c ≤ 1 ∧ dist b c - dist a c ≤ 1 := by
  have := dist_le.1 h
  unfold dist; split <;> split <;> omega
/-- A right land, said of rows and columns. -/
theorem good_of {W H n : Nat} {Z : Nat → Int} (hs : Shaped W H n) (hh : High n Z)
    (he : ∀ v u, u + 1 < W + 1 → v < H + 1 → dist (Z (v * (W + 1) + u + 1)) (Z (v * (W + 1) + u)) ≤ 1)
    (hsu : ∀ v u, u < W + 1 → v + 1 < H + 1 → dist (Z ((v + 1) * (W + 1) + u)) (Z (v * (W + 1) + u)) ≤ 1) : Good W H n Z := by
  have hn : n = (W + 1) * (H + 1) := by
    have := hs.2
    have e : ((W : Int) + 1) * ((H : Int) + 1) = (((W + 1) * (H + 1) : Nat) : Int) := by simp
    omega
  refine ⟨hs, hh, fun i hi => ⟨fun hw => ?_, fun hw => ?_⟩⟩
  all_goals
    have hsp := at_split W i
    have hm := Nat.mod_lt i (show 0 < W + 1 by omega)
    have hv : i / (W + 1) < H + 1 := Nat.div_lt_of_lt_mul (by rw [← hn]; exact hi)
    obtain ⟨u, hu⟩ : ∃ u, u = i % (W + 1) := ⟨_, rfl⟩
    obtain ⟨v, hvv⟩ : ∃ v, v = i / (W + 1) := ⟨_, rfl⟩
    rw [← hu, ← hvv] at hsp
    rw [← hu] at hm
    rw [← hvv] at hv
  · have e : (i : Int) % ((W : Int) + 1) = ((i % (W + 1) : Nat) : Int) := by rw [Int.natCast_emod]; rfl
    rw [e, ← hu] at hw
    have := he v (u - 1) (by omega) hv
    rw [show v * (W + 1) + (u - 1) + 1 = i by omega, show v * (W + 1) + (u - 1) = i - 1 by omega] at this
    exact this
  · have h0 : v ≠ 0 := by
      intro h; rw [h] at hsp; omega
    have e1 : (v - 1 + 1) * (W + 1) = (v - 1) * (W + 1) + (W + 1) := Nat.succ_mul _ _
    have := hsu (v - 1) u hm (by omega)
    rw [e1] at this
    rw [show v - 1 + 1 = v by omega] at e1
    rw [show (v - 1) * (W + 1) + (W + 1) + u = i by omega] at this
    rwa [show ((i : Int) - ((W : Int) + 1)).toNat = (v - 1) * (W + 1) + u by omega]
theorem SOk.keeps {W H n : Nat} {Z : Nat → Int} {x y : Nat} {s : Int} {m : Nat} {T : Nat → Int} {z : Int} {L : List Nat} {X : Nat → Int} (h : SOk W H n Z x y s m T z L X) : Good W H n X := by
  have hz := h.hz
  rw [h.hX]
  rcases h.hs with rfl | rfl
  · refine good_of h.good.shaped (fun i hi => ?_) (fun v u hu hv => ?_) (fun v u hu hv => ?_)
    · have := h.good.high i hi
      have := far_nn W x y i
      rw [newZ_up]; split <;> omega
    · have h1 := dist_le.1 (h.good.east hu hv)
      have f1 := far_at (W := W) (v := v) (u := u) (by omega) x y
      have f2 := far_at (W := W) (v := v) (u := u + 1) hu x y
      have h2 := dist_step (a := ((u + 1 : Nat) : Int)) (b := u) x (by unfold dist; split <;> omega)
      rw [show v * (W + 1) + (u + 1) = v * (W + 1) + u + 1 from rfl] at f2
      rw [dist_le, newZ_up, newZ_up]
      split <;> split <;> omega
    · have h1 := dist_le.1 (h.good.south hu hv)
      have f1 := far_at (W := W) (v := v) (u := u) hu x y
      have f2 := far_at (W := W) (v := v + 1) (u := u) hu x y
      have h2 := dist_step (a := ((v + 1 : Nat) : Int)) (b := v) y (by unfold dist; split <;> omega)
      rw [dist_le, newZ_up, newZ_up]
      split <;> split <;> omega
  · refine good_of h.good.shaped (fun i hi => ?_) (fun v u hu hv => ?_) (fun v u hu hv => ?_)
    · have := h.good.high i hi
      have := far_nn W x y i
      rw [newZ_dn]; split <;> omega
    · have h1 := dist_le.1 (h.good.east hu hv)
      have f1 := far_at (W := W) (v := v) (u := u) (by omega) x y
      have f2 := far_at (W := W) (v := v) (u := u + 1) hu x y
      have h2 := dist_step (a := ((u + 1 : Nat) : Int)) (b := u) x (by unfold dist; split <;> omega)
      rw [show v * (W + 1) + (u + 1) = v * (W + 1) + u + 1 from rfl] at f2
      rw [dist_le, newZ_dn, newZ_dn]
      split <;> split <;> omega
    · have h1 := dist_le.1 (h.good.south hu hv)
      have f1 := far_at (W := W) (v := v) (u := u) hu x y
      have f2 := far_at (W := W) (v := v + 1) (u := u) hu x y
      have h2 := dist_step (a := ((v + 1 : Nat) : Int)) (b := v) y (by unfold dist; split <;> omega)
      rw [dist_le, newZ_dn, newZ_dn]
      split <;> split <;> omega

/-- The document's example. -/
theorem flat_good : Good 4 4 25 (fun _ => 3) := by
  refine good_of ⟨⟨⟨by decide, by decide⟩, by decide, by decide⟩, by decide⟩ (fun i _ => by decide) (fun _ _ _ _ => by decide) (fun _ _ _ _ => by decide)
def X1 : Nat → Int := newZ 4 (2 : Nat) (2 : Nat) 4 1 (fun _ => 3)
theorem heldB_none (W H : Nat) (T : Nat → Int) (i : Nat) : heldB W H T 0 i = false := rfl
theorem ex1 : SOk 4 4 25 (fun _ => 3) 2 2 1 0 (fun _ => 0) 4 (chs 4 (2 : Nat) (2 : Nat) 4 1 (fun _ => 3) 25) X1 :=
  ⟨flat_good, by decide, by decide, .inl rfl, by decide, by decide, rfl, rfl, fun _ _ => heldB_none _ _ _ _⟩
theorem ex1_len : (chs 4 (2 : Nat) (2 : Nat) 4 1 (fun _ => 3) 25).length = 1 := by decide
theorem ex2 : SOk 4 4 25 X1 2 2 1 0 (fun _ => 0) 5 (chs 4 (2 : Nat) (2 : Nat) 5 1 X1 25) (newZ 4 (2 : Nat) (2 : Nat) 5 1 X1) :=
  ⟨ex1.keeps, by decide, by decide, .inl rfl, by decide, by decide, rfl, rfl, fun _ _ => heldB_none _ _ _ _⟩
theorem ex2_len : (chs 4 (2 : Nat) (2 : Nat) 5 1 X1 25).length = 5 := by decide
theorem ex2_at : newZ 4 (2 : Nat) (2 : Nat) 5 1 X1 12 = 5 := by decide
end Go.Proofs.Ytngamphkehppfaa
