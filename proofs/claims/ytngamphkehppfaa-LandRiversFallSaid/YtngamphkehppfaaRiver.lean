/-
  The tiles beside a tile, the lowest of them, and the tiles along which water flows off.
-/
import Derived.Test.YtngamphkehppfaaWalkWater
namespace Go.Proofs.Ytngamphkehppfaa

/-- The sum of a tile's four heights. -/
def sumT (W : Nat) (Z : Nat → Int) (u : Nat) : Int := Z (nw W u) + Z (nw W u + 1) + Z (nw W u + W + 2) + Z (nw W u + W + 1)
/-- The tile on a side of a tile, or -1. -/
def bsd (W H u : Nat) (k : Nat) : Int :=
  if k = 0 then (if u % W + 1 < W then (u : Int) + 1 else -1)
  else if k = 1 then (if u / W + 1 < H then (u : Int) + W else -1)
  else if k = 2 then (if 0 < u % W then (u : Int) - 1 else -1)
  else if k = 3 then (if 0 < u / W then (u : Int) - W else -1)
  else -1
theorem split_at (W u : Nat) : u = u / W * W + u % W := by
  have := Nat.div_add_mod u W
  rw [Nat.mul_comm] at this; omega
theorem row_of {W H u : Nat} (hu : u < W * H) : u / W < H := Nat.div_lt_of_lt_mul hu
/-- What stands beside a tile is none, or a tile. -/
theorem bsd_tile {W H u : Nat} (hu : u < W * H) (k : Nat) : bsd W H u k = -1 ∨ ∃ v : Nat, bsd W H u k = (v : Int) ∧ v < W * H := by
  have hW : 0 < W := by
    rcases Nat.eq_zero_or_pos W with h | h
    · subst h; simp at hu
    · exact h
  have h1 := split_at W u
  have h2 := row_of hu
  have h3 := Nat.mod_lt u hW
  have up : ∀ v, v < H → v * W + W ≤ W * H := fun v hv => by
    have := Nat.mul_le_mul_right W (show v + 1 ≤ H by omega)
    rw [Nat.succ_mul, Nat.mul_comm H] at this; exact this
  unfold bsd
  split
  · split
    · exact .inr ⟨u + 1, by simp, by have := up _ h2; omega⟩
    · exact .inl rfl
  · split
    · split
      · refine .inr ⟨u + W, by simp, ?_⟩
        have := up (u / W + 1) (by omega)
        rw [Nat.succ_mul] at this; omega
      · exact .inl rfl
    · split
      · split
        · exact .inr ⟨u - 1, by omega, by omega⟩
        · exact .inl rfl
      · split
        · split
          · refine .inr ⟨u - W, ?_, by omega⟩
            have : W ≤ u := by
              have := Nat.mul_le_mul_right W (show 1 ≤ u / W by omega)
              omega
            omega
          · exact .inl rfl
        · exact .inl rfl

/-- The lowest found among the first k sides, and its sum. -/
def lowS (W H : Nat) (Z : Nat → Int) (u : Nat) : Nat → Nat × Int
  | 0 => (u, sumT W Z u)
  | k + 1 => if 0 ≤ bsd W H u k ∧ sumT W Z (bsd W H u k).toNat < (lowS W H Z u k).2 then ((bsd W H u k).toNat, sumT W Z (bsd W H u k).toNat) else lowS W H Z u k
theorem lowS_inv {W H : Nat} {Z : Nat → Int} {u : Nat} (hu : u < W * H) (k : Nat) :
    (lowS W H Z u k).1 < W * H ∧ (lowS W H Z u k).2 = sumT W Z (lowS W H Z u k).1 ∧ (((lowS W H Z u k).1 = u ∧ (lowS W H Z u k).2 = sumT W Z u) ∨ ((lowS W H Z u k).1 ≠ u ∧ (lowS W H Z u k).2 < sumT W Z u)) := by
  induction k with
  | zero => exact ⟨hu, rfl, .inl ⟨rfl, rfl⟩⟩
  | succ k ih =>
    obtain ⟨h1, h2, h3⟩ := ih
    unfold lowS
    split
    · rename_i h
      rcases bsd_tile hu k with e | ⟨v, e, hv⟩
      · omega
      · rw [e] at h ⊢
        simp only [Int.toNat_natCast] at h ⊢
        refine ⟨hv, by trivial, .inr ⟨fun e => ?_, ?_⟩⟩
        · subst e; omega
        · omega
    · exact ⟨h1, h2, h3⟩
/-- Where the water goes from a tile. -/
def stp (W H : Nat) (Z : Nat → Int) (u : Nat) : Nat := (lowS W H Z u 4).1
theorem stp_lt {W H : Nat} {Z : Nat → Int} {u : Nat} (hu : u < W * H) : stp W H Z u < W * H := (lowS_inv hu 4).1
theorem stp_low {W H : Nat} {Z : Nat → Int} {u : Nat} (hu : u < W * H) (h : stp W H Z u ≠ u) : sumT W Z (stp W H Z u) < sumT W Z u := by
  obtain ⟨_, h2, h3⟩ := lowS_inv (Z := Z) hu 4
  unfold stp at h ⊢
  rw [← h2]
  rcases h3 with h3 | h3
  · exact absurd h3.1 h
  · exact h3.2
/-- The k-th tile of a river. -/
def rvr (W H : Nat) (Z : Nat → Int) (u : Nat) : Nat → Nat
  | 0 => u
  | k + 1 => stp W H Z (rvr W H Z u k)
theorem rvr_lt {W H : Nat} {Z : Nat → Int} {u : Nat} (hu : u < W * H) (k : Nat) : rvr W H Z u k < W * H := by
  induction k with
  | zero => exact hu
  | succ k ih => exact stp_lt ih
/-- The river ends at a tile. -/
def Ends (W H : Nat) (Z : Nat → Int) (u : Nat) : Prop := top W Z u ≤ 2 ∨ stp W H Z u = u
/-- The river of a tile has m tiles behind the first. -/
structure Riv (W H : Nat) (Z : Nat → Int) (u m : Nat) : Prop where
  goes : ∀ k, k < m → ¬ Ends W H Z (rvr W H Z u k)
  ends : Ends W H Z (rvr W H Z u m)
theorem sumT_in {W H n : Nat} {Z : Nat → Int} (hg : Good W H n Z) {u : Nat} (hu : u < W * H) : 0 ≤ sumT W Z u ∧ sumT W Z u ≤ 60 := by
  have hp : nw W u + W + 2 < n := by rw [hg.len]; exact nw_lt hu
  have h0 := hg.high (nw W u) (by omega)
  have h1 := hg.high (nw W u + 1) (by omega)
  have h2 := hg.high (nw W u + W + 2) (by omega)
  have h3 := hg.high (nw W u + W + 1) (by omega)
  unfold sumT; omega
theorem rvr_sum {W H : Nat} {Z : Nat → Int} {u : Nat} (hu : u < W * H) (m : Nat) (h : ∀ k, k < m → ¬ Ends W H Z (rvr W H Z u k)) : sumT W Z (rvr W H Z u m) + m ≤ sumT W Z u := by
  induction m with
  | zero => simp [rvr]
  | succ m ih =>
    have h1 := ih fun k hk => h k (by omega)
    have h2 := h m (by omega)
    have h3 := stp_low (Z := Z) (rvr_lt (Z := Z) hu m) (fun e => h2 (.inr e))
    show sumT W Z (stp W H Z (rvr W H Z u m)) + ((m + 1 : Nat) : Int) ≤ _
    omega
theorem riv_ex {W H n : Nat} {Z : Nat → Int} (hg : Good W H n Z) {u : Nat} (hu : u < W * H) : ∃ m, m ≤ 60 ∧ Riv W H Z u m := by
  have key : ∀ d m : Nat, d + m = 61 → (∀ k, k < m → ¬ Ends W H Z (rvr W H Z u k)) → ∃ m, m ≤ 60 ∧ Riv W H Z u m := by
    intro d
    induction d with
    | zero =>
      intro m hm h
      have h1 := rvr_sum hu m h
      have h2 := sumT_in hg (rvr_lt (Z := Z) hu m)
      have h3 := sumT_in hg hu
      omega
    | succ d ih =>
      intro m hm h
      by_cases he : Ends W H Z (rvr W H Z u m)
      · exact ⟨m, by omega, h, he⟩
      · refine ih (m + 1) (by omega) fun k hk => ?_
        by_cases e : k = m
        · subst e; exact he
        · exact h k (by omega)
  exact key 61 0 rfl fun k hk => absurd hk (Nat.not_lt_zero k)
/-- The reference's: -1 while none is lower. -/
def refN (W H : Nat) (Z : Nat → Int) (u k : Nat) : Int := if (lowS W H Z u k).1 = u then -1 else ((lowS W H Z u k).1 : Int)
theorem refN_zero (W H : Nat) (Z : Nat → Int) (u : Nat) : refN W H Z u 0 = -1 := if_pos rfl
theorem lowS_yes {W H : Nat} {Z : Nat → Int} {u k v : Nat} (hb : bsd W H u k = (v : Int)) (h : sumT W Z v < (lowS W H Z u k).2) : lowS W H Z u (k + 1) = (v, sumT W Z v) := by
  rw [lowS, hb]
  simp only [Int.toNat_natCast]
  rw [if_pos ⟨by omega, h⟩]
theorem lowS_no {W H : Nat} {Z : Nat → Int} {u k v : Nat} (hb : bsd W H u k = (v : Int)) (h : ¬ sumT W Z v < (lowS W H Z u k).2) : lowS W H Z u (k + 1) = lowS W H Z u k := by
  rw [lowS, hb]
  simp only [Int.toNat_natCast]
  rw [if_neg (fun h' => h h'.2)]
theorem lowS_none {W H : Nat} {Z : Nat → Int} {u k : Nat} (hb : bsd W H u k = -1) : lowS W H Z u (k + 1) = lowS W H Z u k := by
  rw [lowS, hb, if_neg (by omega)]
theorem refN_yes {W H : Nat} {Z : Nat → Int} {u k v : Nat} (hu : u < W * H) (hb : bsd W H u k = (v : Int)) (h : sumT W Z v < (lowS W H Z u k).2) : refN W H Z u (k + 1) = v := by
  unfold refN
  rw [lowS_yes hb h]
  rw [if_neg]
  intro e
  have e : v = u := e
  subst e
  obtain ⟨_, _, h3⟩ := lowS_inv (Z := Z) hu k
  omega
theorem refN_end (W H : Nat) (Z : Nat → Int) (u : Nat) : (stp W H Z u = u ∧ refN W H Z u 4 = -1) ∨ (stp W H Z u ≠ u ∧ refN W H Z u 4 = (stp W H Z u : Int)) := by
  unfold refN
  by_cases h : stp W H Z u = u
  · exact .inl ⟨h, by unfold stp at h; rw [if_pos h]⟩
  · exact .inr ⟨h, by unfold stp at h; rw [if_neg h]; rfl⟩
end Go.Proofs.Ytngamphkehppfaa
