/-
  Ways over tracks in plain numbers: the tile beyond a side, the spots behind a spot.
-/
import Derived.Test.YtbfpcolkbfljoaaDoorRRail
namespace Go.Proofs.YtbfpcolkbfljoaaDoor

/-- The tile beyond a side of the tile in column x, row y; -1: the map ends. -/
def beyXY (W H x y s : Int) : Int :=
  if s = 0 then (if x + 1 < W then y * W + (x + 1) else -1) else if s = 1 then (if y + 1 < H then (y + 1) * W + x else -1)
  else if s = 2 then (if 0 < x then y * W + (x - 1) else -1) else (if 0 < y then (y - 1) * W + x else -1)
def bey (W H t s : Int) : Int := beyXY W H (t % W) (t / W) s
theorem split_tile {W H t : Int} (hs : Sized W H) (h0 : 0 ≤ t) (h1 : t < W * H) : (0 ≤ t % W ∧ t % W < W) ∧ (0 ≤ t / W ∧ t / W < H) ∧ t / W * W + t % W = t := by
  obtain ⟨⟨w1, w2⟩, h3, h4⟩ := hs
  refine ⟨⟨Int.emod_nonneg _ (by omega), Int.emod_lt_of_pos _ (by omega)⟩, ⟨Int.ediv_nonneg h0 (by omega), Int.ediv_lt_of_lt_mul (by omega) (by rw [Int.mul_comm]; exact h1)⟩, ?_⟩
  have := Int.emod_add_mul_ediv t W
  rw [Int.mul_comm]; omega
theorem row_bd {W H y : Int} (hs : Sized W H) (h0 : 0 ≤ y) (h1 : y < H) : 0 ≤ y * W ∧ y * W + W ≤ W * H ∧ y * W + W ≤ 1024 := by
  have hb := hs.bound
  obtain ⟨⟨w1, w2⟩, h3, h4⟩ := hs
  have a : 0 ≤ y * W := Int.mul_nonneg h0 (by omega)
  have b : (y + 1) * W ≤ H * W := Int.mul_le_mul_of_nonneg_right (by omega) (by omega)
  rw [Int.add_mul, Int.one_mul, Int.mul_comm H W] at b
  omega
theorem beyXY_in {W H x y s : Int} (hs : Sized W H) (hx : 0 ≤ x ∧ x < W) (hy : 0 ≤ y ∧ y < H) (h : 0 ≤ beyXY W H x y s) : beyXY W H x y s < W * H := by
  unfold beyXY at h ⊢
  by_cases h0 : s = 0
  · rw [if_pos h0] at h ⊢
    by_cases hc : x + 1 < W
    · rw [if_pos hc]; have := row_bd hs hy.1 hy.2; omega
    · rw [if_neg hc] at h; omega
  · rw [if_neg h0] at h ⊢
    by_cases h1 : s = 1
    · rw [if_pos h1] at h ⊢
      by_cases hc : y + 1 < H
      · rw [if_pos hc]; have := row_bd (y := y + 1) hs (by omega) hc; omega
      · rw [if_neg hc] at h; omega
    · rw [if_neg h1] at h ⊢
      by_cases h2 : s = 2
      · rw [if_pos h2] at h ⊢
        by_cases hc : 0 < x
        · rw [if_pos hc]; have := row_bd hs hy.1 hy.2; omega
        · rw [if_neg hc] at h; omega
      · rw [if_neg h2] at h ⊢
        by_cases hc : 0 < y
        · rw [if_pos hc]; have := row_bd (y := y - 1) hs (by omega) (by omega); omega
        · rw [if_neg hc] at h; omega
theorem bey_in {W H t s : Int} (hs : Sized W H) (h0 : 0 ≤ t) (h1 : t < W * H) (h : 0 ≤ bey W H t s) : bey W H t s < W * H := by
  obtain ⟨a, b, _⟩ := split_tile hs h0 h1
  exact beyXY_in hs a b h

/-- The spots of a tile through which one that comes in at a side can go on, of the first k pieces. -/
def fol (Z : Nat → Int) (b d : Int) : Nat → List (Int × Int × Int)
  | 0 => []
  | k + 1 => if 0 ≤ oth k d ∧ has (Z b.toNat) k = true then fol Z b d k ++ [(b, (k : Int), oth k d)] else fol Z b d k
theorem fol_yes {Z : Nat → Int} {b d : Int} {k : Nat} (h : 0 ≤ oth k d) (h' : has (Z b.toNat) k = true) : fol Z b d (k + 1) = fol Z b d k ++ [(b, (k : Int), oth k d)] := by
  show (if _ then _ else _) = _
  rw [if_pos ⟨h, h'⟩]
theorem fol_no {Z : Nat → Int} {b d : Int} {k : Nat} (h : ¬ (0 ≤ oth k d ∧ has (Z b.toNat) k = true)) : fol Z b d (k + 1) = fol Z b d k := by
  show (if _ then _ else _) = _
  rw [if_neg h]
theorem fol_len (Z : Nat → Int) (b d : Int) (k : Nat) : (fol Z b d k).length ≤ k := by
  induction k with
  | zero => exact Nat.le_refl _
  | succ k ih =>
    by_cases h : 0 ≤ oth k d ∧ has (Z b.toNat) k = true
    · rw [fol_yes h.1 h.2, List.length_append]; simp; omega
    · rw [fol_no h]; omega
/-- The spots behind a spot. -/
def nxt (W H : Int) (Z : Nat → Int) (t s : Int) : List (Int × Int × Int) := if 0 ≤ bey W H t s then fol Z (bey W H t s) ((s + 2) % 4) 6 else []
theorem nxt_len (W H : Int) (Z : Nat → Int) (t s : Int) : (nxt W H Z t s).length ≤ 6 := by
  unfold nxt; split
  · exact fol_len _ _ _ _
  · simp
end Go.Proofs.YtbfpcolkbfljoaaDoor
