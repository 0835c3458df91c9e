/-
  Turning round in plain numbers: the tile beyond the tile beyond is the tile; what is behind a spot leads back to it.
-/
import Derived.Test.YtbfpcolkbfljoaaDoorRWalkSpot
namespace Go.Proofs.YtbfpcolkbfljoaaDoor

theorem mod_of {W x y : Int} (hx : 0 ≤ x) (hx' : x < W) : (y * W + x) % W = x := by
  rw [Int.add_comm, Int.add_mul_emod_self_right]; exact Int.emod_eq_of_lt hx hx'
theorem div_of {W x y : Int} (hx : 0 ≤ x) (hx' : x < W) : (y * W + x) / W = y := by
  rw [Int.add_comm, Int.add_mul_ediv_right _ _ (by omega), Int.ediv_eq_zero_of_lt hx hx']; omega
theorem beyXY_back {W H x y s : Int} (hs : Sized W H) (hx : 0 ≤ x ∧ x < W) (hy : 0 ≤ y ∧ y < H) (h0 : 0 ≤ s) (h3 : s ≤ 3) (h : 0 ≤ beyXY W H x y s) :
    bey W H (beyXY W H x y s) ((s + 2) % 4) = y * W + x := by
  have hb := fun z (a : 0 ≤ z) (b : z < H) => row_bd hs a b
  rcases (show s = 0 ∨ s = 1 ∨ s = 2 ∨ s = 3 by omega) with rfl | rfl | rfl | rfl
  · have e : beyXY W H x y 0 = if x + 1 < W then y * W + (x + 1) else -1 := rfl
    rw [e] at h ⊢
    by_cases hc : x + 1 < W
    · rw [if_pos hc]
      unfold bey
      rw [mod_of (by omega) hc, div_of (by omega) hc]
      show (if 0 < x + 1 then y * W + (x + 1 - 1) else -1) = _
      rw [if_pos (by omega)]; omega
    · rw [if_neg hc] at h; omega
  · have e : beyXY W H x y 1 = if y + 1 < H then (y + 1) * W + x else -1 := rfl
    rw [e] at h ⊢
    by_cases hc : y + 1 < H
    · rw [if_pos hc]
      unfold bey
      rw [mod_of hx.1 hx.2, div_of hx.1 hx.2]
      show (if 0 < y + 1 then (y + 1 - 1) * W + x else -1) = _
      rw [if_pos (by omega), show y + 1 - 1 = y by omega]
    · rw [if_neg hc] at h; omega
  · have e : beyXY W H x y 2 = if 0 < x then y * W + (x - 1) else -1 := rfl
    rw [e] at h ⊢
    by_cases hc : 0 < x
    · rw [if_pos hc]
      unfold bey
      rw [mod_of (by omega) (by omega), div_of (by omega) (by omega)]
      show (if x - 1 + 1 < W then y * W + (x - 1 + 1) else -1) = _
      rw [if_pos (by omega)]; omega
    · rw [if_neg hc] at h; omega
  · have e : beyXY W H x y 3 = if 0 < y then (y - 1) * W + x else -1 := rfl
    rw [e] at h ⊢
    by_cases hc : 0 < y
    · rw [if_pos hc]
      unfold bey
      rw [mod_of hx.1 hx.2, div_of hx.1 hx.2]
      show (if y - 1 + 1 < H then (y - 1 + 1) * W + x else -1) = _
      rw [if_pos (by omega), show y - 1 + 1 = y by omega]
    · rw [if_neg hc] at h; omega
theorem bey_back {W H t s : Int} (hs : Sized W H) (h0 : 0 ≤ t) (h1 : t < W * H) (h2 : 0 ≤ s) (h3 : s ≤ 3) (h : 0 ≤ bey W H t s) : bey W H (bey W H t s) ((s + 2) % 4) = t := by
  obtain ⟨a, b, e⟩ := split_tile hs h0 h1
  rw [show bey W H t s = beyXY W H (t % W) (t / W) s from rfl, beyXY_back hs a b h2 h3 h]
  exact e
theorem mem_fol {Z : Nat → Int} {b d : Int} {x : Int × Int × Int} : ∀ {k : Nat}, x ∈ fol Z b d k ↔ ∃ j : Nat, j < k ∧ 0 ≤ oth j d ∧ has (Z b.toNat) j = true ∧ x = (b, (j : Int), oth j d)
  | 0 => ⟨fun h => (by cases h), fun ⟨_, h, _⟩ => (by omega)⟩
  | k + 1 => by
    by_cases h : 0 ≤ oth k d ∧ has (Z b.toNat) k = true
    · rw [fol_yes h.1 h.2, List.mem_append, mem_fol, List.mem_singleton]
      constructor
      · rintro (⟨j, h1, h2⟩ | rfl)
        · exact ⟨j, by omega, h2⟩
        · exact ⟨k, by omega, h.1, h.2, rfl⟩
      · rintro ⟨j, h1, h2, h3, rfl⟩
        by_cases hj : j < k
        · exact .inl ⟨j, hj, h2, h3, rfl⟩
        · obtain rfl : j = k := by omega
          exact .inr rfl
    · rw [fol_no h, mem_fol]
      constructor
      · rintro ⟨j, h1, h2⟩; exact ⟨j, by omega, h2⟩
      · rintro ⟨j, h1, h2, h3, h4⟩
        by_cases hj : j < k
        · exact ⟨j, hj, h2, h3, h4⟩
        · obtain rfl : j = k := by omega
          exact absurd ⟨h2, h3⟩ h
/-- What is behind a spot: it lies, and turned round it has the spot, turned round, behind itself. -/
theorem nxt_back {W H : Int} {n m : Nat} {Z : Nat → Int} {B : Nat → Bool} {t p s : Int} (hR : Right W H n m Z B) (hsp : IsSpot n Z t p s) {x : Int × Int × Int} (hx : x ∈ nxt W H Z t s) :
    IsSpot n Z x.1 x.2.1 x.2.2 ∧ (t, p, oth p s) ∈ nxt W H Z x.1 (oth x.2.1 x.2.2) := by
  obtain ⟨hp, hs0, hs3, ho3, _⟩ := oth_yes hsp.1
  have hl := lie_in hsp.2
  have hset := hR.sets
  unfold nxt at hx
  by_cases hb : 0 ≤ bey W H t s
  · rw [if_pos hb] at hx
    obtain ⟨j, hj, ho, hh, rfl⟩ := mem_fol.1 hx
    have hbn := bey_in hR.sized hl.1.1 (by omega) hb
    have hbk := oth_back ho
    refine ⟨⟨?_, ?_⟩, ?_⟩
    · show 0 ≤ oth j (oth j ((s + 2) % 4))
      rw [hbk]; omega
    · show Lie n Z (bey W H t s) j = true
      rw [lie_of ⟨hb, by omega, by omega, by omega⟩]; exact hh
    · show (t, p, oth p s) ∈ nxt W H Z (bey W H t s) (oth j (oth j ((s + 2) % 4)))
      rw [hbk]
      have hbb := bey_back hR.sized hl.1.1 (by omega) hs0 hs3 hb
      unfold nxt
      rw [hbb, if_pos hl.1.1]
      have e : ((s + 2) % 4 + 2) % 4 = s := by omega
      rw [e]
      refine mem_fol.2 ⟨p.toNat, by omega, ?_, ?_, ?_⟩
      · rw [Int.toNat_of_nonneg hp.1]; exact hsp.1
      · rw [Int.toNat_of_nonneg hp.1]; exact hl.2
      · rw [Int.toNat_of_nonneg hp.1]
  · rw [if_neg hb] at hx; cases hx
end Go.Proofs.YtbfpcolkbfljoaaDoor
