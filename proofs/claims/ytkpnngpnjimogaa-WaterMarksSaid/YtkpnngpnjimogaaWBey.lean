/-
  The tile beyond a side; the walk of Beyond of the reference.
-/
import Derived.Test.YtkpnngpnjimogaaSKit
import Derived.Test.YtkpnngpnjimogaaSLand
namespace Go.Proofs.Ytkpnngpnjimogaa
open Go.RowKit

theorem Sized.bound {W H : Int} (h : Sized W H) : 16 ≤ W * H ∧ W * H ≤ 1024 := by
  obtain ⟨⟨h1, h2⟩, h3, h4⟩ := h
  have a : W * H ≤ 32 * 32 := Int.mul_le_mul (by omega) (by omega) (by omega) (by omega)
  have b : 4 * 4 ≤ W * H := Int.mul_le_mul (by omega) (by omega) (by omega) (by omega)
  omega
/-- The tile beyond a side of the tile in column x, row y; -1: the map ends. -/
def beyXY (W H x y s : Int) : Int :=
  if s = 0 then (if x + 1 < W then y * W + (x + 1) else -1) else if s = 1 then (if y + 1 < H then (y + 1) * W + x else -1)
  else if s = 2 then (if 0 < x then y * W + (x - 1) else -1) else (if 0 < y then (y - 1) * W + x else -1)
def bey (W H t s : Int) : Int := beyXY W H (t % W) (t / W) s
theorem split_tile {W H t : Int} (hs : Sized W H) (h0 : 0 ≤ t) (h1 : t < W * H) : (0 ≤ t % W ∧ t % W < W) ∧ (0 ≤ t / W ∧ t / W < H) ∧ t / W * W + t % W = t := by
  obtain ⟨⟨w1, w2⟩, h3, h4⟩ := hs
  refine ⟨⟨Int.emod_nonneg _ (by omega), Int.emod_lt_of_pos _ (by omega)⟩, ⟨Int.ediv_nonneg h0 (by omega), Int.ediv_lt_of_lt_mul (by omega) (by rw [Int.mul_comm]; exact h1)⟩, ?_⟩
  have := Int.emod_add_mul_ediv t W
  rw [Int.mul_comm]; omega
theorem row_bd {W H y : Int} (hs : Sized W H) (h0 : 0 ≤ y) (h1 : y < H) : 0 ≤ y * W ∧ y * W + W ≤ W * H ∧ y * W + W ≤ 1024 := by
  have hb := hs.bound
  obtain ⟨⟨w1, w2⟩, h3, h4⟩ := hs
  have a : 0 ≤ y * W := Int.mul_nonneg h0 (by omega)
  have b : (y + 1) * W ≤ H * W := Int.mul_le_mul_of_nonneg_right (by omega) (by omega)
  rw [Int.add_mul, Int.one_mul, Int.mul_comm H W] at b
  omega
theorem beyXY_in {W H x y s : Int} (hs : Sized W H) (hx : 0 ≤ x ∧ x < W) (hy : 0 ≤ y ∧ y < H) (h : 0 ≤ beyXY W H x y s) : beyXY W H x y s < W * H := by
  unfold beyXY at h ⊢
  by_cases h0 : s = 0
  · rw [if_pos h0] at h ⊢
    by_cases hc : x + 1 < W
    · rw [if_pos hc]; have := row_bd hs hy.1 hy.2; omega
    · rw [if_neg hc] at h; omega
  · rw [if_neg h0] at h ⊢
    by_cases h1 : s = 1
    · rw [if_pos h1] at h ⊢
      by_cases hc : y + 1 < H
      · rw [if_pos hc]; have := row_bd (y := y + 1) hs (by omega) hc; omega
      · rw [if_neg hc] at h; omega
    · rw [if_neg h1] at h ⊢
      by_cases h2 : s = 2
      · rw [if_pos h2] at h ⊢
        by_cases hc : 0 < x
        · rw [if_pos hc]; have := row_bd hs hy.1 hy.2; omega
        · rw [if_neg hc] at h; omega
      · rw [if_neg h2] at h ⊢
        by_cases hc : 0 < y
        · rw [if_pos hc]; have := row_bd (y := y - 1) hs (by omega) (by omega); omega
        · rw [if_neg hc] at h; omega
theorem bey_in {W H t s : Int} (hs : Sized W H) (h0 : 0 ≤ t) (h1 : t < W * H) (h : 0 ≤ bey W H t s) : bey W H t s < W * H := by
  obtain ⟨a, b, _⟩ := split_tile hs h0 h1
  exact beyXY_in hs a b h
theorem parts_of {W x y : Int} (hx : 0 ≤ x ∧ x < W) : (y * W + x) % W = x ∧ (y * W + x) / W = y := by
  have hW : W ≠ 0 := by omega
  refine ⟨?_, ?_⟩
  · rw [Int.add_comm, Int.add_mul_emod_self_right]; exact Int.emod_eq_of_lt hx.1 hx.2
  · rw [Int.add_comm, Int.add_mul_ediv_right _ _ hW, Int.ediv_eq_zero_of_lt hx.1 hx.2]; omega
theorem bey_back {W H t s : Int} (hs : Sized W H) (h0 : 0 ≤ t) (h1 : t < W * H) (hs0 : 0 ≤ s) (hs3 : s ≤ 3) (h : 0 ≤ bey W H t s) : bey W H (bey W H t s) ((s + 2) % 4) = t := by
  obtain ⟨hx, hy, ht⟩ := split_tile hs h0 h1
  unfold bey at h ⊢
  obtain ⟨x, hx'⟩ : ∃ x, t % W = x := ⟨_, rfl⟩
  obtain ⟨y, hy'⟩ : ∃ y, t / W = y := ⟨_, rfl⟩
  rw [hx'] at h hx ht ⊢
  rw [hy'] at h hy ht ⊢
  rcases (show s = 0 ∨ s = 1 ∨ s = 2 ∨ s = 3 by omega) with rfl | rfl | rfl | rfl
  · by_cases hc : x + 1 < W
    · have e : beyXY W H x y 0 = y * W + (x + 1) := by unfold beyXY; rw [if_pos rfl, if_pos hc]
      rw [e, (parts_of (W := W) (x := x + 1) (y := y) (by omega)).1, (parts_of (W := W) (x := x + 1) (y := y) (by omega)).2]
      show beyXY W H (x + 1) y 2 = t
      unfold beyXY; rw [if_neg (by omega), if_neg (by omega), if_pos rfl, if_pos (by omega)]; omega
    · have e : beyXY W H x y 0 = -1 := by unfold beyXY; rw [if_pos rfl, if_neg hc]
      omega
  · by_cases hc : y + 1 < H
    · have e : beyXY W H x y 1 = (y + 1) * W + x := by unfold beyXY; rw [if_neg (by omega), if_pos rfl, if_pos hc]
      rw [e, (parts_of (W := W) (x := x) (y := y + 1) hx).1, (parts_of (W := W) (x := x) (y := y + 1) hx).2]
      show beyXY W H x (y + 1) 3 = t
      unfold beyXY; rw [if_neg (by omega), if_neg (by omega), if_neg (by omega), if_pos (by omega), show y + 1 - 1 = y by omega]; omega
    · have e : beyXY W H x y 1 = -1 := by unfold beyXY; rw [if_neg (by omega), if_pos rfl, if_neg hc]
      omega
  · by_cases hc : 0 < x
    · have e : beyXY W H x y 2 = y * W + (x - 1) := by unfold beyXY; rw [if_neg (by omega), if_neg (by omega), if_pos rfl, if_pos hc]
      rw [e, (parts_of (W := W) (x := x - 1) (y := y) (by omega)).1, (parts_of (W := W) (x := x - 1) (y := y) (by omega)).2]
      show beyXY W H (x - 1) y 0 = t
      unfold beyXY; rw [if_pos rfl, if_pos (by omega)]; omega
    · have e : beyXY W H x y 2 = -1 := by unfold beyXY; rw [if_neg (by omega), if_neg (by omega), if_pos rfl, if_neg hc]
      omega
  · by_cases hc : 0 < y
    · have e : beyXY W H x y 3 = (y - 1) * W + x := by unfold beyXY; rw [if_neg (by omega), if_neg (by omega), if_neg (by omega), if_pos hc]
      rw [e, (parts_of (W := W) (x := x) (y := y - 1) hx).1, (parts_of (W := W) (x := x) (y := y - 1) hx).2]
      show beyXY W H x (y - 1) 1 = t
      unfold beyXY; rw [if_neg (by omega), if_pos rfl, if_pos (by omega), show y - 1 + 1 = y by omega]; omega
    · have e : beyXY W H x y 3 = -1 := by unfold beyXY; rw [if_neg (by omega), if_neg (by omega), if_neg (by omega), if_neg hc]
      omega

set_option maxHeartbeats 3200000 in
theorem refbeyond_any (W H t s b : Int) (hs : Sized W H) (h0 : 0 ≤ t) (h1 : t < W * H) (hs0 : 0 ≤ s) (hs3 : s ≤ 3) (hb : bey W H t s = b) (w : World) :
    Calls Try.prog 25 #[.int .i64 W, .int .i64 H, .int .i64 t, .int .i64 s] w fun e w' => e = .returned (.int .i64 b) ∧ Below w.heap.size w w' := by
  obtain ⟨⟨hx0, hx1⟩, ⟨hy0, hy1⟩, _⟩ := split_tile hs h0 h1
  unfold bey at hb
  have e1 : Int.tmod t W = t % W := Int.tmod_eq_emod_of_nonneg h0
  have e2 : Int.tdiv t W = t / W := Int.tdiv_eq_ediv_of_nonneg h0
  have HS := hid hs
  obtain ⟨⟨w1, w2⟩, w3, w4⟩ := hs
  obtain ⟨x, hx⟩ : ∃ x, t % W = x := ⟨_, rfl⟩
  obtain ⟨y, hy⟩ : ∃ y, t / W = y := ⟨_, rfl⟩
  rw [hx] at hx0 hx1 hb e1
  rw [hy] at hy0 hy1 hb e2
  obtain ⟨m1, m2, m3⟩ := row_bd HS.out hy0 hy1
  have HB := hid hb
  clear hb h1 m2
  rcases (show s = 0 ∨ s = 1 ∨ s = 2 ∨ s = 3 by omega) with rfl | rfl | rfl | rfl
  · have HE : Hid (b = if x + 1 < W then y * W + (x + 1) else -1) := hid HB.out.symm
    clear hs0 hs3 HB
    by_cases hc : x + 1 < W
    · skip
      go_enter Try.func25, Try.ntmps25
      go_wp2_with fail
      go_quiet (fail)
      go_wp2_with fail
      go_ret
      exact ⟨ret_int (by rw [HE.out, if_pos (by omega)]), Joins.below_draws _ _ _⟩
    · have hc' : W ≤ x + 1 := by omega
      go_enter Try.func25, Try.ntmps25
      go_wp2_with fail
      go_quiet (fail)
      go_wp2_with fail
      go_ret
      exact ⟨ret_int (by rw [HE.out, if_neg (by omega)]), Joins.below_draws _ _ _⟩
  · have HE : Hid (b = if y + 1 < H then (y + 1) * W + x else -1) := hid HB.out.symm
    clear hs0 hs3 HB
    by_cases hc : y + 1 < H
    · skip
      obtain ⟨k1, k2, k3⟩ := row_bd (y := y + 1) HS.out (by omega) hc
      clear k2
      go_enter Try.func25, Try.ntmps25
      go_wp2_with fail
      go_quiet (fail)
      go_wp2_with fail
      go_ret
      exact ⟨ret_int (by rw [HE.out, if_pos (by omega)]), Joins.below_draws _ _ _⟩
    · have hc' : H ≤ y + 1 := by omega
      go_enter Try.func25, Try.ntmps25
      go_wp2_with fail
      go_quiet (fail)
      go_wp2_with fail
      go_ret
      exact ⟨ret_int (by rw [HE.out, if_neg (by omega)]), Joins.below_draws _ _ _⟩
  · have HE : Hid (b = if 0 < x then y * W + (x - 1) else -1) := hid HB.out.symm
    clear hs0 hs3 HB
    by_cases hc : 0 < x
    · skip
      go_enter Try.func25, Try.ntmps25
      go_wp2_with fail
      go_quiet (fail)
      go_wp2_with fail
      go_ret
      exact ⟨ret_int (by rw [HE.out, if_pos (by omega)]), Joins.below_draws _ _ _⟩
    · have hc' : x ≤ 0 := by omega
      go_enter Try.func25, Try.ntmps25
      go_wp2_with fail
      go_quiet (fail)
      go_wp2_with fail
      go_ret
      exact ⟨ret_int (by rw [HE.out, if_neg (by omega)]), Joins.below_draws _ _ _⟩
  · have HE : Hid (b = if 0 < y then (y - 1) * W + x else -1) := hid HB.out.symm
    clear hs0 hs3 HB
    by_cases hc : 0 < y
    · skip
      obtain ⟨k1, k2, k3⟩ := row_bd (y := y - 1) HS.out (by omega) (by omega)
      clear k2
      go_enter Try.func25, Try.ntmps25
      go_wp2_with fail
      go_quiet (fail)
      go_wp2_with fail
      go_ret
      exact ⟨ret_int (by rw [HE.out, if_pos (by omega)]), Joins.below_draws _ _ _⟩
    · have hc' : y ≤ 0 := by omega
      go_enter Try.func25, Try.ntmps25
      go_wp2_with fail
      go_quiet (fail)
      go_wp2_with fail
      go_ret
      exact ⟨ret_int (by rw [HE.out, if_neg (by omega)]), Joins.below_draws _ _ _⟩

end Go.Proofs.Ytkpnngpnjimogaa
