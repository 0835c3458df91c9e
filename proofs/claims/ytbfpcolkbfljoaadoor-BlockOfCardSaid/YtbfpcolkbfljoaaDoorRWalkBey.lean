/-
  The walks of beyond and opposite of the program, of Beyond of the reference.
-/
import Derived.Test.YtbfpcolkbfljoaaDoorRWalkLies
import Derived.Test.YtbfpcolkbfljoaaDoorRWay
namespace Go.Proofs.YtbfpcolkbfljoaaDoor
open Go.RowKit

set_option maxHeartbeats 800000 in
theorem opposite_any (s : Int) (h : 0 ≤ s) (h' : s ≤ 3) (d : Int) (hd : (s + 2) % 4 = d) (w : World) : Calls Tryd.prog 125 #[.int .i64 s] w fun e w' => e = .returned (.int .i64 d) ∧ w = w' := by
  subst hd
  go_enter Tryd.func125, Tryd.ntmps125
  go_wp2
  go_ret
  exact ⟨rfl, rfl⟩

set_option maxHeartbeats 3200000 in
theorem refbeyond_any (W H t s b : Int) (hs : Sized W H) (h0 : 0 ≤ t) (h1 : t < W * H) (hs0 : 0 ≤ s) (hs3 : s ≤ 3) (hb : bey W H t s = b) (w : World) :
    Calls Tryd.prog 102 #[.int .i64 W, .int .i64 H, .int .i64 t, .int .i64 s] w fun e w' => e = .returned (.int .i64 b) ∧ Below w.heap.size w w' := by
  obtain ⟨⟨hx0, hx1⟩, ⟨hy0, hy1⟩, _⟩ := split_tile hs h0 h1
  unfold bey at hb
  have e1 : Int.tmod t W = t % W := Int.tmod_eq_emod_of_nonneg h0
  have e2 : Int.tdiv t W = t / W := Int.tdiv_eq_ediv_of_nonneg h0
  have HS := hid hs
  obtain ⟨⟨w1, w2⟩, w3, w4⟩ := hs
  obtain ⟨x, hx⟩ : ∃ x, t % W = x := ⟨_, rfl⟩
  obtain ⟨y, hy⟩ : ∃ y, t / W = y := ⟨_, rfl⟩
  rw [hx] at hx0 hx1 hb e1
  rw [hy] at hy0 hy1 hb e2
  obtain ⟨m1, m2, m3⟩ := row_bd HS.out hy0 hy1
  have HB := hid hb
  clear hb h1 m2
  rcases (show s = 0 ∨ s = 1 ∨ s = 2 ∨ s = 3 by omega) with rfl | rfl | rfl | rfl
  · have HE : Hid (b = if x + 1 < W then y * W + (x + 1) else -1) := hid HB.out.symm
    clear hs0 hs3 HB
    by_cases hc : x + 1 < W
    · skip
      go_enter Tryd.func102, Tryd.ntmps102
      go_wp2_with fail
      go_quiet (fail)
      go_wp2_with fail
      go_ret
      exact ⟨ret_int (by rw [HE.out, if_pos (by omega)]), Joins.below_draws _ _ _⟩
    · have hc' : W ≤ x + 1 := by omega
      go_enter Tryd.func102, Tryd.ntmps102
      go_wp2_with fail
      go_quiet (fail)
      go_wp2_with fail
      go_ret
      exact ⟨ret_int (by rw [HE.out, if_neg (by omega)]), Joins.below_draws _ _ _⟩
  · have HE : Hid (b = if y + 1 < H then (y + 1) * W + x else -1) := hid HB.out.symm
    clear hs0 hs3 HB
    by_cases hc : y + 1 < H
    · skip
      obtain ⟨k1, k2, k3⟩ := row_bd (y := y + 1) HS.out (by omega) hc
      clear k2
      go_enter Tryd.func102, Tryd.ntmps102
      go_wp2_with fail
      go_quiet (fail)
      go_wp2_with fail
      go_ret
      exact ⟨ret_int (by rw [HE.out, if_pos (by omega)]), Joins.below_draws _ _ _⟩
    · have hc' : H ≤ y + 1 := by omega
      go_enter Tryd.func102, Tryd.ntmps102
      go_wp2_with fail
      go_quiet (fail)
      go_wp2_with fail
      go_ret
      exact ⟨ret_int (by rw [HE.out, if_neg (by omega)]), Joins.below_draws _ _ _⟩
  · have HE : Hid (b = if 0 < x then y * W + (x - 1) else -1) := hid HB.out.symm
    clear hs0 hs3 HB
    by_cases hc : 0 < x
    · skip
      go_enter Tryd.func102, Tryd.ntmps102
      go_wp2_with fail
      go_quiet (fail)
      go_wp2_with fail
      go_ret
      exact ⟨ret_int (by rw [HE.out, if_pos (by omega)]), Joins.below_draws _ _ _⟩
    · have hc' : x ≤ 0 := by omega
      go_enter Tryd.func102, Tryd.ntmps102
      go_wp2_with fail
      go_quiet (fail)
      go_wp2_with fail
      go_ret
      exact ⟨ret_int (by rw [HE.out, if_neg (by omega)]), Joins.below_draws _ _ _⟩
  · have HE : Hid (b = if 0 < y then (y - 1) * W + x else -1) := hid HB.out.symm
    clear hs0 hs3 HB
    by_cases hc : 0 < y
    · skip
      obtain ⟨k1, k2, k3⟩ := row_bd (y := y - 1) HS.out (by omega) (by omega)
      clear k2
      go_enter Tryd.func102, Tryd.ntmps102
      go_wp2_with fail
      go_quiet (fail)
      go_wp2_with fail
      go_ret
      exact ⟨ret_int (by rw [HE.out, if_pos (by omega)]), Joins.below_draws _ _ _⟩
    · have hc' : y ≤ 0 := by omega
      go_enter Tryd.func102, Tryd.ntmps102
      go_wp2_with fail
      go_quiet (fail)
      go_wp2_with fail
      go_ret
      exact ⟨ret_int (by rw [HE.out, if_neg (by omega)]), Joins.below_draws _ _ _⟩

set_option maxHeartbeats 3200000 in
theorem beyond_any (W H t s b : Int) (v u : Value) (hs : Sized W H) (h0 : 0 ≤ t) (h1 : t < W * H) (hs0 : 0 ≤ s) (hs3 : s ≤ 3) (hb : bey W H t s = b) (w : World) :
    Calls Tryd.prog 124 #[rv W H v u, .int .i64 t, .int .i64 s] w fun e w' => e = .returned (.int .i64 b) ∧ Below w.heap.size w w' := by
  obtain ⟨⟨hx0, hx1⟩, ⟨hy0, hy1⟩, _⟩ := split_tile hs h0 h1
  unfold bey at hb
  have e1 : Int.tmod t W = t % W := Int.tmod_eq_emod_of_nonneg h0
  have e2 : Int.tdiv t W = t / W := Int.tdiv_eq_ediv_of_nonneg h0
  have HS := hid hs
  obtain ⟨⟨w1, w2⟩, w3, w4⟩ := hs
  obtain ⟨x, hx⟩ : ∃ x, t % W = x := ⟨_, rfl⟩
  obtain ⟨y, hy⟩ : ∃ y, t / W = y := ⟨_, rfl⟩
  rw [hx] at hx0 hx1 hb e1
  rw [hy] at hy0 hy1 hb e2
  obtain ⟨m1, m2, m3⟩ := row_bd HS.out hy0 hy1
  have HB := hid hb
  have HW := hid (Joins.below_alloc1 w (.cells #[.int .i64 W, .int .i64 H, v, u] 25))
  clear hb h1 m2
  rcases (show s = 0 ∨ s = 1 ∨ s = 2 ∨ s = 3 by omega) with rfl | rfl | rfl | rfl
  · have HE : Hid (b = if x + 1 < W then y * W + (x + 1) else -1) := hid HB.out.symm
    clear hs0 hs3 HB
    by_cases hc : x + 1 < W
    · skip
      go_enter Tryd.func124, Tryd.ntmps124
      go_wp2_with fail
      go_quiet (fail)
      go_wp2_with fail
      go_ret
      exact ⟨ret_int (by rw [HE.out, if_pos (by omega)]), HW.out.trans (Joins.below_draws _ _ _)⟩
    · have hc' : W ≤ x + 1 := by omega
      go_enter Tryd.func124, Tryd.ntmps124
      go_wp2_with fail
      go_quiet (fail)
      go_wp2_with fail
      go_ret
      exact ⟨ret_int (by rw [HE.out, if_neg (by omega)]), HW.out.trans (Joins.below_draws _ _ _)⟩
  · have HE : Hid (b = if y + 1 < H then (y + 1) * W + x else -1) := hid HB.out.symm
    clear hs0 hs3 HB
    by_cases hc : y + 1 < H
    · skip
      obtain ⟨k1, k2, k3⟩ := row_bd (y := y + 1) HS.out (by omega) hc
      clear k2
      go_enter Tryd.func124, Tryd.ntmps124
      go_wp2_with fail
      go_quiet (fail)
      go_wp2_with fail
      go_ret
      exact ⟨ret_int (by rw [HE.out, if_pos (by omega)]), HW.out.trans (Joins.below_draws _ _ _)⟩
    · have hc' : H ≤ y + 1 := by omega
      go_enter Tryd.func124, Tryd.ntmps124
      go_wp2_with fail
      go_quiet (fail)
      go_wp2_with fail
      go_ret
      exact ⟨ret_int (by rw [HE.out, if_neg (by omega)]), HW.out.trans (Joins.below_draws _ _ _)⟩
  · have HE : Hid (b = if 0 < x then y * W + (x - 1) else -1) := hid HB.out.symm
    clear hs0 hs3 HB
    by_cases hc : 0 < x
    · skip
      go_enter Tryd.func124, Tryd.ntmps124
      go_wp2_with fail
      go_quiet (fail)
      go_wp2_with fail
      go_ret
      exact ⟨ret_int (by rw [HE.out, if_pos (by omega)]), HW.out.trans (Joins.below_draws _ _ _)⟩
    · have hc' : x ≤ 0 := by omega
      go_enter Tryd.func124, Tryd.ntmps124
      go_wp2_with fail
      go_quiet (fail)
      go_wp2_with fail
      go_ret
      exact ⟨ret_int (by rw [HE.out, if_neg (by omega)]), HW.out.trans (Joins.below_draws _ _ _)⟩
  · have HE : Hid (b = if 0 < y then (y - 1) * W + x else -1) := hid HB.out.symm
    clear hs0 hs3 HB
    by_cases hc : 0 < y
    · skip
      obtain ⟨k1, k2, k3⟩ := row_bd (y := y - 1) HS.out (by omega) (by omega)
      clear k2
      go_enter Tryd.func124, Tryd.ntmps124
      go_wp2_with fail
      go_quiet (fail)
      go_wp2_with fail
      go_ret
      exact ⟨ret_int (by rw [HE.out, if_pos (by omega)]), HW.out.trans (Joins.below_draws _ _ _)⟩
    · have hc' : y ≤ 0 := by omega
      go_enter Tryd.func124, Tryd.ntmps124
      go_wp2_with fail
      go_quiet (fail)
      go_wp2_with fail
      go_ret
      exact ⟨ret_int (by rw [HE.out, if_neg (by omega)]), HW.out.trans (Joins.below_draws _ _ _)⟩
end Go.Proofs.YtbfpcolkbfljoaaDoor
