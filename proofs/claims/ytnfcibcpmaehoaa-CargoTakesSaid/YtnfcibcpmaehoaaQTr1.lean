/-
  The walks of how far two tiles are apart: apart and steps of the program, Far of the reference.
-/
import Derived.Test.YtnfcibcpmaehoaaQTrp
namespace Go.Proofs.Ytnfcibcpmaehoaa
open Go.RowKit

theorem apart_any (a b m : Int) (ha : -10000000 ≤ a ∧ a ≤ 10000000) (hb : -10000000 ≤ b ∧ b ≤ 10000000) (hm : max (a - b) (b - a) = m) (w : World) :
    Calls Try.prog 85 #[.int .i64 a, .int .i64 b] w fun e w' => e = .returned (.int .i64 m) ∧ w = w' := by
  have k := max_is hm
  have e1 : IntKind.i64.wrap (a - b) = a - b := by rw [IntKind.wrap_i64]; omega
  have e2 : IntKind.i64.wrap (b - a) = b - a := by rw [IntKind.wrap_i64]; omega
  clear hm ha hb
  go_enter Try.func85, Try.ntmps85
  go_wp2_with fail
  go_ret
  exact ⟨rfl, rfl⟩
set_option maxHeartbeats 1600000 in
theorem steps_any (W a b m : Int) (w1 : 4 ≤ W) (w2 : W ≤ 32) (a1 : 0 ≤ a) (a2 : a ≤ 1000000) (b1 : 0 ≤ b) (b2 : b ≤ 1000000) (hm : dst W a b = m) (w : World) :
    Calls Try.prog 68 #[.int .i64 W, .int .i64 a, .int .i64 b] w fun e w' => e = .returned (.int .i64 m) ∧ Below w.heap.size w w' := by
  obtain ⟨p1, p2, p3, p4, p5, p6⟩ := dst_bd w1 w2 a1 a2 b1 b2
  have hd : dst W a b = max (a % W - b % W) (b % W - a % W) + max (a / W - b / W) (b / W - a / W) := rfl
  have t1 : Int.tmod a W = a % W := Int.tmod_eq_emod_of_nonneg a1
  have t2 : Int.tmod b W = b % W := Int.tmod_eq_emod_of_nonneg b1
  have t3 : Int.tdiv a W = a / W := Int.tdiv_eq_ediv_of_nonneg a1
  have t4 : Int.tdiv b W = b / W := Int.tdiv_eq_ediv_of_nonneg b1
  rw [hm] at hd p5 p6
  obtain ⟨x, hx⟩ : ∃ x, a % W = x := ⟨_, rfl⟩
  obtain ⟨y, hy⟩ : ∃ x, b % W = x := ⟨_, rfl⟩
  obtain ⟨z, hz⟩ : ∃ x, a / W = x := ⟨_, rfl⟩
  obtain ⟨v, hv⟩ : ∃ x, b / W = x := ⟨_, rfl⟩
  rw [hx, hy, hz, hv] at hd
  rw [hx] at t1 p1
  rw [hy] at t2 p2
  rw [hz] at t3 p3
  rw [hv] at t4 p4
  obtain ⟨r, hr⟩ : ∃ q, max (x - y) (y - x) = q := ⟨_, rfl⟩
  obtain ⟨s, hs⟩ : ∃ q, max (z - v) (v - z) = q := ⟨_, rfl⟩
  rw [hr, hs] at hd
  have HA1 := hid (fun w => apart_any x y r (by omega) (by omega) hr w)
  have HA2 := hid (fun w => apart_any z v s (by omega) (by omega) hs w)
  have e1 : IntKind.i64.wrap (r + s) = m := by rw [IntKind.wrap_i64]; omega
  have hW : (W == 0) = false := by simp; omega
  have hW2 : ¬ W = 0 := by omega
  have e3 : IntKind.i64.wrap z = z := by rw [IntKind.wrap_i64]; omega
  have e4 : IntKind.i64.wrap v = v := by rw [IntKind.wrap_i64]; omega
  have e5 : IntKind.i64.wrap x = x := by rw [IntKind.wrap_i64]; omega
  have e6 : IntKind.i64.wrap y = y := by rw [IntKind.wrap_i64]; omega
  clear hx hy hz hv hr hs hd hm p1 p2 p3 p4 p5 p6 w1 w2 a1 a2 b1 b2
  go_enter Try.func68, Try.ntmps68
  go_upto_region 1 with fail
  go_quiet (first | (with_reducible exact quiet_eq (HA1.out _)) | (with_reducible exact quiet_eq (HA2.out _)))
  go_wp2_with fail
  go_ret
  exact ⟨rfl, Joins.below_draws _ _ _⟩
set_option maxHeartbeats 1600000 in
theorem far_any (W a b m : Int) (w1 : 4 ≤ W) (w2 : W ≤ 32) (a1 : 0 ≤ a) (a2 : a ≤ 1000000) (b1 : 0 ≤ b) (b2 : b ≤ 1000000) (hm : dst W a b = m) (w : World) :
    Calls Try.prog 66 #[.int .i64 a, .int .i64 b, .int .i64 W] w fun e w' => e = .returned (.int .i64 m) ∧ Below w.heap.size w w' := by
  obtain ⟨p1, p2, p3, p4, p5, p6⟩ := dst_bd w1 w2 a1 a2 b1 b2
  have hd : dst W a b = max (a % W - b % W) (b % W - a % W) + max (a / W - b / W) (b / W - a / W) := rfl
  have t1 : Int.tmod a W = a % W := Int.tmod_eq_emod_of_nonneg a1
  have t2 : Int.tmod b W = b % W := Int.tmod_eq_emod_of_nonneg b1
  have t3 : Int.tdiv a W = a / W := Int.tdiv_eq_ediv_of_nonneg a1
  have t4 : Int.tdiv b W = b / W := Int.tdiv_eq_ediv_of_nonneg b1
  rw [hm] at hd p5 p6
  obtain ⟨x, hx⟩ : ∃ x, a % W = x := ⟨_, rfl⟩
  obtain ⟨y, hy⟩ : ∃ x, b % W = x := ⟨_, rfl⟩
  obtain ⟨z, hz⟩ : ∃ x, a / W = x := ⟨_, rfl⟩
  obtain ⟨v, hv⟩ : ∃ x, b / W = x := ⟨_, rfl⟩
  rw [hx, hy, hz, hv] at hd
  rw [hx] at t1 p1
  rw [hy] at t2 p2
  rw [hz] at t3 p3
  rw [hv] at t4 p4
  obtain ⟨f, hf⟩ : ∃ f, x - y = f := ⟨_, rfl⟩
  obtain ⟨g, hg⟩ : ∃ q, z - v = q := ⟨_, rfl⟩
  obtain ⟨r, hr⟩ : ∃ q, max f (-f) = q := ⟨_, rfl⟩
  obtain ⟨s, hs⟩ : ∃ q, max g (-g) = q := ⟨_, rfl⟩
  have k1 := max_is hr
  have k2 := max_is hs
  have e1 : IntKind.i64.wrap (r + s) = m := by rw [IntKind.wrap_i64]; omega
  have hW : (W == 0) = false := by simp; omega
  have hW2 : ¬ W = 0 := by omega
  have e3 : IntKind.i64.wrap z = z := by rw [IntKind.wrap_i64]; omega
  have e4 : IntKind.i64.wrap v = v := by rw [IntKind.wrap_i64]; omega
  have e5 : IntKind.i64.wrap x = x := by rw [IntKind.wrap_i64]; omega
  have e6 : IntKind.i64.wrap y = y := by rw [IntKind.wrap_i64]; omega
  have e7 : IntKind.i64.wrap (x - y) = f := by rw [IntKind.wrap_i64]; omega
  have e8 : IntKind.i64.wrap (z - v) = g := by rw [IntKind.wrap_i64]; omega
  have e9 : IntKind.i64.wrap (-f) = -f := by rw [IntKind.wrap_i64]; omega
  have e10 : IntKind.i64.wrap (-g) = -g := by rw [IntKind.wrap_i64]; omega
  clear hx hy hz hv hr hs hd hm p1 p2 p3 p4 p5 p6 w1 w2 a1 a2 b1 b2 hf hg
  go_enter Try.func66, Try.ntmps66
  go_upto_region 1 with fail
  go_quiet (fail)
  go_wp2_with fail
  go_ret
  exact ⟨rfl, Joins.below_draws _ _ _⟩
end Go.Proofs.Ytnfcibcpmaehoaa
