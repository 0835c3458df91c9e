/-
  The walks of Validate, of the program and of the reference.
-/
import Derived.Test.YtkpnngpnjimogaaSKit
import Derived.Test.YtkpnngpnjimogaaSLand
namespace Go.Proofs.Ytkpnngpnjimogaa
open Go.RowKit

set_option maxHeartbeats 400000 in
theorem sized_any (a b : Int) (w : World) : Calls Try.prog 92 #[.int .i64 a, .int .i64 b] w fun e w' => e = .returned (.bool (decide (4 ≤ a) && decide (a ≤ 32) && decide (4 ≤ b) && decide (b ≤ 32))) ∧ w = w' := by
  go_enter Try.func92, Try.ntmps92
  go_wp2
  all_goals go_ret
  all_goals exact ⟨ret_bool (by rw [Bool.eq_iff_iff]; simp; try omega), rfl⟩
set_option maxHeartbeats 400000 in
theorem side_any (a : Int) (w : World) : Calls Try.prog 72 #[.int .i64 a] w fun e w' => e = .returned (.bool (decide (4 ≤ a) && decide (a ≤ 32))) ∧ w = w' := by
  go_enter Try.func72, Try.ntmps72
  go_wp2
  all_goals go_ret
  all_goals exact ⟨ret_bool (by rw [Bool.eq_iff_iff]; simp; try omega), rfl⟩
set_option maxHeartbeats 400000 in
theorem isHeight_any (a : Int) (w : World) : Calls Try.prog 94 #[.int .i64 a] w fun e w' => e = .returned (.bool (decide (0 ≤ a) && decide (a ≤ 15))) ∧ w = w' := by
  go_enter Try.func94, Try.ntmps94
  go_wp2
  all_goals go_ret
  all_goals exact ⟨ret_bool (by rw [Bool.eq_iff_iff]; simp; try omega), rfl⟩
set_option maxHeartbeats 400000 in
theorem cornersOf_any (a b c : Int) (h : c = (a + 1) * (b + 1)) (h1 : 0 ≤ c) (h2 : c ≤ 2000) (ha : 0 ≤ a) (ha' : a ≤ 100) (hb : 0 ≤ b) (hb' : b ≤ 100) (w : World) : Calls Try.prog 93 #[.int .i64 a, .int .i64 b] w fun e w' => e = .returned (.int .i64 c) ∧ w = w' := by
  subst h
  go_enter Try.func93, Try.ntmps93
  go_wp2
  all_goals go_ret
  all_goals exact ⟨rfl, rfl⟩
set_option maxHeartbeats 400000 in
theorem distance_any (a b : Int) (ha : -1000000 ≤ a) (ha' : a ≤ 1000000) (hb : -1000000 ≤ b) (hb' : b ≤ 1000000) (w : World) : Calls Try.prog 95 #[.int .i64 a, .int .i64 b] w fun e w' => e = .returned (.int .i64 (dist a b)) ∧ w = w' := by
  go_enter Try.func95, Try.ntmps95
  go_wp2
  all_goals go_ret
  all_goals exact ⟨ret_int (by unfold dist; split <;> omega), rfl⟩
set_option maxHeartbeats 400000 in
theorem apart_any (a b : Int) (ha : -1000000 ≤ a) (ha' : a ≤ 1000000) (hb : -1000000 ≤ b) (hb' : b ≤ 1000000) (w : World) : Calls Try.prog 73 #[.int .i64 a, .int .i64 b] w fun e w' => e = .returned (.int .i64 (dist a b)) ∧ w = w' := by
  go_enter Try.func73, Try.ntmps73
  go_wp2
  all_goals go_ret
  all_goals exact ⟨ret_int (by unfold dist; split <;> omega), rfl⟩
theorem sized_yes {a b : Int} (h : Sized a b) (w : World) : Calls Try.prog 92 #[.int .i64 a, .int .i64 b] w fun e w' => e = .returned (.bool true) ∧ w = w' := by
  refine (sized_any a b w).mono fun e w' h' => ⟨h'.1.trans (ret_bool ?_), h'.2⟩
  obtain ⟨⟨h1, h2⟩, h3, h4⟩ := h
  simp [h1, h2, h3, h4]
theorem sized_no {a b : Int} (h : ¬ Sized a b) (w : World) : Calls Try.prog 92 #[.int .i64 a, .int .i64 b] w fun e w' => e = .returned (.bool false) ∧ w = w' := by
  refine (sized_any a b w).mono fun e w' h' => ⟨h'.1.trans (ret_bool ?_), h'.2⟩
  rw [Bool.eq_false_iff]; intro k; apply h; simp at k; unfold Sized; omega
theorem side_yes {a : Int} (h : 4 ≤ a) (h2 : a ≤ 32) (w : World) : Calls Try.prog 72 #[.int .i64 a] w fun e w' => e = .returned (.bool true) ∧ w = w' := by
  refine (side_any a w).mono fun e w' h' => ⟨h'.1.trans (ret_bool ?_), h'.2⟩
  simp [h, h2]
theorem side_no {a : Int} (h : ¬ (4 ≤ a ∧ a ≤ 32)) (w : World) : Calls Try.prog 72 #[.int .i64 a] w fun e w' => e = .returned (.bool false) ∧ w = w' := by
  refine (side_any a w).mono fun e w' h' => ⟨h'.1.trans (ret_bool ?_), h'.2⟩
  rw [Bool.eq_false_iff]; intro k; apply h; simp at k; omega
theorem isHeight_yes {a : Int} (h : 0 ≤ a) (h2 : a ≤ 15) (w : World) : Calls Try.prog 94 #[.int .i64 a] w fun e w' => e = .returned (.bool true) ∧ w = w' := by
  refine (isHeight_any a w).mono fun e w' h' => ⟨h'.1.trans (ret_bool ?_), h'.2⟩
  simp [h, h2]
theorem isHeight_no {a : Int} (h : ¬ (0 ≤ a ∧ a ≤ 15)) (w : World) : Calls Try.prog 94 #[.int .i64 a] w fun e w' => e = .returned (.bool false) ∧ w = w' := by
  refine (isHeight_any a w).mono fun e w' h' => ⟨h'.1.trans (ret_bool ?_), h'.2⟩
  rw [Bool.eq_false_iff]; intro k; apply h; simp at k; omega
end Go.Proofs.Ytkpnngpnjimogaa
