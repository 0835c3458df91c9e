/-
  The walks of Ends, Back and known, of the program and of the reference, and of the laws on ends.
-/
import Derived.Test.YtbfpcolkbfljoaaDoorRWalkEnd
import Derived.Test.YtbfpcolkbfljoaaDoorRBox
namespace Go.Proofs.YtbfpcolkbfljoaaDoor
open Go.RowKit

set_option maxHeartbeats 1600000 in
theorem ends_yes {p : Int} (hp : 0 ≤ p ∧ p ≤ 5) (w : World) (hT : Tab w) : Calls Tryd.prog 130 #[.int .i64 p] w fun e w' =>
    e = .returned (.tuple #[.int .i64 (fst p), .int .i64 (snd p), .int .i64 0]) ∧ Below w.heap.size w w' := by
  obtain ⟨⟨c0, c1, c2, c3⟩, ⟨c4, c5, c6, c7⟩, ⟨c8, c9, c10, c11⟩, hz⟩ := hT.all
  clear hT
  rcases (show p = 0 ∨ p = 1 ∨ p = 2 ∨ p = 3 ∨ p = 4 ∨ p = 5 by omega) with rfl | rfl | rfl | rfl | rfl | rfl
  all_goals
    clear hp
    go_enter Tryd.func130, Tryd.ntmps130
    go_wp2_with (go_at_call 127; refine (isPiece_yes (by omega) _).mono ?_; rintro e w' ⟨rfl, rfl⟩)
    go_quiet (fail)
    go_wp2
    go_ret3
    exact ⟨rfl, Joins.below_draws _ _ _⟩
set_option maxHeartbeats 400000 in
theorem ends_no {p : Int} (hp : ¬ (0 ≤ p ∧ p ≤ 5)) (w : World) : Calls Tryd.prog 130 #[.int .i64 p] w fun e w' =>
    e = .returned (.tuple #[.int .i64 0, .int .i64 0, .int .i64 1]) ∧ Below w.heap.size w w' := by
  go_enter Tryd.func130, Tryd.ntmps130
  go_wp2_with (go_at_call 127; refine (isPiece_no hp _).mono ?_; rintro e w' ⟨rfl, rfl⟩)
  go_ret3
  exact ⟨rfl, Below.refl _ _⟩
set_option maxHeartbeats 1600000 in
theorem back_yes {t p s o : Int} (h : 0 ≤ o) (ho : oth p s = o) (w : World) (hT : Tab w) : Calls Tryd.prog 78 #[sv t p s] w fun e w' =>
    e = .returned (.tuple #[sv t p o, .int .i64 0]) ∧ Below w.heap.size w w' := by
  have hst := bx2_start w 50 50 #[.int .i64 t, .int .i64 p, .int .i64 s] #[.int .i64 0, .int .i64 0, .int .i64 0]
  have HT := hid (hT.stays hst.below)
  have HST := hid hst
  have HO := hid ho
  have HY : Hid (0 ≤ oth p s) := hid (by rw [ho]; exact h)
  clear hT hst ho
  go_enter Tryd.func78, Tryd.ntmps78
  go_wp2_with fail
  refine (across_yes HY.out _ HT.out).mono ?_
  rintro e w2 ⟨rfl, hb2⟩
  rw [HO.out]
  have H2 := hid (HST.out.stays hb2)
  obtain ⟨B, hB⟩ : ∃ B, B = w.heap.size := ⟨_, rfl⟩
  have HBB := hid hB
  simp only [← hB] at H2 ⊢
  clear hB
  have hr := H2.out.hr
  have b0 : w2.cell? ⟨B, 0, none⟩ = some (.int .i64 t) := cell_of_row w2 B 0 _ _ _ H2.out.hb
  have b1 : w2.cell? ⟨B, 1, none⟩ = some (.int .i64 p) := cell_of_row w2 B 1 _ _ _ H2.out.hb
  have b2 : w2.cell? ⟨B, 2, none⟩ = some (.int .i64 s) := cell_of_row w2 B 2 _ _ _ H2.out.hb
  have g2 : w2.frozen? ⟨B, 2, none⟩ = false := frozen_of_row w2 B 2 _ _ H2.out.hb
  have r0 : w2.cell? ⟨B + 1, 0, none⟩ = some (.int .i64 0) := cell_of_row w2 (B + 1) 0 _ _ _ hr
  have r1 : w2.cell? ⟨B + 1, 1, none⟩ = some (.int .i64 0) := cell_of_row w2 (B + 1) 1 _ _ _ hr
  have r2 : w2.cell? ⟨B + 1, 2, none⟩ = some (.int .i64 0) := cell_of_row w2 (B + 1) 2 _ _ _ hr
  have f0 : w2.frozen? ⟨B + 1, 0, none⟩ = false := frozen_of_row w2 (B + 1) 0 _ _ hr
  have f1 : w2.frozen? ⟨B + 1, 1, none⟩ = false := frozen_of_row w2 (B + 1) 1 _ _ hr
  have f2 : w2.frozen? ⟨B + 1, 2, none⟩ = false := frozen_of_row w2 (B + 1) 2 _ _ hr
  have hbz := heap_lt hr
  clear hb2 hr HST HT
  go_wp2_with fail
  have k2 : (w2.setCell ⟨B, 2, none⟩ (.int .i64 o)).heap[B + 1]? = some (.cells #[.int .i64 0, .int .i64 0, .int .i64 0] 50 (0, 0)) :=
    (Below.heap_setCell _ _ _ (B + 1) (by simp)).trans H2.out.hr
  have k3 := set3 k2 (.int .i64 t) (.int .i64 p) (.int .i64 o)
  have k4 := set3_below (g := B + 1) (H2.out.below.setCell (p := ⟨B, 2, none⟩) (Nat.le_refl _) (.int .i64 o)) (Nat.le_succ _) (.int .i64 t) (.int .i64 p) (.int .i64 o)
  clear b0 b1 b2 g2 r0 r1 r2 f0 f1 f2 k2
  generalize World.setCell _ _ _ = w5 at k3 k4 ⊢
  have q0 := cell_of_row w5 (B + 1) 0 _ _ _ k3
  have q1 := cell_of_row w5 (B + 1) 1 _ _ _ k3
  have q2 := cell_of_row w5 (B + 1) 2 _ _ _ k3
  simp at q0 q1 q2
  refine bodyPost_ret (v := .tuple #[sv t p o, .int .i64 0]) (by simp [results, Tryd.results78, go_sem, q0, q1, q2]) rfl ⟨rfl, ?_⟩
  rw [← HBB.out]; exact k4

set_option maxHeartbeats 1600000 in
theorem back_no {t p s : Int} (h : oth p s < 0) (w : World) (hT : Tab w) : Calls Tryd.prog 78 #[sv t p s] w fun e w' =>
    e = .returned (.tuple #[sv 0 0 0, .int .i64 1]) ∧ Below w.heap.size w w' := by
  have hst := bx2_start w 50 50 #[.int .i64 t, .int .i64 p, .int .i64 s] #[.int .i64 0, .int .i64 0, .int .i64 0]
  have HT := hid (hT.stays hst.below)
  have HST := hid hst
  have HN := hid h
  clear hT hst h
  go_enter Tryd.func78, Tryd.ntmps78
  go_wp2_with fail
  refine (across_no HN.out _ HT.out).mono ?_
  rintro e w2 ⟨rfl, hb2⟩
  have H2 := hid (HST.out.stays hb2)
  obtain ⟨B, hB⟩ : ∃ B, B = w.heap.size := ⟨_, rfl⟩
  have HBB := hid hB
  simp only [← hB] at H2 ⊢
  clear hB
  have hr := H2.out.hr
  have r0 : w2.cell? ⟨B + 1, 0, none⟩ = some (.int .i64 0) := cell_of_row w2 (B + 1) 0 _ _ _ hr
  have r1 : w2.cell? ⟨B + 1, 1, none⟩ = some (.int .i64 0) := cell_of_row w2 (B + 1) 1 _ _ _ hr
  have r2 : w2.cell? ⟨B + 1, 2, none⟩ = some (.int .i64 0) := cell_of_row w2 (B + 1) 2 _ _ _ hr
  have f0 : w2.frozen? ⟨B + 1, 0, none⟩ = false := frozen_of_row w2 (B + 1) 0 _ _ hr
  have f1 : w2.frozen? ⟨B + 1, 1, none⟩ = false := frozen_of_row w2 (B + 1) 1 _ _ hr
  have f2 : w2.frozen? ⟨B + 1, 2, none⟩ = false := frozen_of_row w2 (B + 1) 2 _ _ hr
  have hbz := heap_lt hr
  clear hb2 hr HST HT
  go_wp2_with fail
  have k3 := set3 H2.out.hr (.int .i64 0) (.int .i64 0) (.int .i64 0)
  have k4 := set3_below (g := B + 1) H2.out.below (Nat.le_succ _) (.int .i64 0) (.int .i64 0) (.int .i64 0)
  clear r0 r1 r2 f0 f1 f2
  generalize World.setCell _ _ _ = w5 at k3 k4 ⊢
  have q0 := cell_of_row w5 (B + 1) 0 _ _ _ k3
  have q1 := cell_of_row w5 (B + 1) 1 _ _ _ k3
  have q2 := cell_of_row w5 (B + 1) 2 _ _ _ k3
  simp at q0 q1 q2
  refine bodyPost_ret (v := .tuple #[sv 0 0 0, .int .i64 1]) (by simp [results, Tryd.results78, go_sem, q0, q1, q2]) rfl ⟨rfl, ?_⟩
  rw [← HBB.out]; exact k4

end Go.Proofs.YtbfpcolkbfljoaaDoor
