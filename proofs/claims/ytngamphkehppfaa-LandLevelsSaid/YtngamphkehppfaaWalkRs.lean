/-
  The walk of Shift of the reference.
-/
import Derived.Test.YtngamphkehppfaaLip
namespace Go.Proofs.Ytngamphkehppfaa
open Go.RowKit

set_option maxRecDepth 20000 in
set_option maxHeartbeats 1600000 in
theorem refshift_bad (W H : Int) (ao : Option Addr) (n cap : Nat) (Z : Nat → Int) (hn : n ≤ 9223372036854775807) (x y : Int) (up : Bool) (f : Value) (w : World) (hI : Ints w ao n Z) (e : Int) (he : e ≠ 0) (hE : VErr W H n Z e) :
    Calls Try.prog 35 #[lv W H (.slice ao n cap), .int .i64 x, .int .i64 y, .bool up, f] w fun r w' => r = .returned (none4 e) ∧ Below w.heap.size w w' := by
  have HE := hid hE
  have hst := bx2_start w #[.int .i64 W, .int .i64 H, .slice ao n cap] #[.int .i64 0, .int .i64 0, .slice none 0 0]
  have HI := hid (hI.stays hst.below)
  have HST := hid hst
  have g : (e != 0) = true := by simpa using he
  clear hI hE hst
  go_enter Try.func35, Try.ntmps35
  go_wp2_with fail
  refine (refvalidate_any W H ao n cap Z hn _ HI.out e HE.out).mono ?_
  rintro r w2 ⟨rfl, hb2⟩
  have H2 := hid (HST.out.stays hb2)
  obtain ⟨B, hB⟩ : ∃ B, B = w.heap.size := ⟨_, rfl⟩
  have HBB := hid hB
  simp only [← hB] at H2 ⊢
  clear hB
  have hr := H2.out.hr
  have r0 : w2.cell? ⟨B + 1, 0, none⟩ = some (.int .i64 0) := cell_of_row w2 (B + 1) 0 _ _ _ hr
  have r1 : w2.cell? ⟨B + 1, 1, none⟩ = some (.int .i64 0) := cell_of_row w2 (B + 1) 1 _ _ _ hr
  have r2 : w2.cell? ⟨B + 1, 2, none⟩ = some (.slice none 0 0) := cell_of_row w2 (B + 1) 2 _ _ _ hr
  have f0 : w2.frozen? ⟨B + 1, 0, none⟩ = false := frozen_of_row w2 (B + 1) 0 _ _ hr
  have f1 : w2.frozen? ⟨B + 1, 1, none⟩ = false := frozen_of_row w2 (B + 1) 1 _ _ hr
  have f2 : w2.frozen? ⟨B + 1, 2, none⟩ = false := frozen_of_row w2 (B + 1) 2 _ _ hr
  have hbz := heap_lt hr
  clear hb2 hr HI HST
  go_wp2_with fail
  have k3 := set3 H2.out.hr (.int .i64 0) (.int .i64 0) (.slice none 0 0)
  have k4 := set3_below (g := B + 1) H2.out.below (Nat.le_succ _) (.int .i64 0) (.int .i64 0) (.slice none 0 0)
  clear r0 r1 r2 f0 f1 f2
  generalize World.setCell _ _ _ = w5 at k3 k4 ⊢
  have q0 := cell_of_row w5 (B + 1) 0 _ _ _ k3
  have q1 := cell_of_row w5 (B + 1) 1 _ _ _ k3
  have q2 := cell_of_row w5 (B + 1) 2 _ _ _ k3
  simp at q0 q1 q2
  refine bodyPost_ret (v := none4 e) (by simp [results, Try.results35, go_sem, q0, q1, q2]) rfl ⟨rfl, ?_⟩
  rw [← HBB.out]; exact k4

set_option maxRecDepth 20000 in
set_option maxHeartbeats 1600000 in
theorem refshift_out (W H : Int) (ao : Option Addr) (n cap : Nat) (Z : Nat → Int) (hn : n ≤ 9223372036854775807) (x y : Int) (up : Bool) (f : Value) (w : World) (hI : Ints w ao n Z) (hV : Valid W H n Z) (hr : ¬ (0 ≤ x ∧ x ≤ W ∧ 0 ≤ y ∧ y ≤ H)) :
    Calls Try.prog 35 #[lv W H (.slice ao n cap), .int .i64 x, .int .i64 y, .bool up, f] w fun r w' => r = .returned (none4 2) ∧ Below w.heap.size w w' := by
  have HE := hid hV.err
  have hst := bx2_start w #[.int .i64 W, .int .i64 H, .slice ao n cap] #[.int .i64 0, .int .i64 0, .slice none 0 0]
  have HI := hid (hI.stays hst.below)
  have HST := hid hst
  have HO := hid hr
  clear hI hV hst hr
  go_enter Try.func35, Try.ntmps35
  go_wp2_with fail
  refine (refvalidate_any W H ao n cap Z hn _ HI.out 0 HE.out).mono ?_
  rintro r w2 ⟨rfl, hb2⟩
  have H2 := hid (HST.out.stays hb2)
  obtain ⟨B, hB⟩ : ∃ B, B = w.heap.size := ⟨_, rfl⟩
  have HBB := hid hB
  simp only [← hB] at H2 ⊢
  clear hB
  have hr := H2.out.hr
  have r0 : w2.cell? ⟨B + 1, 0, none⟩ = some (.int .i64 0) := cell_of_row w2 (B + 1) 0 _ _ _ hr
  have r1 : w2.cell? ⟨B + 1, 1, none⟩ = some (.int .i64 0) := cell_of_row w2 (B + 1) 1 _ _ _ hr
  have r2 : w2.cell? ⟨B + 1, 2, none⟩ = some (.slice none 0 0) := cell_of_row w2 (B + 1) 2 _ _ _ hr
  have f0 : w2.frozen? ⟨B + 1, 0, none⟩ = false := frozen_of_row w2 (B + 1) 0 _ _ hr
  have f1 : w2.frozen? ⟨B + 1, 1, none⟩ = false := frozen_of_row w2 (B + 1) 1 _ _ hr
  have f2 : w2.frozen? ⟨B + 1, 2, none⟩ = false := frozen_of_row w2 (B + 1) 2 _ _ hr
  have hbz := heap_lt hr
  have d0 : w2.cell? ⟨B, 0, none⟩ = some (.int .i64 W) := cell_of_row w2 B 0 _ _ _ H2.out.hb
  have d1 : w2.cell? ⟨B, 1, none⟩ = some (.int .i64 H) := cell_of_row w2 B 1 _ _ _ H2.out.hb
  clear hb2 hr HI HST
  by_cases o1 : x < 0
  all_goals by_cases o2 : W < x
  all_goals by_cases o3 : y < 0
  all_goals by_cases o4 : H < y
  all_goals first
    | (exfalso; have := HO.out; omega)
    | (go_wp2_with fail
       have k3 := set3 H2.out.hr (.int .i64 0) (.int .i64 0) (.slice none 0 0)
       have k4 := set3_below (g := B + 1) H2.out.below (Nat.le_succ _) (.int .i64 0) (.int .i64 0) (.slice none 0 0)
       clear d0 d1 r0 r1 r2 f0 f1 f2
       generalize World.setCell _ _ _ = w5 at k3 k4 ⊢
       have q0 := cell_of_row w5 (B + 1) 0 _ _ _ k3
       have q1 := cell_of_row w5 (B + 1) 1 _ _ _ k3
       have q2 := cell_of_row w5 (B + 1) 2 _ _ _ k3
       simp at q0 q1 q2
       refine bodyPost_ret (v := none4 2) (by simp [results, Try.results35, go_sem, q0, q1, q2]) rfl ⟨rfl, ?_⟩
       rw [← HBB.out]; exact k4)
end Go.Proofs.Ytngamphkehppfaa
