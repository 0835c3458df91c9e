/-
  The walks of what asks for a tile: its four heights, the least of them.
-/
import Derived.Test.YtkpnngpnjimogaaSTile
namespace Go.Proofs.Ytkpnngpnjimogaa
open Go.RowKit

theorem tile_yes {W H u : Nat} (h : u < W * H) : tileB W H u = true := by unfold tileB; simp; omega

set_option maxHeartbeats 1600000 in
theorem vt_ok (W H : Nat) (ao : Option Addr) (n cap : Nat) (Z : Nat → Int) (hg : Good W H n Z) (u : Nat) (hu : u < W * H) (w : World) (hI : Ints w ao n Z) :
    Calls Try.prog 102 #[lv W H (.slice ao n cap), .int .i64 u] w fun r w' => r = .returned (.int .i64 0) ∧ Below w.heap.size w w' := by
  have HL := hid (lb_start (W := W) (H := H) (cap := cap) hI)
  have HE := hid hg.err
  have HT := hid (tile_yes hu)
  obtain ⟨hW1, hW2, hH1, hH2⟩ := hg.side
  have hlb := hg.shaped.bound
  clear hI hg hu
  go_enter Try.func102, Try.ntmps102
  go_wp2_with fail
  refine (validate_any W H ao n cap Z (by omega) _ HL.out.ints 0 HE.out).mono ?_
  rintro r w1 ⟨rfl, hb1⟩
  have HL1 := hid (HL.out.stays hb1)
  have c0 := HL1.out.c0
  have c1 := HL1.out.c1
  have c2 := HL1.out.c2
  have hz := HL1.out.size
  clear hb1
  go_wp2_with (go_at_call 111; refine (isTile_any W H hW2 hH2 _ u _).mono ?_; rw [HT.out]; rintro e w' ⟨rfl, rfl⟩)
  go_ret
  exact ⟨rfl, add HL1.out.below _⟩

/-- A tile's four heights, as a value. -/
abbrev fourH (W : Nat) (Z : Nat → Int) (t : Nat) : Value := .agg #[.int .i64 (Z (nw W t)), .int .i64 (Z (nw W t + 1)), .int .i64 (Z (nw W t + W + 2)), .int .i64 (Z (nw W t + W + 1))]
set_option maxHeartbeats 3200000 in
theorem heights_any (W H : Nat) (ao : Option Addr) (n cap : Nat) (Z : Nat → Int) (hg : Good W H n Z) (u : Nat) (hu : u < W * H) (w : World) (hI : Ints w ao n Z) :
    Calls Try.prog 104 #[lv W H (.slice ao n cap), .int .i64 u] w fun r w' => r = .returned (fourH W Z u) ∧ Below w.heap.size w w' := by
  obtain ⟨hW1, hW2, hH1, hH2⟩ := hg.side
  have hlb := hg.shaped.bound
  have hp : nw W u + W + 2 < n := by rw [hg.len]; exact nw_lt hu
  obtain ⟨b, off, rfl, hbz, hcell⟩ := hI.one (by omega)
  have d0 := hcell (nw W u) (by omega)
  have d1 := hcell (nw W u + 1) (by omega)
  have d2 := hcell (nw W u + W + 2) (by omega)
  have d3 := hcell (nw W u + W + 1) (by omega)
  unfold fourH
  obtain ⟨z0, e0⟩ : ∃ z, z = Z (nw W u) := ⟨_, rfl⟩
  obtain ⟨z1, e1⟩ : ∃ z, z = Z (nw W u + 1) := ⟨_, rfl⟩
  obtain ⟨z2, e2⟩ : ∃ z, z = Z (nw W u + W + 2) := ⟨_, rfl⟩
  obtain ⟨z3, e3⟩ : ∃ z, z = Z (nw W u + W + 1) := ⟨_, rfl⟩
  rw [← e0] at d0 ⊢
  rw [← e1] at d1 ⊢
  rw [← e2] at d2 ⊢
  rw [← e3] at d3 ⊢
  have HU := hid hu
  have hst : Below w.heap.size w ((w.alloc (.cells #[.int .i64 W, .int .i64 H, .slice (some ⟨b, off, none⟩) n cap] 24)).alloc (.cells #[.int .i64 0, .int .i64 0, .int .i64 0, .int .i64 0] 98)) := Joins.below_alloc2 _ _ _
  have HST := hid hst
  have hb0 : ((w.alloc (.cells #[.int .i64 W, .int .i64 H, .slice (some ⟨b, off, none⟩) n cap] 24)).alloc (.cells #[.int .i64 0, .int .i64 0, .int .i64 0, .int .i64 0] 98)).heap[w.heap.size]? = some (.cells #[.int .i64 W, .int .i64 H, .slice (some ⟨b, off, none⟩) n cap] 24 (0, 0)) := by
    show ((w.heap.push _).push _)[_]? = _
    rw [Array.getElem?_push, if_neg (by simp), Array.getElem?_push, if_pos rfl]
  have hb1 : ((w.alloc (.cells #[.int .i64 W, .int .i64 H, .slice (some ⟨b, off, none⟩) n cap] 24)).alloc (.cells #[.int .i64 0, .int .i64 0, .int .i64 0, .int .i64 0] 98)).heap[w.heap.size + 1]? = some (.cells #[.int .i64 0, .int .i64 0, .int .i64 0, .int .i64 0] 98 (0, 0)) := by
    show ((w.heap.push _).push _)[_]? = _
    rw [Array.getElem?_push, if_pos (by simp)]
  have HB0 := hid hb0
  have HB1 := hid hb1
  have D := hid (And.intro d0 (And.intro d1 (And.intro d2 d3)))
  clear hst hb0 hb1 d0 d1 d2 d3 e0 e1 e2 e3 hcell hI hg hu
  go_enter Try.func104, Try.ntmps104
  go_wp2_with fail
  refine (places_any W H (by omega) hW2 hH2 _ u HU.out _).mono ?_
  rintro r w4 ⟨rfl, hb4⟩
  unfold four
  obtain ⟨a, ha⟩ : ∃ a, a = nw W u := ⟨_, rfl⟩
  have DD := D.out
  rw [← ha] at hp DD ⊢
  clear ha D
  obtain ⟨B, hB⟩ : ∃ B, B = w.heap.size := ⟨_, rfl⟩
  have HBB := hid hB
  have hs4 := hb4.size
  rw [World.size_alloc, World.size_alloc] at hs4
  have hBw : Below w.heap.size w w4 := HST.out.trans (hb4.mono (by simp; omega))
  have f0 := (hBw.cell (p := ⟨b, off + a, none⟩) hbz).trans DD.1
  have f1 := (hBw.cell (p := ⟨b, off + (a + 1), none⟩) hbz).trans DD.2.1
  have f2 := (hBw.cell (p := ⟨b, off + (a + W + 2), none⟩) hbz).trans DD.2.2.1
  have f3 := (hBw.cell (p := ⟨b, off + (a + W + 1), none⟩) hbz).trans DD.2.2.2
  have k0 := (hb4.block w.heap.size (by simp; omega)).trans HB0.out
  have k1 := (hb4.block (w.heap.size + 1) (by simp)).trans HB1.out
  rw [← hB] at hs4 k0 k1
  simp only [← hB]
  have b2 : w4.cell? ⟨B, 2, none⟩ = some (.slice (some ⟨b, off, none⟩) n cap) := cell_of_row w4 B 2 _ _ _ k0
  have r0 : w4.cell? ⟨B + 1, 0, none⟩ = some (.int .i64 0) := cell_of_row w4 (B + 1) 0 _ _ _ k1
  have r1 : w4.cell? ⟨B + 1, 1, none⟩ = some (.int .i64 0) := cell_of_row w4 (B + 1) 1 _ _ _ k1
  have r2 : w4.cell? ⟨B + 1, 2, none⟩ = some (.int .i64 0) := cell_of_row w4 (B + 1) 2 _ _ _ k1
  have r3 : w4.cell? ⟨B + 1, 3, none⟩ = some (.int .i64 0) := cell_of_row w4 (B + 1) 3 _ _ _ k1
  have g0 : w4.frozen? ⟨B + 1, 0, none⟩ = false := frozen_of_row w4 (B + 1) 0 _ _ k1
  have g1 : w4.frozen? ⟨B + 1, 1, none⟩ = false := frozen_of_row w4 (B + 1) 1 _ _ k1
  have g2 : w4.frozen? ⟨B + 1, 2, none⟩ = false := frozen_of_row w4 (B + 1) 2 _ _ k1
  have g3 : w4.frozen? ⟨B + 1, 3, none⟩ = false := frozen_of_row w4 (B + 1) 3 _ _ k1
  have hbz4 : b < w4.heap.size := by omega
  have hB4 : B < w4.heap.size := by omega
  have hB5 : B + 1 < w4.heap.size := by omega
  have i0 := ix0
  have i1 := ix1
  have i2 := ix2
  have i3 := ix3
  have HW4 := hid (show Below w.heap.size w w4 ∧ B = w.heap.size from ⟨hBw, hB⟩)
  have HK1 := hid k1
  clear HB0 HB1 HST hb4 hBw DD k0 k1 hB HBB
  go_wp2_with fail
  refine wp_loop_rounds 5 ?_
  rw [rounds_succ]
  go_wp2_with fail
  rw [rounds_succ]
  go_wp2_with fail
  rw [rounds_succ]
  go_wp2_with fail
  rw [rounds_succ]
  go_wp2_with fail
  rw [rounds_succ]
  go_wp2_with fail
  have k3 := set4 HK1.out (.int .i64 z0) (.int .i64 z1) (.int .i64 z2) (.int .i64 z3)
  have k4 := set4_below (g := B + 1) HW4.out.1 (by rw [HW4.out.2]; exact Nat.le_succ _) (.int .i64 z0) (.int .i64 z1) (.int .i64 z2) (.int .i64 z3)
  have k5 := (Below.heap_alloc _ (.cells #[.int .i64 z0, .int .i64 z1, .int .i64 z2, .int .i64 z3] 98) (B + 1) (heap_lt k3)).trans k3
  have k6 := add k4 (.cells #[.int .i64 z0, .int .i64 z1, .int .i64 z2, .int .i64 z3] 98)
  clear r0 r1 r2 r3 g0 g1 g2 g3 f0 f1 f2 f3 b2 k3 k4
  generalize World.alloc _ _ = w6 at k5 k6 ⊢
  have q0 := cell_of_row w6 (B + 1) 0 _ _ _ k5
  have q1 := cell_of_row w6 (B + 1) 1 _ _ _ k5
  have q2 := cell_of_row w6 (B + 1) 2 _ _ _ k5
  have q3 := cell_of_row w6 (B + 1) 3 _ _ _ k5
  simp at q0 q1 q2 q3
  exact bodyPost_ret (v := .agg #[.int .i64 z0, .int .i64 z1, .int .i64 z2, .int .i64 z3]) (by simp [results, Try.results104, go_sem, q0, q1, q2, q3]) rfl ⟨rfl, k6⟩

/-- The least and the greatest of four. -/
def mn4 (a b c d : Int) : Int := min (min (min a b) c) d
def mx4 (a b c d : Int) : Int := max (max (max a b) c) d
set_option maxHeartbeats 1600000 in
theorem min_any (b cap : Nat) (z0 z1 z2 z3 : Int) (w : World) (c0 : w.cell? ⟨b, 0, none⟩ = some (.int .i64 z0)) (c1 : w.cell? ⟨b, 1, none⟩ = some (.int .i64 z1)) (c2 : w.cell? ⟨b, 2, none⟩ = some (.int .i64 z2)) (c3 : w.cell? ⟨b, 3, none⟩ = some (.int .i64 z3)) :
    Calls Try.prog 105 #[.slice (some ⟨b, 0, none⟩) 4 cap] w fun r w' => r = .returned (.int .i64 (mn4 z0 z1 z2 z3)) ∧ w = w' := by
  unfold mn4
  go_enter Try.func105, Try.ntmps105
  go_wp2_with fail
  refine wp_loop_rounds 4 ?_
  rw [rounds_succ]
  go_wp2_with fail
  all_goals
    rw [rounds_succ]
    go_wp2_with fail
  all_goals
    rw [rounds_succ]
    go_wp2_with fail
  all_goals
    rw [rounds_succ]
    go_wp2_with fail
  all_goals go_ret
  all_goals exact ⟨ret_int (by omega), rfl⟩
end Go.Proofs.Ytkpnngpnjimogaa
