/-
  The walks of Slope of the reference, of Water of both.
-/
import Derived.Test.YtngamphkehppfaaWalkFace
namespace Go.Proofs.Ytngamphkehppfaa
open Go.RowKit

set_option maxHeartbeats 1600000 in
theorem refslope_no (W H : Int) (ao : Option Addr) (n cap : Nat) (Z : Nat → Int) (hn : n ≤ 9223372036854775807) (t : Int) (w : World) (hI : Ints w ao n Z) (e : Int) (hE : TErr W H n Z t e) :
    Calls Try.prog 25 #[lv W H (.slice ao n cap), .int .i64 t] w fun r w' => r = .returned (.tuple #[.int .i64 0, .int .i64 0, .int .i64 e]) ∧ Below w.heap.size w w' := by
  have HL := hid (lb_start (W := W) (H := H) (cap := cap) hI)
  clear hI
  rcases hE with ⟨h0, hE⟩ | ⟨rfl, W', H', rfl, rfl, hg, ht⟩
  · have HE := hid hE
    have g : (e != 0) = true := by simpa using h0
    clear hE
    go_enter Try.func25, Try.ntmps25
    go_wp2_with fail
    refine (refvalidate_any W H ao n cap Z hn _ HL.out.ints e HE.out).mono ?_
    rintro r w1 ⟨rfl, hb1⟩
    go_wp2_with fail
    go_ret3
    exact ⟨rfl, (HL.out.stays hb1).below⟩
  · have HE := hid hg.err
    have HT := hid ht
    obtain ⟨hW1, hW2, hH1, hH2⟩ := hg.side
    clear hg ht
    go_enter Try.func25, Try.ntmps25
    go_wp2_with fail
    refine (refvalidate_any W' H' ao n cap Z hn _ HL.out.ints 0 HE.out).mono ?_
    rintro r w1 ⟨rfl, hb1⟩
    have HL1 := hid (HL.out.stays hb1)
    have c0 := HL1.out.c0
    have c1 := HL1.out.c1
    have c2 := HL1.out.c2
    have hz := HL1.out.size
    clear hb1
    go_wp2_with (go_at_call 31; refine (is_any W' H' hW2 hH2 _ t _).mono ?_; rw [HT.out]; rintro e w' ⟨rfl, rfl⟩)
    go_ret3
    exact ⟨rfl, add HL1.out.below _⟩
set_option maxHeartbeats 1600000 in
theorem refslope_ok (W H : Nat) (ao : Option Addr) (n cap : Nat) (Z : Nat → Int) (hg : Good W H n Z) (u : Nat) (hu : u < W * H) (w : World) (hI : Ints w ao n Z) :
    Calls Try.prog 25 #[lv W H (.slice ao n cap), .int .i64 u] w fun r w' => r = .returned (.tuple #[.int .i64 (slope W Z u), .int .i64 (base W Z u), .int .i64 0]) ∧ Below w.heap.size w w' := by
  have HL := hid (lb_start (W := W) (H := H) (cap := cap) hI)
  have HE := hid hg.err
  have HG := hid hg
  have HU := hid hu
  have HT := hid (tile_yes hu)
  obtain ⟨hW1, hW2, hH1, hH2⟩ := hg.side
  have hlb := hg.shaped.bound
  clear hI hg hu
  go_enter Try.func25, Try.ntmps25
  go_wp2_with fail
  refine (refvalidate_any W H ao n cap Z (by omega) _ HL.out.ints 0 HE.out).mono ?_
  rintro r w1 ⟨rfl, hb1⟩
  have HL1 := hid (HL.out.stays hb1)
  have c0 := HL1.out.c0
  have c1 := HL1.out.c1
  have c2 := HL1.out.c2
  have hz := HL1.out.size
  have HL2 := hid (HL1.out.stays (Joins.below_alloc1 w1 (.cells #[.int .i64 W, .int .i64 H, .slice ao n cap] 24)))
  clear hb1
  go_wp2_with (first
    | (go_at_call 31; refine (is_any W H hW2 hH2 _ u _).mono ?_; rw [HT.out]; rintro e w' ⟨rfl, rfl⟩)
    | (go_at_call 57; refine (face_any W H ao n cap Z HG.out u HU.out _ HL2.out.ints).mono ?_; rintro e w4 ⟨rfl, hb4⟩))
  go_ret3
  exact ⟨rfl, (HL2.out.stays hb4).below⟩

set_option maxHeartbeats 1600000 in
theorem wet_any (W H : Nat) (ao : Option Addr) (n cap : Nat) (Z : Nat → Int) (hg : Good W H n Z) (u : Nat) (hu : u < W * H) (w : World) (hI : Ints w ao n Z) :
    Calls Try.prog 58 #[lv W H (.slice ao n cap), .int .i64 u] w fun r w' => r = .returned (.bool (decide (top W Z u ≤ 2))) ∧ Below w.heap.size w w' := by
  have HL := hid (lb_start (W := W) (H := H) (cap := cap) hI)
  have HG := hid hg
  have HU := hid hu
  obtain ⟨z0, e0⟩ : ∃ z, z = Z (nw W u) := ⟨_, rfl⟩
  obtain ⟨z1, e1⟩ : ∃ z, z = Z (nw W u + 1) := ⟨_, rfl⟩
  obtain ⟨z2, e2⟩ : ∃ z, z = Z (nw W u + W + 2) := ⟨_, rfl⟩
  obtain ⟨z3, e3⟩ : ∃ z, z = Z (nw W u + W + 1) := ⟨_, rfl⟩
  have E := hid (And.intro e0 (And.intro e1 (And.intro e2 e3)))
  unfold top
  rw [← e0, ← e1, ← e2, ← e3]
  obtain ⟨tp, ht⟩ : ∃ m, m = mx4 z0 z1 z2 z3 := ⟨_, rfl⟩
  rw [← ht]
  have HT := hid ht
  clear hI hg hu e0 e1 e2 e3 ht
  go_enter Try.func58, Try.ntmps58
  go_wp2_with fail
  refine (heights_any W H ao n cap Z HG.out u HU.out _ HL.out.ints).mono ?_
  rintro r w2 ⟨rfl, hb2⟩
  unfold fourH
  rw [← E.out.1, ← E.out.2.1, ← E.out.2.2.1, ← E.out.2.2.2]
  have HL2 := hid ((HL.out.stays hb2).stays (Joins.below_alloc1 _ (.cells #[.int .i64 z0, .int .i64 z1, .int .i64 z2, .int .i64 z3] 78)))
  clear hb2
  go_wp2_with (go_at_call 72; refine (max_any _ _ z0 z1 z2 z3 _ (by simp) (by simp) (by simp) (by simp)).mono ?_; rw [← HT.out]; rintro e w' ⟨rfl, rfl⟩)
  go_ret
  exact ⟨rfl, HL2.out.below⟩

set_option maxHeartbeats 3200000 in
theorem sea_any (W H : Nat) (ao : Option Addr) (n cap : Nat) (Z : Nat → Int) (hg : Good W H n Z) (u : Nat) (hu : u < W * H) (w : World) (hI : Ints w ao n Z) :
    Calls Try.prog 59 #[lv W H (.slice ao n cap), .int .i64 u] w fun r w' => r = .returned (.bool (decide (top W Z u ≤ 2))) ∧ Below w.heap.size w w' := by
  have HL := hid (lb_start (W := W) (H := H) (cap := cap) hI)
  have HU := hid hu
  obtain ⟨hW1, hW2, hH1, hH2⟩ := hg.side
  have hlb := hg.shaped.bound
  have hp : nw W u + W + 2 < n := by rw [hg.len]; exact nw_lt hu
  unfold top
  obtain ⟨z0, e0⟩ : ∃ z, z = Z (nw W u) := ⟨_, rfl⟩
  obtain ⟨z1, e1⟩ : ∃ z, z = Z (nw W u + 1) := ⟨_, rfl⟩
  obtain ⟨z2, e2⟩ : ∃ z, z = Z (nw W u + W + 2) := ⟨_, rfl⟩
  obtain ⟨z3, e3⟩ : ∃ z, z = Z (nw W u + W + 1) := ⟨_, rfl⟩
  rw [← e0, ← e1, ← e2, ← e3]
  obtain ⟨r, hr⟩ : ∃ r, r = decide (mx4 z0 z1 z2 z3 ≤ 2) := ⟨_, rfl⟩
  rw [← hr]
  have HR := hid hr
  clear hg hu hr
  go_enter Try.func59, Try.ntmps59
  go_wp2_with fail
  refine (refplaces_any W H (by omega) hW2 hH2 _ u HU.out _).mono ?_
  rintro r w2 ⟨rfl, hb2⟩
  have HL1 := hid (HL.out.stays hb2)
  obtain ⟨b, off, rfl, hbz, hcell⟩ := HL1.out.ints.one (by omega)
  unfold four
  have d0 := hcell (nw W u) (by omega)
  have d1 := hcell (nw W u + 1) (by omega)
  have d2 := hcell (nw W u + W + 2) (by omega)
  have d3 := hcell (nw W u + W + 1) (by omega)
  rw [← e0] at d0
  rw [← e1] at d1
  rw [← e2] at d2
  rw [← e3] at d3
  obtain ⟨a, ha⟩ : ∃ a, a = nw W u := ⟨_, rfl⟩
  rw [← ha] at hp d0 d1 d2 d3 ⊢
  have c2 := HL1.out.c2
  have hz := HL1.out.size
  have i0 := ix0
  have i1 := ix1
  have i2 := ix2
  have i3 := ix3
  clear hb2 HL hI hcell ha e0 e1 e2 e3
  have key : ∀ b : Bool, b = decide (mx4 z0 z1 z2 z3 ≤ 2) → Ending.returned (.bool b) = Ending.returned (.bool r) := fun b h => by rw [HR.out, h]
  have HK := hid key
  clear key
  go_wp2_with fail
  refine wp_loop_rounds 5 ?_
  rw [rounds_succ]
  go_wp2_with fail
  · go_ret
    exact ⟨HK.out _ (by symm; rw [decide_eq_false_iff_not]; unfold mx4; omega), HL1.out.below⟩
  rw [rounds_succ]
  go_wp2_with fail
  · go_ret
    exact ⟨HK.out _ (by symm; rw [decide_eq_false_iff_not]; unfold mx4; omega), HL1.out.below⟩
  rw [rounds_succ]
  go_wp2_with fail
  · go_ret
    exact ⟨HK.out _ (by symm; rw [decide_eq_false_iff_not]; unfold mx4; omega), HL1.out.below⟩
  rw [rounds_succ]
  go_wp2_with fail
  · go_ret
    exact ⟨HK.out _ (by symm; rw [decide_eq_false_iff_not]; unfold mx4; omega), HL1.out.below⟩
  rw [rounds_succ]
  go_wp2_with fail
  go_ret
  exact ⟨HK.out _ (by symm; rw [decide_eq_true_eq]; unfold mx4; omega), HL1.out.below⟩
end Go.Proofs.Ytngamphkehppfaa
