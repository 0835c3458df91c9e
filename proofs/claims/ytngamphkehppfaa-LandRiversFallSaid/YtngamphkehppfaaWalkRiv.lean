/-
  The walks of what a river asks for: a tile's sum, the tile beside a tile, the lowest of these.
-/
import Derived.Test.YtngamphkehppfaaRiver
namespace Go.Proofs.Ytngamphkehppfaa
open Go.RowKit

set_option maxHeartbeats 1600000 in
theorem total_any (W H : Nat) (ao : Option Addr) (n cap : Nat) (Z : Nat → Int) (hg : Good W H n Z) (u : Nat) (hu : u < W * H) (w : World) (hI : Ints w ao n Z) :
    Calls Try.prog 73 #[lv W H (.slice ao n cap), .int .i64 u] w fun r w' => r = .returned (.int .i64 (sumT W Z u)) ∧ Below w.heap.size w w' := by
  have HL := hid (lb_start (W := W) (H := H) (cap := cap) hI)
  have HG := hid hg
  have HU := hid hu
  have hp : nw W u + W + 2 < n := by rw [hg.len]; exact nw_lt hu
  have h0 := hg.high (nw W u) (by omega)
  have h1 := hg.high (nw W u + 1) (by omega)
  have h2 := hg.high (nw W u + W + 2) (by omega)
  have h3 := hg.high (nw W u + W + 1) (by omega)
  obtain ⟨z0, e0⟩ : ∃ z, z = Z (nw W u) := ⟨_, rfl⟩
  obtain ⟨z1, e1⟩ : ∃ z, z = Z (nw W u + 1) := ⟨_, rfl⟩
  obtain ⟨z2, e2⟩ : ∃ z, z = Z (nw W u + W + 2) := ⟨_, rfl⟩
  obtain ⟨z3, e3⟩ : ∃ z, z = Z (nw W u + W + 1) := ⟨_, rfl⟩
  have E := hid (And.intro e0 (And.intro e1 (And.intro e2 e3)))
  unfold sumT
  rw [← e0, ← e1, ← e2, ← e3]
  rw [← e0] at h0
  rw [← e1] at h1
  rw [← e2] at h2
  rw [← e3] at h3
  clear hI hg hu e0 e1 e2 e3
  go_enter Try.func73, Try.ntmps73
  go_wp2_with fail
  refine (heights_any W H ao n cap Z HG.out u HU.out _ HL.out.ints).mono ?_
  rintro r w2 ⟨rfl, hb2⟩
  unfold fourH
  rw [← E.out.1, ← E.out.2.1, ← E.out.2.2.1, ← E.out.2.2.2]
  have HL2 := hid (HL.out.stays hb2)
  have i0 := ix0
  have i1 := ix1
  have i2 := ix2
  have i3 := ix3
  clear hb2
  go_wp2_with fail
  refine wp_loop_rounds 5 ?_
  rw [rounds_succ]
  go_wp2_with fail
  rw [rounds_succ]
  go_wp2_with fail
  rw [rounds_succ]
  go_wp2_with fail
  rw [rounds_succ]
  go_wp2_with fail
  rw [rounds_succ]
  go_wp2_with fail
  go_ret
  exact ⟨ret_int (by omega), HL2.out.below⟩

set_option maxHeartbeats 1600000 in
theorem reftotal_any (W H : Nat) (ao : Option Addr) (n cap : Nat) (Z : Nat → Int) (hg : Good W H n Z) (u : Nat) (hu : u < W * H) (w : World) (hI : Ints w ao n Z) :
    Calls Try.prog 61 #[lv W H (.slice ao n cap), .int .i64 u] w fun r w' => r = .returned (.int .i64 (sumT W Z u)) ∧ Below w.heap.size w w' := by
  have HL := hid (lb_start (W := W) (H := H) (cap := cap) hI)
  have HU := hid hu
  obtain ⟨hW1, hW2, hH1, hH2⟩ := hg.side
  have hlb := hg.shaped.bound
  have hp : nw W u + W + 2 < n := by rw [hg.len]; exact nw_lt hu
  have h0 := hg.high (nw W u) (by omega)
  have h1 := hg.high (nw W u + 1) (by omega)
  have h2 := hg.high (nw W u + W + 2) (by omega)
  have h3 := hg.high (nw W u + W + 1) (by omega)
  obtain ⟨z0, e0⟩ : ∃ z, z = Z (nw W u) := ⟨_, rfl⟩
  obtain ⟨z1, e1⟩ : ∃ z, z = Z (nw W u + 1) := ⟨_, rfl⟩
  obtain ⟨z2, e2⟩ : ∃ z, z = Z (nw W u + W + 2) := ⟨_, rfl⟩
  obtain ⟨z3, e3⟩ : ∃ z, z = Z (nw W u + W + 1) := ⟨_, rfl⟩
  unfold sumT
  rw [← e0, ← e1, ← e2, ← e3]
  rw [← e0] at h0
  rw [← e1] at h1
  rw [← e2] at h2
  rw [← e3] at h3
  clear hg hu
  go_enter Try.func61, Try.ntmps61
  go_wp2_with fail
  refine (refplaces_any W H (by omega) hW2 hH2 _ u HU.out _).mono ?_
  rintro r w2 ⟨rfl, hb2⟩
  have HL1 := hid (HL.out.stays hb2)
  obtain ⟨b, off, rfl, hbz, hcell⟩ := HL1.out.ints.one (by omega)
  unfold four
  have d0 := hcell (nw W u) (by omega)
  have d1 := hcell (nw W u + 1) (by omega)
  have d2 := hcell (nw W u + W + 2) (by omega)
  have d3 := hcell (nw W u + W + 1) (by omega)
  rw [← e0] at d0
  rw [← e1] at d1
  rw [← e2] at d2
  rw [← e3] at d3
  obtain ⟨a, ha⟩ : ∃ a, a = nw W u := ⟨_, rfl⟩
  rw [← ha] at hp d0 d1 d2 d3 ⊢
  have c2 := HL1.out.c2
  have hz := HL1.out.size
  have i0 := ix0
  have i1 := ix1
  have i2 := ix2
  have i3 := ix3
  clear hb2 HL hI hcell ha e0 e1 e2 e3
  go_wp2_with fail
  refine wp_loop_rounds 5 ?_
  rw [rounds_succ]
  go_wp2_with fail
  rw [rounds_succ]
  go_wp2_with fail
  rw [rounds_succ]
  go_wp2_with fail
  rw [rounds_succ]
  go_wp2_with fail
  rw [rounds_succ]
  go_wp2_with fail
  go_ret
  exact ⟨ret_int (by omega), HL1.out.below⟩

set_option maxHeartbeats 1600000 in
theorem lawsum_any (W H : Nat) (ao : Option Addr) (n cap : Nat) (Z : Nat → Int) (hg : Good W H n Z) (u : Nat) (hu : u < W * H) (w : World) (hI : Ints w ao n Z) :
    Calls Try.prog 33 #[lv W H (.slice ao n cap), .int .i64 u] w fun r w' => r = .returned (.int .i64 (sumT W Z u)) ∧ Below w.heap.size w w' := by
  have HL := hid (lb_start (W := W) (H := H) (cap := cap) hI)
  have HU := hid hu
  obtain ⟨hW1, hW2, hH1, hH2⟩ := hg.side
  have hlb := hg.shaped.bound
  have hp : nw W u + W + 2 < n := by rw [hg.len]; exact nw_lt hu
  have h0 := hg.high (nw W u) (by omega)
  have h1 := hg.high (nw W u + 1) (by omega)
  have h2 := hg.high (nw W u + W + 2) (by omega)
  have h3 := hg.high (nw W u + W + 1) (by omega)
  obtain ⟨z0, e0⟩ : ∃ z, z = Z (nw W u) := ⟨_, rfl⟩
  obtain ⟨z1, e1⟩ : ∃ z, z = Z (nw W u + 1) := ⟨_, rfl⟩
  obtain ⟨z2, e2⟩ : ∃ z, z = Z (nw W u + W + 2) := ⟨_, rfl⟩
  obtain ⟨z3, e3⟩ : ∃ z, z = Z (nw W u + W + 1) := ⟨_, rfl⟩
  unfold sumT
  rw [← e0, ← e1, ← e2, ← e3]
  rw [← e0] at h0
  rw [← e1] at h1
  rw [← e2] at h2
  rw [← e3] at h3
  clear hg hu
  go_enter Try.func33, Try.ntmps33
  go_wp2_with fail
  refine (refplaces_any W H (by omega) hW2 hH2 _ u HU.out _).mono ?_
  rintro r w2 ⟨rfl, hb2⟩
  have HL1 := hid (HL.out.stays hb2)
  obtain ⟨b, off, rfl, hbz, hcell⟩ := HL1.out.ints.one (by omega)
  unfold four
  have d0 := hcell (nw W u) (by omega)
  have d1 := hcell (nw W u + 1) (by omega)
  have d2 := hcell (nw W u + W + 2) (by omega)
  have d3 := hcell (nw W u + W + 1) (by omega)
  rw [← e0] at d0
  rw [← e1] at d1
  rw [← e2] at d2
  rw [← e3] at d3
  obtain ⟨a, ha⟩ : ∃ a, a = nw W u := ⟨_, rfl⟩
  rw [← ha] at hp d0 d1 d2 d3 ⊢
  have c2 := HL1.out.c2
  have hz := HL1.out.size
  have i0 := ix0
  have i1 := ix1
  have i2 := ix2
  have i3 := ix3
  clear hb2 HL hI hcell ha e0 e1 e2 e3
  go_wp2_with fail
  refine wp_loop_rounds 5 ?_
  rw [rounds_succ]
  go_wp2_with fail
  rw [rounds_succ]
  go_wp2_with fail
  rw [rounds_succ]
  go_wp2_with fail
  rw [rounds_succ]
  go_wp2_with fail
  rw [rounds_succ]
  go_wp2_with fail
  go_ret
  exact ⟨ret_int (by omega), HL1.out.below⟩

set_option maxHeartbeats 1600000 in
theorem beside_any (W H : Nat) (hW1 : 1 ≤ W) (hW : W ≤ 32) (hH : H ≤ 32) (s : Value) (u : Nat) (hu : u < W * H) (k : Nat) (hk : k < 4) (w : World) :
    Calls Try.prog 74 #[lv W H s, .int .i64 u, .int .i64 k] w fun r w' => r = .returned (.int .i64 (bsd W H u k)) ∧ Below w.heap.size w w' := by
  have hu2 : u ≤ 1024 := by have := mul_small hW hH; omega
  have hWu := split_at W u
  obtain ⟨x, hx⟩ : ∃ x, x = u % W := ⟨_, rfl⟩
  obtain ⟨y, hy⟩ : ∃ y, y = u / W := ⟨_, rfl⟩
  have hyW : 0 < y → W ≤ u := fun h => by
    have := Nat.mul_le_mul_right W (show 1 ≤ u / W by omega)
    omega
  have e1 : (u : Int) / (W : Int) = (y : Int) := by rw [hy]; simp
  have e2 : (u : Int) % (W : Int) = (x : Int) := by rw [hx]; simp
  have hxu : x ≤ u := by rw [hx]; exact Nat.mod_le _ _
  have hyu : y ≤ u := by rw [hy]; exact Nat.div_le_self _ _
  unfold bsd
  rw [← hx, ← hy]
  have HYW := hid hyW
  clear hx hy hu hWu hyW
  have w1 : IntKind.i64.wrap (x : Int) = (x : Int) := by rw [IntKind.wrap_i64]; omega
  have w2 : IntKind.i64.wrap (y : Int) = (y : Int) := by rw [IntKind.wrap_i64]; omega
  obtain rfl | rfl | rfl | rfl : k = 0 ∨ k = 1 ∨ k = 2 ∨ k = 3 := by omega
  · by_cases h : x + 1 < W
    all_goals
      go_enter Try.func74, Try.ntmps74
      go_wp2_with fail
      go_quiet (fail)
      go_wp2_with fail
      all_goals first
        | (exfalso; omega)
        | (go_ret; exact ⟨ret_int (by simp <;> omega), ((Joins.below_alloc1 _ _).trans (Joins.below_draws _ _ _))⟩)
  · by_cases h : y + 1 < H
    all_goals
      go_enter Try.func74, Try.ntmps74
      go_wp2_with fail
      go_quiet (fail)
      go_wp2_with fail
      all_goals first
        | (exfalso; omega)
        | (go_ret; exact ⟨ret_int (by simp <;> omega), ((Joins.below_alloc1 _ _).trans (Joins.below_draws _ _ _))⟩)
  · by_cases h : 0 < x
    all_goals
      go_enter Try.func74, Try.ntmps74
      go_wp2_with fail
      go_quiet (fail)
      go_wp2_with fail
      all_goals first
        | (exfalso; omega)
        | (go_ret; exact ⟨ret_int (by simp <;> omega), ((Joins.below_alloc1 _ _).trans (Joins.below_draws _ _ _))⟩)
  · by_cases h : 0 < y
    all_goals
      have hYW := HYW.out
      go_enter Try.func74, Try.ntmps74
      go_wp2_with fail
      go_quiet (fail)
      go_wp2_with fail
      all_goals first
        | (exfalso; omega)
        | (go_ret; exact ⟨ret_int (by simp <;> omega), ((Joins.below_alloc1 _ _).trans (Joins.below_draws _ _ _))⟩)

set_option maxHeartbeats 3200000 in
theorem beyond_any (W H : Nat) (hW1 : 1 ≤ W) (hW : W ≤ 32) (hH : H ≤ 32) (u : Nat) (hu : u < W * H) (k : Nat) (hk : k < 4) (w : World) :
    Calls Try.prog 32 #[.int .i64 W, .int .i64 H, .int .i64 u, .int .i64 k] w fun r w' => r = .returned (.int .i64 (bsd W H u k)) ∧ Below w.heap.size w w' := by
  have hu2 : u ≤ 1024 := by have := mul_small hW hH; omega
  have hWu := split_at W u
  have hxW := Nat.mod_lt u (show 0 < W by omega)
  have hyH := row_of hu
  obtain ⟨x, hx⟩ : ∃ x, x = u % W := ⟨_, rfl⟩
  obtain ⟨y, hy⟩ : ∃ y, y = u / W := ⟨_, rfl⟩
  have e1 : (u : Int) / (W : Int) = (y : Int) := by rw [hy]; simp
  have e2 : (u : Int) % (W : Int) = (x : Int) := by rw [hx]; simp
  have hxu : x ≤ u := by rw [hx]; exact Nat.mod_le _ _
  have hyu : y ≤ u := by rw [hy]; exact Nat.div_le_self _ _
  unfold bsd
  rw [← hx, ← hy]
  rw [← hx] at hxW hWu
  rw [← hy] at hyH hWu
  obtain ⟨a, ha⟩ : ∃ a, a = y * W := ⟨_, rfl⟩
  have m0 : (y : Int) * (W : Int) = (a : Int) := by rw [ha]; simp
  have m1 : ((y : Int) + 1) * (W : Int) = (a : Int) + W := by rw [Int.add_mul, m0]; omega
  have m2 : ((y : Int) - 1) * (W : Int) = (a : Int) - W := by rw [Int.sub_mul, m0]; omega
  rw [← ha] at hWu
  have hau : a ≤ u := by omega
  have HWU := hid hWu
  clear hx hy hu ha hWu
  have w1 : IntKind.i64.wrap (x : Int) = (x : Int) := by rw [IntKind.wrap_i64]; omega
  have w2 : IntKind.i64.wrap (y : Int) = (y : Int) := by rw [IntKind.wrap_i64]; omega
  obtain rfl | rfl | rfl | rfl : k = 0 ∨ k = 1 ∨ k = 2 ∨ k = 3 := by omega
  · by_cases h : x + 1 < W
    all_goals
      go_enter Try.func32, Try.ntmps32
      go_wp2_with fail
      go_quiet (fail)
      go_wp2_with fail
      all_goals first
        | (exfalso; omega)
        | (go_ret; exact ⟨ret_int (by have := HWU.out; first | omega | (simp; omega)), Joins.below_draws _ _ _⟩)
  · by_cases h : y + 1 < H
    all_goals
      go_enter Try.func32, Try.ntmps32
      go_wp2_with fail
      go_quiet (fail)
      go_wp2_with fail
      all_goals first
        | (exfalso; omega)
        | (go_ret; exact ⟨ret_int (by have := HWU.out; first | omega | (simp; omega)), Joins.below_draws _ _ _⟩)
  · by_cases h : 0 < x
    all_goals
      go_enter Try.func32, Try.ntmps32
      go_wp2_with fail
      go_quiet (fail)
      go_wp2_with fail
      all_goals first
        | (exfalso; omega)
        | (go_ret; exact ⟨ret_int (by have := HWU.out; first | omega | (simp; omega)), Joins.below_draws _ _ _⟩)
  · by_cases h : 0 < y
    all_goals
      go_enter Try.func32, Try.ntmps32
      go_wp2_with fail
      go_quiet (fail)
      go_wp2_with fail
      all_goals first
        | (exfalso; omega)
        | (go_ret; exact ⟨ret_int (by have := HWU.out; first | omega | (simp; omega)), Joins.below_draws _ _ _⟩)
end Go.Proofs.Ytngamphkehppfaa
