/-
  What a chart's functions find in memory; the walks of beyond and facing of the program's blocks.
-/
import Derived.Test.YtbfpcolkbfljoaaDoorBFind
import Derived.Test.YtbfpcolkbfljoaaDoorRWalkFol
namespace Go.Proofs.YtbfpcolkbfljoaaDoor
open Go.RowKit

/-- Rails and signals on them, as they lie in memory. -/
structure Rl where
  (W H : Int)
  (n cap m bcap l lcap : Nat)
  (ao bo lo : Option Addr)
  Z : Nat → Int
  B : Nat → Bool
  S : Nat → Sg
abbrev Rl.as (d : Rl) : Value := .slice d.ao d.n d.cap
abbrev Rl.bs (d : Rl) : Value := .slice d.bo d.m d.bcap
abbrev Rl.ls (d : Rl) : Value := .slice d.lo d.l d.lcap
abbrev Rl.rv (d : Rl) : Value := .agg #[.int .i64 d.W, .int .i64 d.H, d.as, d.bs]
abbrev Rl.cht (d : Rl) (fv mp : Value) : Value := .agg #[.int .i64 d.W, .int .i64 d.H, d.as, d.bs, fv, mp]
structure Has (d : Rl) (w : World) : Prop where
  tab : Tab w
  ints : Ints w d.ao d.n d.Z
  bools : Bools w d.bo d.m d.B
  sigs : SigsAt w d.lo d.l d.S
theorem Has.stays {d : Rl} {w w' : World} (h : Has d w) (k : Below w.heap.size w w') : Has d w' := ⟨h.tab.stays k, h.ints.stays k, h.bools.stays k, h.sigs.stays k⟩
/-- Rails and signals are right. -/
structure Gd (d : Rl) : Prop where
  right : Right d.W d.H d.n d.m d.Z d.B
  ok : SOk d.l d.S
  stand : Stand d.n d.Z d.l d.S
theorem Gd.sized {d : Rl} (h : Gd d) : Sized d.W d.H := h.right.sized
theorem Gd.fine {d : Rl} (h : Gd d) : ∀ i, i < d.n → 0 ≤ d.Z i ∧ d.Z i ≤ 63 := fun i hi => ⟨(h.right.fine i hi).1, (h.right.fine i hi).2.1⟩
theorem Gd.small {d : Rl} (h : Gd d) : 16 ≤ d.n ∧ d.n ≤ 1024 := by
  have := h.right.sized.bound
  have e := h.right.sets
  omega

set_option maxHeartbeats 6400000 in
theorem bbeyond_any (W H t s b : Int) (v u : Value) (hs : Sized W H) (h0 : 0 ≤ t) (h1 : t < W * H) (hs0 : 0 ≤ s) (hs3 : s ≤ 3) (hb : bey W H t s = b) (w : World) :
    Calls Tryd.prog 126 #[rv W H v u, .int .i64 t, .int .i64 s] w fun e w' => e = .returned (.int .i64 b) ∧ Below w.heap.size w w' := by
  obtain ⟨⟨hx0, hx1⟩, ⟨hy0, hy1⟩, _⟩ := split_tile hs h0 h1
  unfold bey at hb
  have e1 : Int.tmod t W = t % W := Int.tmod_eq_emod_of_nonneg h0
  have e2 : Int.tdiv t W = t / W := Int.tdiv_eq_ediv_of_nonneg h0
  have HS := hid hs
  obtain ⟨⟨w1, w2⟩, w3, w4⟩ := hs
  obtain ⟨x, hx⟩ : ∃ x, t % W = x := ⟨_, rfl⟩
  obtain ⟨y, hy⟩ : ∃ y, t / W = y := ⟨_, rfl⟩
  rw [hx] at hx0 hx1 hb e1
  rw [hy] at hy0 hy1 hb e2
  obtain ⟨m1, m2, m3⟩ := row_bd HS.out hy0 hy1
  have HB := hid hb
  have HW := hid (Joins.below_alloc1 w (.cells #[.int .i64 W, .int .i64 H, v, u] 25))
  clear hb h1 m2
  rcases (show s = 0 ∨ s = 1 ∨ s = 2 ∨ s = 3 by omega) with rfl | rfl | rfl | rfl
  · have HE : Hid (b = if x + 1 < W then y * W + (x + 1) else -1) := hid HB.out.symm
    clear hs0 hs3 HB
    by_cases hc : x + 1 < W
    · have g1 : decide (x + 1 < 0) = false := by simp; omega
      have g2 : decide (W ≤ x + 1) = false := by simp; omega
      have g3 : decide (y < 0) = false := by simp; omega
      have g4 : decide (H ≤ y) = false := by simp; omega
      go_enter Tryd.func126, Tryd.ntmps126
      go_wp2_with fail
      go_quiet (fail)
      go_wp2_with fail
      go_ret
      exact ⟨ret_int (by rw [HE.out, if_pos (by omega)]), HW.out.trans (Joins.below_draws _ _ _)⟩
    · have g1 : decide (x + 1 < 0) = false := by simp; omega
      have g2 : decide (W ≤ x + 1) = true := by simp; omega
      go_enter Tryd.func126, Tryd.ntmps126
      go_wp2_with fail
      go_quiet (fail)
      go_wp2_with fail
      go_ret
      exact ⟨ret_int (by rw [HE.out, if_neg (by omega)]), HW.out.trans (Joins.below_draws _ _ _)⟩
  · have HE : Hid (b = if y + 1 < H then (y + 1) * W + x else -1) := hid HB.out.symm
    clear hs0 hs3 HB
    have g1 : decide (x < 0) = false := by simp; omega
    have g2 : decide (W ≤ x) = false := by simp; omega
    have g3 : decide (y + 1 < 0) = false := by simp; omega
    by_cases hc : y + 1 < H
    · obtain ⟨k1, k2, k3⟩ := row_bd (y := y + 1) HS.out (by omega) hc
      clear k2
      have g4 : decide (H ≤ y + 1) = false := by simp; omega
      go_enter Tryd.func126, Tryd.ntmps126
      go_wp2_with fail
      go_quiet (fail)
      go_wp2_with fail
      go_ret
      exact ⟨ret_int (by rw [HE.out, if_pos (by omega)]), HW.out.trans (Joins.below_draws _ _ _)⟩
    · have g4 : decide (H ≤ y + 1) = true := by simp; omega
      go_enter Tryd.func126, Tryd.ntmps126
      go_wp2_with fail
      go_quiet (fail)
      go_wp2_with fail
      go_ret
      exact ⟨ret_int (by rw [HE.out, if_neg (by omega)]), HW.out.trans (Joins.below_draws _ _ _)⟩
  · have HE : Hid (b = if 0 < x then y * W + (x - 1) else -1) := hid HB.out.symm
    clear hs0 hs3 HB
    by_cases hc : 0 < x
    · have g1 : decide (x - 1 < 0) = false := by simp; omega
      have g2 : decide (W ≤ x - 1) = false := by simp; omega
      have g3 : decide (y < 0) = false := by simp; omega
      have g4 : decide (H ≤ y) = false := by simp; omega
      go_enter Tryd.func126, Tryd.ntmps126
      go_wp2_with fail
      go_quiet (fail)
      go_wp2_with fail
      go_ret
      exact ⟨ret_int (by rw [HE.out, if_pos (by omega)]), HW.out.trans (Joins.below_draws _ _ _)⟩
    · have g1 : decide (x - 1 < 0) = true := by simp; omega
      go_enter Tryd.func126, Tryd.ntmps126
      go_wp2_with fail
      go_quiet (fail)
      go_wp2_with fail
      go_ret
      exact ⟨ret_int (by rw [HE.out, if_neg (by omega)]), HW.out.trans (Joins.below_draws _ _ _)⟩
  · have HE : Hid (b = if 0 < y then (y - 1) * W + x else -1) := hid HB.out.symm
    clear hs0 hs3 HB
    have g1 : decide (x < 0) = false := by simp; omega
    have g2 : decide (W ≤ x) = false := by simp; omega
    by_cases hc : 0 < y
    · obtain ⟨k1, k2, k3⟩ := row_bd (y := y - 1) HS.out (by omega) (by omega)
      clear k2
      have g3 : decide (y - 1 < 0) = false := by simp; omega
      have g4 : decide (H ≤ y - 1) = false := by simp; omega
      go_enter Tryd.func126, Tryd.ntmps126
      go_wp2_with fail
      go_quiet (fail)
      go_wp2_with fail
      go_ret
      exact ⟨ret_int (by rw [HE.out, if_pos (by omega)]), HW.out.trans (Joins.below_draws _ _ _)⟩
    · have g3 : decide (y - 1 < 0) = true := by simp; omega
      go_enter Tryd.func126, Tryd.ntmps126
      go_wp2_with fail
      go_quiet (fail)
      go_wp2_with fail
      go_ret
      exact ⟨ret_int (by rw [HE.out, if_neg (by omega)]), HW.out.trans (Joins.below_draws _ _ _)⟩
end Go.Proofs.YtbfpcolkbfljoaaDoor
