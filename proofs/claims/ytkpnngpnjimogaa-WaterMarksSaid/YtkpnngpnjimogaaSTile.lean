/-
  The walks of small callees: whether there is a tile, where its corners stand; the box of a land.
-/
import Derived.Test.YtkpnngpnjimogaaSV2
import Derived.Test.YtkpnngpnjimogaaSGood
import Derived.Lib.SliceRun
namespace Go.Proofs.Ytkpnngpnjimogaa
open Go.RowKit

/-- Is there such a tile? -/
def tileB (W H : Nat) (t : Int) : Bool := decide (0 ≤ t) && decide (t < ((W * H : Nat) : Int))
/-- The north-west corner of a tile. -/
def nw (W t : Nat) : Nat := t / W * (W + 1) + t % W

theorem mulInt (W H : Nat) : (W : Int) * (H : Int) = ((W * H : Nat) : Int) := by simp
theorem mul_small {W H : Nat} (hW : W ≤ 32) (hH : H ≤ 32) : W * H ≤ 1024 := Nat.mul_le_mul hW hH
set_option maxHeartbeats 800000 in
theorem isTile_any (W H : Nat) (hW : W ≤ 32) (hH : H ≤ 32) (s : Value) (t : Int) (w : World) : Calls Try.prog 111 #[lv W H s, .int .i64 t] w fun r w' => r = .returned (.bool (tileB W H t)) ∧ w.alloc (.cells #[.int .i64 W, .int .i64 H, s] 24) = w' := by
  obtain ⟨m, hm⟩ : ∃ m, m = W * H := ⟨_, rfl⟩
  have e1 : (W : Int) * (H : Int) = (m : Int) := by rw [hm]; simp
  have hm2 : m ≤ 1024 := by rw [hm]; exact mul_small hW hH
  unfold tileB
  rw [← hm]
  clear hm
  by_cases h : 0 ≤ t
  · go_enter Try.func111, Try.ntmps111
    go_wp2
    go_ret
    exact ⟨ret_bool (by simp [h]), rfl⟩
  · go_enter Try.func111, Try.ntmps111
    go_wp2
    go_ret
    exact ⟨ret_bool (by simp; omega), rfl⟩
/-- A tile's four corners, as a value. -/
abbrev four (W t : Nat) : Value := .agg #[.int .i64 (nw W t : Nat), .int .i64 (nw W t + 1 : Nat), .int .i64 (nw W t + W + 2 : Nat), .int .i64 (nw W t + W + 1 : Nat)]
theorem nw_lt {W H t : Nat} (ht : t < W * H) : nw W t + W + 2 < (W + 1) * (H + 1) := by
  unfold nw
  have hW : 0 < W := by rcases Nat.eq_zero_or_pos W with h | h; · subst h; simp at ht
                        · exact h
  have h1 : t / W < H := Nat.div_lt_of_lt_mul ht
  have h2 := Nat.mod_lt t hW
  have h3 : (t / W + 2) * (W + 1) ≤ (H + 1) * (W + 1) := Nat.mul_le_mul_right _ (by omega)
  rw [Nat.add_mul] at h3
  rw [Nat.mul_comm (W + 1)]; omega

set_option maxHeartbeats 1600000 in
theorem places_any (W H : Nat) (hW1 : 1 ≤ W) (hW : W ≤ 32) (hH : H ≤ 32) (s : Value) (t : Nat) (ht : t < W * H) (w : World) : Calls Try.prog 113 #[lv W H s, .int .i64 t] w fun r w' => r = .returned (four W t) ∧ Below w.heap.size w w' := by
  have hb := nw_lt ht
  have hc : (W + 1) * (H + 1) ≤ 1089 := Nat.mul_le_mul (show W + 1 ≤ 33 by omega) (show H + 1 ≤ 33 by omega)
  have ht2 : t ≤ 1024 := by have := mul_small hW hH; omega
  obtain ⟨u, hu⟩ : ∃ u, u = t % W := ⟨_, rfl⟩
  obtain ⟨v, hv⟩ : ∃ v, v = t / W := ⟨_, rfl⟩
  obtain ⟨a, ha⟩ : ∃ a, a = v * (W + 1) := ⟨_, rfl⟩
  have e1 : (t : Int) / (W : Int) = (v : Int) := by rw [hv]; simp
  have e2 : (t : Int) % (W : Int) = (u : Int) := by rw [hu]; simp
  have e3 : (v : Int) * ((W : Int) + 1) = (a : Int) := by rw [ha]; simp
  have hn : nw W t = a + u := by unfold nw; rw [← hu, ← hv, ← ha]
  have HN := hid hn
  have hv2 : v ≤ 1024 := by rw [hv]; exact Nat.le_trans (Nat.div_le_self _ _) ht2
  have hb2 : a + u + W + 2 < 1089 := by omega
  clear hb hc ht hn hu hv ha
  have w1 : IntKind.i64.wrap (v : Int) = (v : Int) := by rw [IntKind.wrap_i64]; omega
  have w2 : IntKind.i64.wrap (a : Int) = (a : Int) := by rw [IntKind.wrap_i64]; omega
  have w3 : IntKind.i64.wrap ((a : Int) + (u : Int)) = (a : Int) + (u : Int) := by rw [IntKind.wrap_i64]; omega
  go_enter Try.func113, Try.ntmps113
  go_wp2_with fail
  go_quiet (fail)
  go_wp2
  refine bodyPost_ret (v := four W t) (by unfold four; rw [HN.out]; simp [results, Try.results113, go_sem]; try omega) rfl ⟨rfl, ?_⟩
  exact ((((((Joins.below_alloc2 _ _ _).trans (Joins.below_draws _ _ _)).setCell (Nat.le_succ _) _).setCell (Nat.le_succ _) _).setCell (Nat.le_succ _) _).setCell (Nat.le_succ _) _)
/-- The box of a law's land, behind whatever calls. -/
structure LB (W H : Int) (ao : Option Addr) (n cap : Nat) (Z : Nat → Int) (w wr : World) : Prop where
  below : Below w.heap.size w wr
  size : w.heap.size < wr.heap.size
  c0 : wr.cell? ⟨w.heap.size, 0, none⟩ = some (.int .i64 W)
  c1 : wr.cell? ⟨w.heap.size, 1, none⟩ = some (.int .i64 H)
  c2 : wr.cell? ⟨w.heap.size, 2, none⟩ = some (.slice ao n cap)
  ints : Ints wr ao n Z
theorem LB.stays {W H : Int} {ao : Option Addr} {n cap : Nat} {Z : Nat → Int} {w wr w' : World} (h : LB W H ao n cap Z w wr) (k : Below wr.heap.size wr w') : LB W H ao n cap Z w w' :=
  ⟨step h.below k, Nat.lt_of_lt_of_le h.size k.size, (k.cell (p := ⟨w.heap.size, 0, none⟩) h.size).trans h.c0, (k.cell (p := ⟨w.heap.size, 1, none⟩) h.size).trans h.c1, (k.cell (p := ⟨w.heap.size, 2, none⟩) h.size).trans h.c2, h.ints.stays k⟩
theorem lb_start {W H : Int} {ao : Option Addr} {n cap : Nat} {Z : Nat → Int} {w : World} (hI : Ints w ao n Z) : LB W H ao n cap Z w (w.alloc (.cells #[.int .i64 W, .int .i64 H, .slice ao n cap] 24)) :=
  ⟨Joins.below_alloc1 _ _, by simp, by simp, by simp, by simp, hI.stays (Joins.below_alloc1 _ _)⟩

theorem LB.drew {W H : Int} {ao : Option Addr} {n cap : Nat} {Z : Nat → Int} {w wr : World} (h : LB W H ao n cap Z w wr) : LB W H ao n cap Z w wr.drew := h.stays ((Below.refl _ _).drew)
theorem ix0 (a b c d : Int) (w : World) : (Instr.index 98 (.agg #[.int .i64 a, .int .i64 b, .int .i64 c, .int .i64 d]) (.int .i64 0)).run Try.prog w = .ok (.int .i64 a) w := by kernel_rfl
theorem ix1 (a b c d : Int) (w : World) : (Instr.index 98 (.agg #[.int .i64 a, .int .i64 b, .int .i64 c, .int .i64 d]) (.int .i64 1)).run Try.prog w = .ok (.int .i64 b) w := by kernel_rfl
theorem ix2 (a b c d : Int) (w : World) : (Instr.index 98 (.agg #[.int .i64 a, .int .i64 b, .int .i64 c, .int .i64 d]) (.int .i64 2)).run Try.prog w = .ok (.int .i64 c) w := by kernel_rfl
theorem ix3 (a b c d : Int) (w : World) : (Instr.index 98 (.agg #[.int .i64 a, .int .i64 b, .int .i64 c, .int .i64 d]) (.int .i64 3)).run Try.prog w = .ok (.int .i64 d) w := by kernel_rfl
end Go.Proofs.Ytkpnngpnjimogaa
