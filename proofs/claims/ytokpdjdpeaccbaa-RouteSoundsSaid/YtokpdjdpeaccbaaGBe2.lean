/-
  The walk of better, put together.
-/
import Derived.Test.YtokpdjdpeaccbaaGBet
namespace Go.Proofs.Ytokpdjdpeaccbaa
open Go.RowKit

theorem lb_start (a b : Wy) (w : World) : LB a b w none none ((w.alloc (.cells #[.int .i64 a.nd, .int .i64 a.co, .int .i64 a.ns, .int .i64 a.nx] 68)).alloc (.cells #[.int .i64 b.nd, .int .i64 b.co, .int .i64 b.ns, .int .i64 b.nx] 68)) :=
  ⟨bx2_start w _ _ _ _, fun p e => (by cases e), fun p e => (by cases e), fun p q e => (by cases e)⟩
theorem LB.tri {a b : Wy} {w wr : World} {x y : Nat} (h : LB a b w (some (x, 1)) (some (y, 1)) wr) : BT a b w wr x y where
  hx j hj := by
    have h1 := cell_of_row wr x j _ _ _ (h.h5 _ rfl).1
    rw [h1]
    have : j = 0 ∨ j = 1 ∨ j = 2 := by omega
    rcases this with rfl | rfl | rfl <;> rfl
  hy j hj := by
    have h1 := cell_of_row wr y j _ _ _ (h.h6 _ rfl).1
    rw [h1]
    have : j = 0 ∨ j = 1 ∨ j = 2 := by omega
    rcases this with rfl | rfl | rfl <;> rfl
  below := h.bx.below
def BetPost (a b : Wy) (w : World) (e : Ending) (w' : World) : Prop := e = .returned (.bool (decide (lt3 a.rk b.rk))) ∧ Below w.heap.size w w'
set_option maxHeartbeats 3200000 in
theorem better_gen (a b : Wy) (w : World) : Calls Try.prog 46 #[wv a, wv b] w (BetPost a b w) := by
  have h0 := hid (lb_start a b w)
  go_enter Try.func46, Try.ntmps46
  go_wp2
  refine bet_region a b w _ h0.out _ (fun wr x5 x6 HF => ?_)
  have HT := hid HF.tri
  clear HF h0
  go_wp2_with fail
  go_region_held3 (fun w' => w' = wr.drew)
    (first | rfl | assumption)
    (first
      | (go_at_call 68; (refine (compare_any x5 x6 (kX a) (kX b) _ ?_ ?_).mono ?_); (intro j hj; exact HT.out.hx j hj); (intro j hj; exact HT.out.hy j hj); rintro e w' ⟨r, hr, rfl, rfl⟩))
  have HR := hid hr
  clear hr
  obtain ⟨q, hq⟩ : ∃ q, q = decide (r < 0) := ⟨_, rfl⟩
  have HQ : Hid (q = decide (lt3 a.rk b.rk)) := hid (by rw [hq]; exact decide_eq_decide.2 (cmp_of HR.out))
  clear HR
  go_wp2_with fail
  go_ret
  exact ⟨ret_bool (a := decide (r < 0)) (hq.symm.trans HQ.out), HT.out.below.drew⟩
theorem better_yes {a b : Wy} (h : lt3 a.rk b.rk) (w : World) : Calls Try.prog 46 #[wv a, wv b] w fun e w' => e = .returned (.bool true) ∧ Below w.heap.size w w' :=
  (better_gen a b w).mono fun e w' hp => ⟨hp.1.trans (by simp [h]), hp.2⟩
theorem better_no {a b : Wy} (h : ¬ lt3 a.rk b.rk) (w : World) : Calls Try.prog 46 #[wv a, wv b] w fun e w' => e = .returned (.bool false) ∧ Below w.heap.size w w' :=
  (better_gen a b w).mono fun e w' hp => ⟨hp.1.trans (by simp [h]), hp.2⟩
theorem better_is {a b : Wy} (q : Bool) (h : decide (lt3 a.rk b.rk) = q) (w : World) : Calls Try.prog 46 #[wv a, wv b] w fun e w' => e = .returned (.bool q) ∧ Below w.heap.size w w' :=
  (better_gen a b w).mono fun e w' hp => ⟨hp.1.trans (by rw [h]), hp.2⟩
end Go.Proofs.Ytokpdjdpeaccbaa
