/-
  Two lists with the same parcels.
-/
import Derived.Test.YtnfcibcpmaehoaaQRow
namespace Go.Proofs.Ytnfcibcpmaehoaa
open Go.RowKit

set_option maxHeartbeats 1600000 in
theorem parcels_same (n : Nat) (L : Nat → Par) (B B' : Nat) (v v' : Value) (w : World) (hl : n ≤ 100000) (h : RowP w B v n L) (h' : RowP w B' v' n L) :
    Calls Try.prog 26 #[v, v'] w fun e w' => e = .returned (.bool true) ∧ Below w.heap.size w w' := by
  by_cases h0 : n = 0
  · obtain ⟨ao, cap, rfl⟩ := row_slice h
    obtain ⟨bo, cap', rfl⟩ := row_slice h'
    subst h0
    clear h h'
    go_enter Try.func26, Try.ntmps26
    go_wp2
    refine wp_loop_rounds 1 ?_
    rw [rounds_succ]
    go_wp2
    go_ret
    exact ⟨rfl, Below.refl _ _⟩
  · obtain ⟨g, cap, rfl, hg, hg'⟩ := h.form (by omega)
    obtain ⟨k, cap', rfl, hk, hk'⟩ := h'.form (by omega)
    have H := hid h
    have H' := hid h'
    clear h h'
    go_enter Try.func26, Try.ntmps26
    go_wp2
    go_loopw [5] (fun iv wr => ∃ (j k : Nat), j ≤ n ∧ iv = .int .i64 j ∧ wr = w.drewN k) (fun iv _ => n - (intOf iv).toNat)
    case atStart => exact ⟨0, 0, Nat.zero_le _, rfl, rfl⟩
    case round =>
      obtain ⟨j, q, hj, rfl, rfl⟩ := hrel
      by_cases hlt : j < n
      · obtain ⟨c0, c1, c2, c3, c4, c5⟩ := RowP.cell H.out hlt
        obtain ⟨d0, d1, d2, d3, d4, d5⟩ := RowP.cell H'.out hlt
        generalize (L j).k = x0 at c0 d0
        generalize (L j).f = x1 at c1 d1
        generalize (L j).t = x2 at c2 d2
        generalize (L j).a = x3 at c3 d3
        generalize (L j).c = x4 at c4 d4
        generalize (L j).s = x5 at c5 d5
        have b1 : (j : Int) < (n : Int) := by omega
        have b2 : (0 : Int) ≤ (j : Int) := by omega
        go_wp2
        go_quiet (fail)
        go_wp2
        go_roundw
        case rel => exact ⟨j + 1, _, by omega, by go_num, rfl⟩
        case measure => simp [intOf]; omega
      · go_wp2
        go_ret
        exact ⟨rfl, Joins.below_draws _ _ _⟩
end Go.Proofs.Ytnfcibcpmaehoaa
