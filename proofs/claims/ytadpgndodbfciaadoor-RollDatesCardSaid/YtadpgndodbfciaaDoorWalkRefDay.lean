/-
  The walks of the reference's Day.
-/
import Derived.Test.YtadpgndodbfciaaDoorWalkDay
namespace Go.Proofs.YtadpgndodbfciaaDoor
open Go.RowKit

set_option maxHeartbeats 1600000 in
theorem refday_no (y m d : Int) (h : ¬ (Cal.ok y m d ∧ y ≤ 2173)) (w : World) : Calls Tryd.prog 32 #[.agg #[.int .i64 y, .int .i64 m, .int .i64 d]] w fun e w' => e = .returned (.tuple #[.int .i64 0, .int .i64 1]) ∧ Below w.heap.size w w' := by
  have hmn : ¬ (1 ≤ m ∧ m ≤ 12) → Cal.ml y m = 0 := Cal.ml_none
  have cases4 : y < 1900 ∨ (¬ y < 1900 ∧ 2173 < y) ∨ (¬ y < 1900 ∧ ¬ 2173 < y ∧ d < 1) ∨ (¬ y < 1900 ∧ ¬ 2173 < y ∧ ¬ d < 1 ∧ Cal.ml y m < d) := by unfold Cal.ok at h; omega
  clear h hmn
  rcases cases4 with h | ⟨h1, h⟩ | ⟨h1, h2, h⟩ | ⟨h1, h2, h3, h⟩
  · have g1 : decide (y < 1900) = true := by simpa using h
    go_enter Tryd.func32, Tryd.ntmps32
    go_wp2
    go_quiet (fail)
    go_wp2
    go_ret2
    exact ⟨rfl, drawn (Joins.below_alloc1 _ _) _⟩
  · have g1 : decide (y < 1900) = false := by simpa using h1
    have g2 : decide (2173 < y) = true := by simpa using h
    go_enter Tryd.func32, Tryd.ntmps32
    go_wp2
    go_quiet (fail)
    go_wp2
    go_ret2
    exact ⟨rfl, drawn (Joins.below_alloc1 _ _) _⟩
  · have g1 : decide (y < 1900) = false := by simpa using h1
    have g2 : decide (2173 < y) = false := by simpa using h2
    have g3 : decide (d < 1) = true := by simpa using h
    go_enter Tryd.func32, Tryd.ntmps32
    go_wp2
    go_quiet (fail)
    go_wp2
    go_ret2
    exact ⟨rfl, drawn (Joins.below_alloc1 _ _) _⟩
  · have g1 : decide (y < 1900) = false := by simpa using h1
    have g2 : decide (2173 < y) = false := by simpa using h2
    have g3 : decide (d < 1) = false := by simpa using h3
    go_enter Tryd.func32, Tryd.ntmps32
    go_wp2
    go_quiet ((go_at_call 40; exact quiet_eq (days_any _ _ (by omega) _)))
    go_wp2
    go_ret2
    exact ⟨rfl, drawn (Joins.below_alloc1 _ _) _⟩

set_option maxHeartbeats 1600000 in
theorem refday_yes (y m d : Int) (h : Cal.ok y m d) (hy : y ≤ 2173) (w : World) : Calls Tryd.prog 32 #[.agg #[.int .i64 y, .int .i64 m, .int .i64 d]] w fun e w' =>
    e = .returned (.tuple #[.int .i64 (Cal.dayV (Cal.num y m d)), .int .i64 (Cal.dayE (Cal.num y m d))]) ∧ Below w.heap.size w w' := by
  have hnb := Cal.num_bd h hy
  have hml := Cal.ml_bd y m
  obtain ⟨h1, h2, h3, h4, h5⟩ := h
  have hdy := Cal.dby_bd y h1 (by omega)
  have g1 : decide (y < 1900) = false := by simpa using h1
  have g2 : decide (2173 < y) = false := by simpa using hy
  have g3 : decide (d < 1) = false := by simpa using h4
  go_enter Tryd.func32, Tryd.ntmps32
  go_wp2
  go_quiet ((go_at_call 40; exact quiet_eq (days_any _ _ (by omega) _)))
  go_wp2
  go_loop [4, 5] (fun t k => ∃ x : Int, 1900 ≤ x ∧ x ≤ y ∧ t = .int .i64 (d - 1 + Cal.dby x) ∧ k = .int .i64 x) (fun _ k => (y - intOf k).toNat)
  case atStart => exact ⟨1900, by omega, by omega, by rw [Cal.dby_start]; simp, rfl⟩
  case round =>
    obtain ⟨x, hx1, hx2, rfl, rfl⟩ := hrel
    have hdb := Cal.dby_bd x hx1 (by omega)
    have hyl := Cal.yl_bd x
    by_cases hlt : x < y
    · by_cases hl : Cal.leapB x = true
      · go_wp2_with (go_at_call 39; refine (long_any _ (by omega) _).mono ?_; rintro e w' ⟨rfl, rfl⟩)
        have hs := Cal.dby_succ x
        have hlp := Cal.lp_t hl
        have hyv : Cal.yl x = 365 + Cal.lp x := rfl
        go_round
        case rel => exact ⟨x + 1, by omega, by omega, by rw [hs, hyv, hlp]; go_num, by go_num⟩
        case measure => simp [intOf]; omega
      · rw [Bool.not_eq_true] at hl
        go_wp2_with (go_at_call 39; refine (long_any _ (by omega) _).mono ?_; rintro e w' ⟨rfl, rfl⟩)
        have hs := Cal.dby_succ x
        have hlp := Cal.lp_f hl
        have hyv : Cal.yl x = 365 + Cal.lp x := rfl
        go_round
        case rel => exact ⟨x + 1, by omega, by omega, by rw [hs, hyv, hlp]; go_num, by go_num⟩
        case measure => simp [intOf]; omega
    · obtain rfl : x = y := by omega
      go_wp2
      go_loop [4, 6] (fun t k => ∃ z : Int, 1 ≤ z ∧ z ≤ m ∧ t = .int .i64 (d - 1 + Cal.dby x + Cal.cum x z) ∧ k = .int .i64 z) (fun _ k => (m - intOf k).toNat)
      case atStart => exact ⟨1, by omega, by omega, by rw [Cal.cum_one]; simp, rfl⟩
      case round =>
        obtain ⟨z, hz1, hz2, rfl, rfl⟩ := hrel
        have hcb := Cal.cum_bd x z hz1 (by omega)
        have hmz := Cal.ml_bd x z
        by_cases hlz : z < m
        · go_wp2_with (go_at_call 40; refine (days_any _ _ (by omega) _).mono ?_; rintro e w' ⟨rfl, rfl⟩)
          have hs := Cal.cum_succ x z hz1 (by omega)
          go_round
          case rel => exact ⟨z + 1, by omega, by omega, by rw [hs]; go_num, by go_num⟩
          case measure => simp [intOf]; omega
        · obtain rfl : z = m := by omega
          have HN : Hid (Cal.num x z d = d - 1 + Cal.dby x + Cal.cum x z) := hid (by unfold Cal.num; omega)
          go_wp2
          all_goals go_ret2
          · have hgt := Cal.dayV_t (show 100000 < Cal.num x z d by rw [HN.out]; assumption)
            exact ⟨by rw [hgt.1, hgt.2]; rfl, drawn (Joins.below_alloc1 _ _) _⟩
          · have hgt := Cal.dayV_f (show ¬ 100000 < Cal.num x z d by rw [HN.out]; omega)
            exact ⟨by rw [hgt.1, hgt.2, HN.out]; rfl, drawn (Joins.below_alloc1 _ _) _⟩

end Go.Proofs.YtadpgndodbfciaaDoor
