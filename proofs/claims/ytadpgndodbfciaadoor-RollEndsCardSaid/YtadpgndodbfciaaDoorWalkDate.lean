/-
  The walks of Date, Day and Ends, of the program and of the reference.
-/
import Derived.Test.YtadpgndodbfciaaDoorWalkCal
namespace Go.Proofs.YtadpgndodbfciaaDoor
open Go.RowKit

/-- The call hands back the date of the day n. -/
def DateIs (n : Int) (w : World) (e : Ending) (w' : World) : Prop :=
  ∃ y m d : Int, Cal.ok y m d ∧ Cal.num y m d = n ∧ e = .returned (.tuple #[.agg #[.int .i64 y, .int .i64 m, .int .i64 d], .int .i64 0]) ∧ Below w.heap.size w w'

set_option maxHeartbeats 400000 in
theorem date_no (n : Int) (h : n < 0 ∨ 100000 < n) (w : World) : Calls Tryd.prog 30 #[.int .i64 n] w fun e w' => e = .returned (.tuple #[.agg #[.int .i64 0, .int .i64 0, .int .i64 0], .int .i64 1]) ∧ Below w.heap.size w w' := by
  rcases h with h | h
  · go_enter Tryd.func30, Tryd.ntmps30
    go_wp2
    exact bodyPost_ret (v := .tuple #[.agg #[.int .i64 0, .int .i64 0, .int .i64 0], .int .i64 1]) (by simp [results, Tryd.results30, go_sem]) rfl ⟨rfl, (Below.refl _ _).alloc (Nat.le_refl _) _⟩
  · have h' : ¬ n < 0 := by omega
    go_enter Tryd.func30, Tryd.ntmps30
    go_wp2
    exact bodyPost_ret (v := .tuple #[.agg #[.int .i64 0, .int .i64 0, .int .i64 0], .int .i64 1]) (by simp [results, Tryd.results30, go_sem]) rfl ⟨rfl, (Below.refl _ _).alloc (Nat.le_refl _) _⟩

set_option maxHeartbeats 800000 in
theorem date_yes (n : Int) (h0 : 0 ≤ n) (h1 : n ≤ 100000) (w : World) (hT : Tab w) : Calls Tryd.prog 30 #[.int .i64 n] w (DateIs n w) := by
  have hT2 : ∀ y m : Int, Tab ((w.alloc (.cells #[.int .i64 0, .int .i64 0, .int .i64 0] 47)).alloc (.cells #[.int .i64 y, .int .i64 m, .int .i64 0] 47)) := fun y m => hT.stays (Joins.below_alloc2 _ _ _)
  have HT2 : Hid _ := hT2
  clear hT2
  go_enter Tryd.func30, Tryd.ntmps30
  go_wp2
  go_loopw [0] (fun t wr => ∃ y : Int, 1900 ≤ y ∧ y ≤ 2173 ∧ Cal.dby y ≤ n ∧ t = .int .i64 (n - Cal.dby y) ∧
      wr = (w.alloc (.cells #[.int .i64 0, .int .i64 0, .int .i64 0] 47)).alloc (.cells #[.int .i64 y, .int .i64 1, .int .i64 0] 47)) (fun t _ => (intOf t).toNat)
  case atStart => exact ⟨1900, by omega, by omega, by rw [Cal.dby_start]; exact h0, by rw [Cal.dby_start]; simp, rfl⟩
  case round =>
    obtain ⟨y, hy1, hy2, hd, rfl, rfl⟩ := hrel
    have hyl := Cal.yl_bd y
    have hdb := Cal.dby_bd y hy1 (by omega)
    by_cases hc : Cal.yl y ≤ n - Cal.dby y
    · have hy3 : y ≤ 2172 := by
        by_cases h : y = 2173
        · subst h; have := Cal.dby_succ 2173; have := Cal.dby_end (y := 2173 + 1) (by omega); omega
        · omega
      go_wp2_with (go_at_call 41; refine (daysOfYear_any _ (by omega) _).mono ?_; rintro e w' ⟨rfl, rfl⟩)
      have hs := Cal.dby_succ y
      go_roundw
      case rel => exact ⟨y + 1, by omega, by omega, by omega, by rw [hs]; go_num, rfl⟩
      case measure => simp [intOf]; omega
    · go_wp2_with (go_at_call 41; refine (daysOfYear_any _ (by omega) _).mono ?_; rintro e w' ⟨rfl, rfl⟩)
      go_loopw [0] (fun t wr => ∃ m : Int, 1 ≤ m ∧ m ≤ 12 ∧ 0 ≤ n - Cal.dby y - Cal.cum y m ∧ t = .int .i64 (n - Cal.dby y - Cal.cum y m) ∧
          wr = (w.alloc (.cells #[.int .i64 0, .int .i64 0, .int .i64 0] 47)).alloc (.cells #[.int .i64 y, .int .i64 m, .int .i64 0] 47)) (fun t _ => (intOf t).toNat)
      case atStart => exact ⟨1, by omega, by omega, by rw [Cal.cum_one]; omega, by rw [Cal.cum_one]; simp, rfl⟩
      case round =>
        obtain ⟨m, hm1, hm2, hr, rfl, rfl⟩ := hrel
        have hml := Cal.ml_bd y m
        have hmp := Cal.ml_pos y m hm1 hm2
        have hcb := Cal.cum_bd y m hm1 (by omega)
        by_cases hk : Cal.ml y m ≤ n - Cal.dby y - Cal.cum y m
        · have hm3 : m ≤ 11 := by
            by_cases h : m = 12
            · subst h; have := Cal.cum_succ y 12 (by omega) (by omega); have := Cal.cum_end y; simp only [Int.reduceAdd] at *; omega
            · omega
          go_wp2_with (go_at_call 42; refine (daysOfMonth_any _ _ (by omega) (by omega) (by omega) _ (HT2.out _ _)).mono ?_; rintro e w' ⟨rfl, rfl⟩)
          have hs := Cal.cum_succ y m hm1 hm2
          go_roundw
          case rel => exact ⟨m + 1, by omega, by omega, by omega, by rw [hs]; go_num, rfl⟩
          case measure => simp [intOf]; omega
        · go_wp2_with (go_at_call 42; refine (daysOfMonth_any _ _ (by omega) (by omega) (by omega) _ (HT2.out _ _)).mono ?_; rintro e w' ⟨rfl, rfl⟩)
          refine bodyPost_ret (v := .tuple #[.agg #[.int .i64 y, .int .i64 m, .int .i64 (n - Cal.dby y - Cal.cum y m + 1)], .int .i64 0]) (by simp [results, Tryd.results30, go_sem]) rfl ⟨y, m, _, ⟨hy1, hm1, hm2, by omega, by omega⟩, by unfold Cal.num; omega, rfl, ?_⟩
          exact Joins.below_alloc2 _ _ _

set_option maxHeartbeats 400000 in
theorem refdate_no (n : Int) (h : n < 0 ∨ 100000 < n) (w : World) : Calls Tryd.prog 29 #[.int .i64 n] w fun e w' => e = .returned (.tuple #[.agg #[.int .i64 0, .int .i64 0, .int .i64 0], .int .i64 1]) ∧ Below w.heap.size w w' := by
  rcases h with h | h
  · go_enter Tryd.func29, Tryd.ntmps29
    go_wp2
    exact bodyPost_ret (v := .tuple #[.agg #[.int .i64 0, .int .i64 0, .int .i64 0], .int .i64 1]) (by simp [results, Tryd.results29, go_sem]) rfl ⟨rfl, (Below.refl _ _).alloc (Nat.le_refl _) _⟩
  · have h' : ¬ n < 0 := by omega
    go_enter Tryd.func29, Tryd.ntmps29
    go_wp2
    exact bodyPost_ret (v := .tuple #[.agg #[.int .i64 0, .int .i64 0, .int .i64 0], .int .i64 1]) (by simp [results, Tryd.results29, go_sem]) rfl ⟨rfl, (Below.refl _ _).alloc (Nat.le_refl _) _⟩

set_option maxHeartbeats 1600000 in
theorem refdate_yes (n : Int) (h0 : 0 ≤ n) (h1 : n ≤ 100000) (w : World) : Calls Tryd.prog 29 #[.int .i64 n] w (DateIs n w) := by
  go_enter Tryd.func29, Tryd.ntmps29
  go_wp2
  go_loop [0, 4] (fun t yy => ∃ y : Int, 1900 ≤ y ∧ y ≤ 2173 ∧ Cal.dby y ≤ n ∧ t = .int .i64 (n - Cal.dby y) ∧ yy = .int .i64 y) (fun t _ => (intOf t).toNat)
  case atStart => exact ⟨1900, by omega, by omega, by rw [Cal.dby_start]; exact h0, by rw [Cal.dby_start]; simp, rfl⟩
  case round =>
    obtain ⟨y, hy1, hy2, hd, rfl, rfl⟩ := hrel
    have hyl := Cal.yl_bd y
    have hdb := Cal.dby_bd y hy1 (by omega)
    by_cases hl : Cal.leapB y = true
    all_goals
      have hyv : Cal.yl y = 365 + Cal.lp y := rfl
      first | (have hlp := Cal.lp_t hl) | (rw [Bool.not_eq_true] at hl; have hlp := Cal.lp_f hl)
      have HYV : Hid (Cal.yl y = 365 + Cal.lp y) := hyv
      have HLP := hid hlp
      have hge : 365 + Cal.lp y ≤ Cal.yl y := by omega
      have hle : Cal.yl y ≤ 365 + Cal.lp y := by omega
      have hlp1 : Cal.lp y ≤ 1 := by omega
      have hlp0 : 0 ≤ Cal.lp y := by omega
      by_cases hc : Cal.yl y ≤ n - Cal.dby y
      · have hy3 : y ≤ 2172 := by
          by_cases h : y = 2173
          · subst h; have := Cal.dby_succ 2173; have := Cal.dby_end (y := 2173 + 1) (by omega); omega
          · omega
        have hc' : 365 ≤ n - Cal.dby y := by omega
        try (have hc'' : 366 ≤ n - Cal.dby y := by omega)
        clear hyv hlp
        go_wp2_with (go_at_call 39; refine (long_any _ (by omega) _).mono ?_; rintro e w' ⟨rfl, rfl⟩)
        have hs := Cal.dby_succ y
        have hlp := HLP.out
        have hyv := HYV.out
        go_round
        case rel => exact ⟨y + 1, by omega, by omega, by omega, by rw [hs]; go_num, by go_num⟩
        case measure => simp [intOf]; omega
      · try (have hc' : n - Cal.dby y < 365 := by omega)
        have hc'' : n - Cal.dby y < 366 := by omega
        clear hyv hlp
        go_wp2_with (go_at_call 39; refine (long_any _ (by omega) _).mono ?_; rintro e w' ⟨rfl, rfl⟩)
        go_loop [0, 6] (fun t mm => ∃ m : Int, 1 ≤ m ∧ m ≤ 12 ∧ 0 ≤ n - Cal.dby y - Cal.cum y m ∧ t = .int .i64 (n - Cal.dby y - Cal.cum y m) ∧ mm = .int .i64 m) (fun t _ => (intOf t).toNat)
        case atStart => exact ⟨1, by omega, by omega, by rw [Cal.cum_one]; omega, by rw [Cal.cum_one]; simp, rfl⟩
        case round =>
          obtain ⟨m, hm1, hm2, hr, rfl, rfl⟩ := hrel
          have hml := Cal.ml_bd y m
          have hmp := Cal.ml_pos y m hm1 hm2
          have hcb := Cal.cum_bd y m hm1 (by omega)
          by_cases hk : Cal.ml y m ≤ n - Cal.dby y - Cal.cum y m
          · have hm3 : m ≤ 11 := by
              by_cases h : m = 12
              · subst h; have := Cal.cum_succ y 12 (by omega) (by omega); have := Cal.cum_end y; simp only [Int.reduceAdd] at *; omega
              · omega
            go_wp2_with (go_at_call 40; refine (days_any _ _ (by omega) _).mono ?_; rintro e w' ⟨rfl, rfl⟩)
            have hs := Cal.cum_succ y m hm1 hm2
            go_round
            case rel => exact ⟨m + 1, by omega, by omega, by omega, by rw [hs]; go_num, by go_num⟩
            case measure => simp [intOf]; omega
          · go_wp2_with (go_at_call 40; refine (days_any _ _ (by omega) _).mono ?_; rintro e w' ⟨rfl, rfl⟩)
            refine bodyPost_ret (v := .tuple #[.agg #[.int .i64 y, .int .i64 m, .int .i64 (n - Cal.dby y - Cal.cum y m + 1)], .int .i64 0]) (by simp [results, Tryd.results29, go_sem]) rfl ⟨y, m, _, ⟨hy1, hm1, hm2, by omega, by omega⟩, by unfold Cal.num; omega, rfl, ?_⟩
            exact Joins.below_alloc1 _ _

end Go.Proofs.YtadpgndodbfciaaDoor
