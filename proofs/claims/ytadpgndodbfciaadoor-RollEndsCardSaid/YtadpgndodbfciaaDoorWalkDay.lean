/-
  The walks of isDate and Day, of the program and of the reference, and of Ends.
-/
import Derived.Test.YtadpgndodbfciaaDoorWalkDate
namespace Go.Proofs.YtadpgndodbfciaaDoor
open Go.RowKit

theorem Tab.drewN {w : World} (h : Tab w) (n : Nat) : Tab (w.drewN n) := h.stays (Joins.below_draws _ _ _)
theorem quiet_eq {P : Program} {f : FuncId} {args : Array Value} {w : World} {n : Nat} {v : Value}
    (h : Calls P f args (w.drewN n) fun e w' => e = .returned v ∧ w.drewN n = w') : Calls P f args (w.drewN n) fun e w'' => e = .returned v ∧ ∃ m, w'' = w.drewN m :=
  h.mono fun _ _ ⟨he, hm⟩ => ⟨he, n, hm.symm⟩
theorem drawn {w w1 : World} (h : Below w.heap.size w w1) (n : Nat) : Below w.heap.size w (w1.drewN n) := h.trans (Joins.below_draws _ _ _)

set_option maxHeartbeats 800000 in
theorem isDate_yes (y m d : Int) (h : Cal.ok y m d) (hy : y ≤ 2173) (w : World) (hT : Tab w) : Calls Tryd.prog 43 #[.agg #[.int .i64 y, .int .i64 m, .int .i64 d]] w fun e w' => e = .returned (.bool true) ∧ Below w.heap.size w w' := by
  obtain ⟨h1, h2, h3, h4, h5⟩ := h
  have hT' := hT.stays (Joins.below_alloc1 w (.cells #[.int .i64 y, .int .i64 m, .int .i64 d] 47))
  have hd : decide (1 ≤ d) = true := by simpa using h4
  go_enter Tryd.func43, Tryd.ntmps43
  go_wp2
  go_quiet ((go_at_call 42; exact quiet_eq (daysOfMonth_any _ _ (by omega) (by omega) (by omega) _ (hT'.drewN _))))
  go_wp2
  go_ret
  exact ⟨ret_bool (by simp), drawn (Joins.below_alloc1 _ _) _⟩

set_option maxHeartbeats 1600000 in
theorem isDate_no (y m d : Int) (h : ¬ (Cal.ok y m d ∧ y ≤ 2173)) (w : World) (hT : Tab w) : Calls Tryd.prog 43 #[.agg #[.int .i64 y, .int .i64 m, .int .i64 d]] w fun e w' => e = .returned (.bool false) ∧ Below w.heap.size w w' := by
  have hT' := hT.stays (Joins.below_alloc1 w (.cells #[.int .i64 y, .int .i64 m, .int .i64 d] 47))
  have cases6 : y < 1900 ∨ (¬ y < 1900 ∧ 2173 < y) ∨ (¬ y < 1900 ∧ ¬ 2173 < y ∧ m < 1) ∨ (¬ y < 1900 ∧ ¬ 2173 < y ∧ ¬ m < 1 ∧ 12 < m) ∨ (¬ y < 1900 ∧ ¬ 2173 < y ∧ ¬ m < 1 ∧ ¬ 12 < m ∧ d < 1) ∨
      (¬ y < 1900 ∧ ¬ 2173 < y ∧ ¬ m < 1 ∧ ¬ 12 < m ∧ 1 ≤ d ∧ Cal.ml y m < d) := by unfold Cal.ok at h; omega
  clear h
  rcases cases6 with h | ⟨h1, h⟩ | ⟨h1, h2, h⟩ | ⟨h1, h2, h3, h⟩ | ⟨h1, h2, h3, h4, h⟩ | ⟨h1, h2, h3, h4, h5, h⟩
  · go_enter Tryd.func43, Tryd.ntmps43
    go_wp2
    go_ret
    exact ⟨rfl, Joins.below_alloc1 _ _⟩
  · go_enter Tryd.func43, Tryd.ntmps43
    go_wp2
    go_ret
    exact ⟨rfl, Joins.below_alloc1 _ _⟩
  · go_enter Tryd.func43, Tryd.ntmps43
    go_wp2
    go_ret
    exact ⟨rfl, Joins.below_alloc1 _ _⟩
  · go_enter Tryd.func43, Tryd.ntmps43
    go_wp2
    go_ret
    exact ⟨rfl, Joins.below_alloc1 _ _⟩
  · have hd : decide (1 ≤ d) = false := by simpa using h
    go_enter Tryd.func43, Tryd.ntmps43
    go_wp2
    go_quiet (fail)
    go_wp2
    go_ret
    exact ⟨rfl, drawn (Joins.below_alloc1 _ _) _⟩
  · have hd : decide (1 ≤ d) = true := by simpa using h5
    go_enter Tryd.func43, Tryd.ntmps43
    go_wp2
    go_quiet ((go_at_call 42; exact quiet_eq (daysOfMonth_any _ _ (by omega) (by omega) (by omega) _ (hT'.drewN _))))
    go_wp2
    go_ret
    exact ⟨ret_bool (by simpa using h), drawn (Joins.below_alloc1 _ _) _⟩

set_option maxHeartbeats 400000 in
theorem day_no (y m d : Int) (h : ¬ (Cal.ok y m d ∧ y ≤ 2173)) (w : World) (hT : Tab w) : Calls Tryd.prog 31 #[.agg #[.int .i64 y, .int .i64 m, .int .i64 d]] w fun e w' => e = .returned (.tuple #[.int .i64 0, .int .i64 1]) ∧ Below w.heap.size w w' := by
  have hT' := hT.stays (Joins.below_alloc1 w (.cells #[.int .i64 y, .int .i64 m, .int .i64 d] 47))
  go_enter Tryd.func31, Tryd.ntmps31
  go_wp2_with fail
  refine (isDate_no y m d h _ hT').mono ?_
  rintro e w1 ⟨rfl, hb⟩
  obtain ⟨hz, hc, hb'⟩ := after hb
  clear hb
  go_wp2
  go_ret2
  exact ⟨rfl, hb'⟩

set_option maxHeartbeats 1600000 in
theorem day_yes (y m d : Int) (h : Cal.ok y m d) (hy : y ≤ 2173) (w : World) (hT : Tab w) : Calls Tryd.prog 31 #[.agg #[.int .i64 y, .int .i64 m, .int .i64 d]] w fun e w' =>
    e = .returned (.tuple #[.int .i64 (Cal.dayV (Cal.num y m d)), .int .i64 (Cal.dayE (Cal.num y m d))]) ∧ Below w.heap.size w w' := by
  have hT' := hT.stays (Joins.below_alloc1 w (.cells #[.int .i64 y, .int .i64 m, .int .i64 d] 47))
  have hnb := Cal.num_bd h hy
  have hml := Cal.ml_bd y m
  go_enter Tryd.func31, Tryd.ntmps31
  go_wp2_with fail
  refine (isDate_yes y m d h hy _ hT').mono ?_
  rintro e w1 ⟨rfl, hb⟩
  obtain ⟨hz, hc, hb'⟩ := after hb
  have hT1 := hT.stays hb'
  have c0 : w1.cell? ⟨w.heap.size, 0, none⟩ = some (.int .i64 y) := hc 0
  have c1 : w1.cell? ⟨w.heap.size, 1, none⟩ = some (.int .i64 m) := hc 1
  have c2 : w1.cell? ⟨w.heap.size, 2, none⟩ = some (.int .i64 d) := hc 2
  have HB := hid hb'
  clear hb hc hb' hT hT' hz
  obtain ⟨h1, h2, h3, h4, h5⟩ := h
  have hdy := Cal.dby_bd y h1 (by omega)
  go_wp2
  go_loop [4, 5] (fun t k => ∃ x : Int, 1900 ≤ x ∧ x ≤ y ∧ t = .int .i64 (d - 1 + Cal.dby x) ∧ k = .int .i64 x) (fun _ k => (y - intOf k).toNat)
  case atStart => exact ⟨1900, by omega, by omega, by rw [Cal.dby_start]; simp, rfl⟩
  case round =>
    obtain ⟨x, hx1, hx2, rfl, rfl⟩ := hrel
    have hdb := Cal.dby_bd x hx1 (by omega)
    have hyl := Cal.yl_bd x
    by_cases hlt : x < y
    · go_wp2_with (go_at_call 41; refine (daysOfYear_any _ (by omega) _).mono ?_; rintro e w' ⟨rfl, rfl⟩)
      have hs := Cal.dby_succ x
      go_round
      case rel => exact ⟨x + 1, by omega, by omega, by rw [hs]; go_num, by go_num⟩
      case measure => simp [intOf]; omega
    · obtain rfl : x = y := by omega
      go_wp2
      go_loop [4, 6] (fun t k => ∃ z : Int, 1 ≤ z ∧ z ≤ m ∧ t = .int .i64 (d - 1 + Cal.dby x + Cal.cum x z) ∧ k = .int .i64 z) (fun _ k => (m - intOf k).toNat)
      case atStart => exact ⟨1, by omega, by omega, by rw [Cal.cum_one]; simp, rfl⟩
      case round =>
        obtain ⟨z, hz1, hz2, rfl, rfl⟩ := hrel
        have hcb := Cal.cum_bd x z hz1 (by omega)
        have hmz := Cal.ml_bd x z
        by_cases hlz : z < m
        · go_wp2_with (go_at_call 42; refine (daysOfMonth_any _ _ (by omega) (by omega) (by omega) _ hT1).mono ?_; rintro e w' ⟨rfl, rfl⟩)
          have hs := Cal.cum_succ x z hz1 (by omega)
          go_round
          case rel => exact ⟨z + 1, by omega, by omega, by rw [hs]; go_num, by go_num⟩
          case measure => simp [intOf]; omega
        · obtain rfl : z = m := by omega
          have HN : Hid (Cal.num x z d = d - 1 + Cal.dby x + Cal.cum x z) := hid (by unfold Cal.num; omega)
          go_wp2
          all_goals go_ret2
          · have hgt := Cal.dayV_t (show 100000 < Cal.num x z d by rw [HN.out]; assumption)
            exact ⟨by rw [hgt.1, hgt.2]; rfl, HB.out⟩
          · have hgt := Cal.dayV_f (show ¬ 100000 < Cal.num x z d by rw [HN.out]; omega)
            exact ⟨by rw [hgt.1, hgt.2, HN.out]; rfl, HB.out⟩

end Go.Proofs.YtadpgndodbfciaaDoor
