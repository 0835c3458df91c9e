/-
  The walks of Ends, of the program and of the reference.
-/
import Derived.Test.YtadpgndodbfciaaDoorWalkDay
namespace Go.Proofs.YtadpgndodbfciaaDoor
open Go.RowKit

/-- What ends with a date: 0 the day alone, 1 a month, 2 a quarter, 3 a year. -/
def endsOf (y m d : Int) : Int := if d < Cal.ml y m then 0 else if m = 12 then 3 else if m = 3 ∨ m = 6 ∨ m = 9 then 2 else 1
/-- Ends hands back what ends with the day n. -/
def EndsIs (n : Int) (w : World) (e : Ending) (w' : World) : Prop :=
  ∃ y m d : Int, Cal.ok y m d ∧ Cal.num y m d = n ∧ e = .returned (.tuple #[.int .i64 (endsOf y m d), .int .i64 0]) ∧ Below w.heap.size w w'

set_option maxHeartbeats 400000 in
theorem ends_no (n : Int) (h : n < 0 ∨ 100000 < n) (w : World) : Calls Tryd.prog 34 #[.int .i64 n] w fun e w' => e = .returned (.tuple #[.int .i64 0, .int .i64 1]) ∧ Below w.heap.size w w' := by
  go_enter Tryd.func34, Tryd.ntmps34
  go_wp2_with fail
  refine (date_no n h w).mono ?_
  rintro e w1 ⟨rfl, hb⟩
  go_wp2
  go_ret2
  exact ⟨rfl, add hb _⟩
set_option maxHeartbeats 400000 in
theorem refends_no (n : Int) (h : n < 0 ∨ 100000 < n) (w : World) : Calls Tryd.prog 33 #[.int .i64 n] w fun e w' => e = .returned (.tuple #[.int .i64 0, .int .i64 1]) ∧ Below w.heap.size w w' := by
  go_enter Tryd.func33, Tryd.ntmps33
  go_wp2_with fail
  refine (refdate_no n h w).mono ?_
  rintro e w1 ⟨rfl, hb⟩
  go_wp2
  go_ret2
  exact ⟨rfl, add hb _⟩

theorem endsOf_0 {y m d : Int} (h : d < Cal.ml y m) : endsOf y m d = 0 := by unfold endsOf; rw [if_pos h]
theorem endsOf_3 {y m d : Int} (h : Cal.ml y m ≤ d) (hm : m = 12) : endsOf y m d = 3 := by unfold endsOf; rw [if_neg (by omega), if_pos hm]
theorem endsOf_2 {y m d : Int} (h : Cal.ml y m ≤ d) (hm : m = 3 ∨ m = 6 ∨ m = 9) : endsOf y m d = 2 := by unfold endsOf; rw [if_neg (by omega), if_neg (by omega), if_pos hm]
theorem endsOf_1 {y m d : Int} (h : Cal.ml y m ≤ d) (hm : m ≠ 12) (hm' : ¬ (m = 3 ∨ m = 6 ∨ m = 9)) : endsOf y m d = 1 := by unfold endsOf; rw [if_neg (by omega), if_neg hm, if_neg hm']

set_option maxHeartbeats 1600000 in
theorem ends_yes (n : Int) (h0 : 0 ≤ n) (h1 : n ≤ 100000) (w : World) (hT : Tab w) : Calls Tryd.prog 34 #[.int .i64 n] w (EndsIs n w) := by
  go_enter Tryd.func34, Tryd.ntmps34
  go_wp2_with fail
  refine (date_yes n h0 h1 w hT).mono ?_
  rintro e w1 ⟨y, m, d, hok, hn, rfl, hb⟩
  have hT' := hT.stays (add hb (.cells #[.int .i64 y, .int .i64 m, .int .i64 d] 47))
  have HOK := hid hok
  have HN := hid hn
  have HB := hid hb
  obtain ⟨hk1, hk2, hk3, hk4, hk5⟩ := hok
  clear hn hb hT
  go_wp2
  go_quiet ((go_at_call 42; exact quiet_eq (daysOfMonth_any _ _ (by omega) (by omega) (by omega) _ (hT'.drewN _))))
  by_cases hd : d < Cal.ml y m
  · go_wp2
    go_ret2
    exact ⟨y, m, d, HOK.out, HN.out, by rw [endsOf_0 hd]; rfl, drawn (add HB.out _) _⟩
  · have hd : Cal.ml y m ≤ d := by omega
    by_cases hm : m = 12
    · go_wp2
      go_ret2
      exact ⟨y, m, d, HOK.out, HN.out, by rw [endsOf_3 hd hm]; rfl, drawn (add HB.out _) _⟩
    · by_cases hm' : m = 3 ∨ m = 6 ∨ m = 9
      · have h3 : m % 3 = 0 := by omega
        clear hm'
        go_wp2
        go_ret2
        exact ⟨y, m, d, HOK.out, HN.out, by rw [endsOf_2 hd (by omega)]; rfl, drawn (add HB.out _) _⟩
      · have h3 : ¬ m % 3 = 0 := by omega
        have H' := hid hm'
        clear hm'
        go_wp2
        go_ret2
        exact ⟨y, m, d, HOK.out, HN.out, by rw [endsOf_1 hd hm H'.out]; rfl, drawn (add HB.out _) _⟩

set_option maxHeartbeats 1600000 in
theorem refends_yes (n : Int) (h0 : 0 ≤ n) (h1 : n ≤ 100000) (w : World) : Calls Tryd.prog 33 #[.int .i64 n] w (EndsIs n w) := by
  go_enter Tryd.func33, Tryd.ntmps33
  go_wp2_with fail
  refine (refdate_yes n h0 h1 w).mono ?_
  rintro e w1 ⟨y, m, d, hok, hn, rfl, hb⟩
  have HOK := hid hok
  have HN := hid hn
  have HB := hid hb
  obtain ⟨hk1, hk2, hk3, hk4, hk5⟩ := hok
  clear hn hb
  go_wp2
  go_quiet ((go_at_call 40; exact quiet_eq (days_any _ _ (by omega) _)))
  by_cases hd : d < Cal.ml y m
  · go_wp2
    go_ret2
    exact ⟨y, m, d, HOK.out, HN.out, by rw [endsOf_0 hd]; rfl, drawn (add HB.out _) _⟩
  · have hd : Cal.ml y m ≤ d := by omega
    rcases (show m = 12 ∨ m = 3 ∨ m = 6 ∨ m = 9 ∨ (m ≠ 12 ∧ m ≠ 3 ∧ m ≠ 6 ∧ m ≠ 9) by omega) with hm | hm | hm | hm | ⟨hm1, hm2, hm3, hm4⟩
    · go_wp2
      go_ret2
      exact ⟨y, m, d, HOK.out, HN.out, by rw [endsOf_3 hd hm]; rfl, drawn (add HB.out _) _⟩
    · go_wp2
      go_ret2
      exact ⟨y, m, d, HOK.out, HN.out, by rw [endsOf_2 hd (by omega)]; rfl, drawn (add HB.out _) _⟩
    · go_wp2
      go_ret2
      exact ⟨y, m, d, HOK.out, HN.out, by rw [endsOf_2 hd (by omega)]; rfl, drawn (add HB.out _) _⟩
    · go_wp2
      go_ret2
      exact ⟨y, m, d, HOK.out, HN.out, by rw [endsOf_2 hd (by omega)]; rfl, drawn (add HB.out _) _⟩
    · go_wp2
      go_ret2
      exact ⟨y, m, d, HOK.out, HN.out, by rw [endsOf_1 hd hm1 (by omega)]; rfl, drawn (add HB.out _) _⟩

end Go.Proofs.YtadpgndodbfciaaDoor
