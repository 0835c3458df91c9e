/-
  The calendar in plain numbers: leap years, days before a year, days of a month; no Go here.
-/
namespace Go.Proofs.YtadpgndodbfciaaDoor.Cal

/-- Whether a year has 366 days. -/
def leapB (y : Int) : Bool := decide (y % 4 = 0 ∧ (y % 100 ≠ 0 ∨ y % 400 = 0))
def lp (y : Int) : Int := if leapB y = true then 1 else 0
/-- The days of a year. -/
def yl (y : Int) : Int := 365 + lp y
/-- The days ahead of a year, from 1900 on. -/
def dby (y : Int) : Int := 365 * (y - 1900) + (y - 1) / 4 - (y - 1) / 100 + (y - 1) / 400 - 460
/-- The days of a month; of no month: 0. -/
def ml (y m : Int) : Int :=
  if m = 2 then 28 + lp y else if m = 4 ∨ m = 6 ∨ m = 9 ∨ m = 11 then 30 else if 1 ≤ m ∧ m ≤ 12 then 31 else 0
/-- The days of a year ahead of a month. -/
def cum (y m : Int) : Int := (367 * m - 362) / 12 - (if m ≤ 2 then 0 else 2 - lp y)
/-- The number of a date. -/
def num (y m d : Int) : Int := dby y + cum y m + d - 1
/-- There is such a date from 1900 on. -/
def ok (y m d : Int) : Prop := 1900 ≤ y ∧ 1 ≤ m ∧ m ≤ 12 ∧ 1 ≤ d ∧ d ≤ ml y m

theorem lp_01 (y : Int) : lp y = 0 ∨ lp y = 1 := by unfold lp; split <;> simp
theorem lp_t {y : Int} (h : leapB y = true) : lp y = 1 := by unfold lp; simp [h]
theorem lp_f {y : Int} (h : leapB y = false) : lp y = 0 := by unfold lp; simp [h]
theorem leap_t {y : Int} (h4 : y % 4 = 0) (h : y % 100 ≠ 0 ∨ y % 400 = 0) : leapB y = true := by unfold leapB; exact decide_eq_true ⟨h4, h⟩
theorem leap_f {y : Int} (h : ¬ (y % 4 = 0 ∧ (y % 100 ≠ 0 ∨ y % 400 = 0))) : leapB y = false := by unfold leapB; exact decide_eq_false h
theorem yl_bd (y : Int) : 365 ≤ yl y ∧ yl y ≤ 366 := by unfold yl; rcases lp_01 y with h | h <;> omega

theorem dby_succ (y : Int) : dby (y + 1) = dby y + yl y := by
  unfold dby yl lp leapB
  by_cases h : y % 4 = 0 ∧ (y % 100 ≠ 0 ∨ y % 400 = 0)
  · simp [h]; omega
  · simp [h]; omega
theorem dby_start : dby 1900 = 0 := by decide
theorem dby_mono {a b : Int} (h : a ≤ b) : dby a ≤ dby b := by unfold dby; omega
theorem dby_ge (y : Int) (h : 1900 ≤ y) : 365 * (y - 1900) ≤ dby y := by unfold dby; omega
theorem dby_end {y : Int} (h : 2174 ≤ y) : 100000 < dby y := by unfold dby; omega
theorem dby_bd (y : Int) (h : 1900 ≤ y) (h' : y ≤ 2174) : 0 ≤ dby y ∧ dby y ≤ 100080 := by unfold dby; omega

theorem ml_bd (y m : Int) : 0 ≤ ml y m ∧ ml y m ≤ 31 := by
  have := lp_01 y
  unfold ml; (repeat' split) <;> omega
theorem ml_pos (y m : Int) (h : 1 ≤ m) (h' : m ≤ 12) : 28 ≤ ml y m := by
  have := lp_01 y
  unfold ml; (repeat' split) <;> omega
theorem ml_none {y m : Int} (h : ¬ (1 ≤ m ∧ m ≤ 12)) : ml y m = 0 := by
  unfold ml; (repeat' split) <;> omega
theorem ml_31 {y m : Int} (h : m = 1 ∨ m = 3 ∨ m = 5 ∨ m = 7 ∨ m = 8 ∨ m = 10 ∨ m = 12) : 31 = ml y m := by
  unfold ml; (repeat' split) <;> omega
theorem ml_30 {y m : Int} (h : m = 4 ∨ m = 6 ∨ m = 9 ∨ m = 11) : 30 = ml y m := by
  unfold ml; (repeat' split) <;> omega
theorem ml_29 {y m : Int} (h : m = 2) (hl : leapB y = true) : 29 = ml y m := by
  have := lp_t hl
  unfold ml; (repeat' split) <;> omega
theorem ml_28 {y m : Int} (h : m = 2) (hl : leapB y = false) : 28 = ml y m := by
  have := lp_f hl
  unfold ml; (repeat' split) <;> omega
theorem cum_succ (y m : Int) (h : 1 ≤ m) (h' : m ≤ 12) : cum y (m + 1) = cum y m + ml y m := by
  have := lp_01 y
  rcases (show m = 1 ∨ m = 2 ∨ m = 3 ∨ m = 4 ∨ m = 5 ∨ m = 6 ∨ m = 7 ∨ m = 8 ∨ m = 9 ∨ m = 10 ∨ m = 11 ∨ m = 12 by omega) with h | h | h | h | h | h | h | h | h | h | h | h <;> subst h <;> simp [cum, ml] <;> omega
theorem cum_one (y : Int) : cum y 1 = 0 := by simp [cum]
theorem cum_end (y : Int) : cum y 13 = yl y := by simp [cum, yl]; omega
theorem cum_bd (y m : Int) (h : 1 ≤ m) (h' : m ≤ 13) : 0 ≤ cum y m ∧ cum y m ≤ 366 := by
  have := lp_01 y
  unfold cum; split <;> omega
theorem cum_le (y : Int) {m m' : Int} (h : 1 ≤ m) (hm : m ≤ m') (h' : m' ≤ 13) : cum y m ≤ cum y m' := by
  have := lp_01 y
  unfold cum; split <;> split <;> omega
theorem cum_mono (y : Int) {m m' : Int} (h : 1 ≤ m) (hm : m < m') (h' : m' ≤ 13) : cum y m + ml y m ≤ cum y m' := by
  rw [← cum_succ y m h (by omega)]
  exact cum_le y (by omega) (by omega) h'

/-- Dates in their order have numbers in their order. -/
theorem num_lt {y m d y' m' d' : Int} (h : ok y m d) (h' : ok y' m' d') (hl : y < y' ∨ (y = y' ∧ (m < m' ∨ (m = m' ∧ d < d')))) : num y m d < num y' m' d' := by
  obtain ⟨h1, h2, h3, h4, h5⟩ := h
  obtain ⟨k1, k2, k3, k4, k5⟩ := h'
  unfold num
  rcases hl with hl | ⟨rfl, hl | ⟨rfl, hl⟩⟩
  · have a := dby_mono (show y + 1 ≤ y' by omega)
    have b := dby_succ y
    have c := cum_mono y h2 (show m < 13 by omega) (by omega)
    have e := cum_end y
    have f := cum_bd y' m' k2 (by omega)
    omega
  · have c := cum_mono y h2 hl (by omega)
    omega
  · omega
theorem num_inj {y m d y' m' d' : Int} (h : ok y m d) (h' : ok y' m' d') (e : num y m d = num y' m' d') : y = y' ∧ m = m' ∧ d = d' := by
  by_cases h1 : y < y' ∨ (y = y' ∧ (m < m' ∨ (m = m' ∧ d < d')))
  · have := num_lt h h' h1; omega
  · by_cases h2 : y' < y ∨ (y' = y ∧ (m' < m ∨ (m' = m ∧ d' < d)))
    · have := num_lt h' h h2; omega
    · omega
/-- Of two dates: the one is ahead of the other just if its number is below. -/
theorem less_iff {y m d y' m' d' : Int} (h : ok y m d) (h' : ok y' m' d') : (y < y' ∨ (y = y' ∧ (m < m' ∨ (m = m' ∧ d < d')))) ↔ num y m d < num y' m' d' := by
  constructor
  · exact num_lt h h'
  · intro hn
    by_cases h2 : y' < y ∨ (y' = y ∧ (m' < m ∨ (m' = m ∧ d' < d)))
    · have := num_lt h' h h2; omega
    · by_cases h3 : y = y' ∧ m = m' ∧ d = d'
      · obtain ⟨rfl, rfl, rfl⟩ := h3; omega
      · omega
theorem num_ge {y m d : Int} (h : ok y m d) : 0 ≤ num y m d := by
  obtain ⟨h1, h2, h3, h4, h5⟩ := h
  have := dby_ge y h1
  have := cum_bd y m h2 (by omega)
  unfold num; omega
theorem num_bd {y m d : Int} (h : ok y m d) (hy : y ≤ 2173) : 0 ≤ num y m d ∧ num y m d ≤ 100500 := by
  have := num_ge h
  obtain ⟨h1, h2, h3, h4, h5⟩ := h
  have := dby_bd y h1 (by omega)
  have := cum_bd y m h2 (by omega)
  have := ml_bd y m
  unfold num at *; omega
theorem year_le {y m d : Int} (h : ok y m d) (hn : num y m d ≤ 100000) : y ≤ 2173 := by
  obtain ⟨h1, h2, h3, h4, h5⟩ := h
  by_cases hy : 2174 ≤ y
  · have := dby_end hy
    have := cum_bd y m h2 (by omega)
    unfold num at hn; omega
  · omega

/-- The day of a date that there is, or 0; and the error. -/
def dayV (n : Int) : Int := if 100000 < n then 0 else n
def dayE (n : Int) : Int := if 100000 < n then 1 else 0
theorem dayV_t {n : Int} (h : 100000 < n) : dayV n = 0 ∧ dayE n = 1 := ⟨if_pos h, if_pos h⟩
theorem dayV_f {n : Int} (h : ¬ 100000 < n) : dayV n = n ∧ dayE n = 0 := ⟨if_neg h, if_neg h⟩

/-- The next day's date. -/
theorem next_in {y m d : Int} (h : ok y m d) (hd : d < ml y m) : ok y m (d + 1) ∧ num y m (d + 1) = num y m d + 1 := by
  obtain ⟨h1, h2, h3, h4, h5⟩ := h
  exact ⟨⟨h1, h2, h3, by omega, by omega⟩, by unfold num; omega⟩
theorem next_month {y m d : Int} (h : ok y m d) (hd : d = ml y m) (hm : m < 12) : ok y (m + 1) 1 ∧ num y (m + 1) 1 = num y m d + 1 := by
  obtain ⟨h1, h2, h3, h4, h5⟩ := h
  have := ml_pos y (m + 1) (by omega) (by omega)
  exact ⟨⟨h1, by omega, by omega, by omega, by omega⟩, by unfold num; rw [cum_succ y m h2 h3]; omega⟩
theorem next_year {y m d : Int} (h : ok y m d) (hd : d = ml y m) (hm : m = 12) : ok (y + 1) 1 1 ∧ num (y + 1) 1 1 = num y m d + 1 := by
  obtain ⟨h1, h2, h3, h4, h5⟩ := h
  subst hm
  have := ml_pos (y + 1) 1 (by omega) (by omega)
  have c := cum_succ y 12 (by omega) (by omega)
  have e := cum_end y
  exact ⟨⟨by omega, by omega, by omega, by omega, by omega⟩, by unfold num; rw [dby_succ, cum_one]; simp only [Int.reduceAdd] at c; omega⟩

end Go.Proofs.YtadpgndodbfciaaDoor.Cal
