/-
  The walks of the calendar's functions: leap years, days of a year, days of a month, the date of a day, the day of a date, what ends with a day.
-/
import Derived.Test.YtadpgndodbfciaaDoorRows
import Derived.Test.YtadpgndodbfciaaDoorCal
import Derived.WalkKit
import Derived.WalkSpells
import Derived.WalkLawsBesides
import Derived.BigQuiet
import Derived.Deep.QuietTactic
import Derived.Lib.LaidTab
import Derived.Lib.SmallJoins
namespace Go.Proofs.YtadpgndodbfciaaDoor
open Go.RowKit

/-- The table of months lies in the program's first variable. -/
def Tab (w : World) : Prop := Lib.TabIs Tryd.prog w "hinterland/roll.months" .i64 [31, 28, 31, 30, 31, 30, 31, 31, 30, 31, 30, 31]
theorem gTab : Tryd.prog.globalNamed "hinterland/roll.months" = some 0 := by kernel_rfl
theorem Tab.stays {w w' : World} (h : Tab w) (hb : Below w.heap.size w w') : Tab w' := Joins.tab_stays gTab h hb (Nat.le_refl _)
theorem Tab.stays' {w w' : World} {B : Nat} (h : Tab w) (hb : Below B w w') (hB : w.heap.size ≤ B) : Tab w' := Joins.tab_stays gTab h hb hB
/-- The days that the table has for a month. -/
def mon (m : Int) : Int := if m = 2 then 28 else if m = 4 ∨ m = 6 ∨ m = 9 ∨ m = 11 then 30 else 31
theorem Tab.month {w : World} (h : Tab w) {m : Int} (h1 : 1 ≤ m) (h2 : m ≤ 12) : w.cell? ⟨0, (m - 1).toNat, none⟩ = some (.int .i64 (mon m)) := by
  have hc := fun i hi => Lib.TabIs.cell h gTab i hi
  rcases (show m = 1 ∨ m = 2 ∨ m = 3 ∨ m = 4 ∨ m = 5 ∨ m = 6 ∨ m = 7 ∨ m = 8 ∨ m = 9 ∨ m = 10 ∨ m = 11 ∨ m = 12 by omega) with h | h | h | h | h | h | h | h | h | h | h | h <;> subst h <;> exact hc _ (by decide)
theorem mon_ml (y m : Int) (h : m ≠ 2) (h1 : 1 ≤ m) (h2 : m ≤ 12) : mon m = Cal.ml y m := by
  unfold mon Cal.ml; rw [if_neg h, if_neg h]; split <;> simp [h1, h2]
theorem mon_two (y : Int) (h : Cal.leapB y = false) : mon 2 = Cal.ml y 2 := by simp [mon, Cal.ml, Cal.lp_f h]

theorem bcell {W w1 : World} (hb : Below W.heap.size W w1) : (∀ b o, b < W.heap.size → w1.cell? ⟨b, o, none⟩ = W.cell? ⟨b, o, none⟩) ∧ (∀ b o, b < W.heap.size → w1.frozen? ⟨b, o, none⟩ = W.frozen? ⟨b, o, none⟩) :=
  ⟨fun b o h => hb.cell (p := ⟨b, o, none⟩) h, fun b o h => hb.frozen (p := ⟨b, o, none⟩) h⟩
/-- Behind a call that began with a new block at the heap's end: what that block holds, and that nothing below has turned. -/
theorem after {w1 w2 : World} {c : Array Value} {t : TypeId} (hb : Below (w1.alloc (.cells c t)).heap.size (w1.alloc (.cells c t)) w2) :
    w1.heap.size < w2.heap.size ∧ (∀ i, w2.cell? ⟨w1.heap.size, i, none⟩ = c[i]?) ∧ Below w1.heap.size w1 w2 := by
  have hs := hb.size
  rw [World.size_alloc] at hs
  refine ⟨by omega, fun i => ?_, ((Below.refl _ w1).alloc (Nat.le_refl _) _).trans (hb.mono (by rw [World.size_alloc]; omega))⟩
  rw [hb.cell (p := ⟨w1.heap.size, i, none⟩) (by rw [World.size_alloc]; simp)]
  exact World.cell?_alloc_at _ _ _ _ rfl

/-- One call behind another; a new block behind a call. -/
theorem step {w w1 w2 : World} (h : Below w.heap.size w w1) (k : Below w1.heap.size w1 w2) : Below w.heap.size w w2 := h.trans (k.mono h.size)
theorem add {w w1 : World} (h : Below w.heap.size w w1) (o : Obj) : Below w.heap.size w (w1.alloc o) := h.alloc h.size o

/-- A fact that is kept from the walk. -/
theorem hid {p : Prop} (h : p) : Hid p := h
theorem ret_bool {a b : Bool} (h : a = b) : Ending.returned (.bool a) = .returned (.bool b) := by rw [h]
theorem ret_int {k : IntKind} {a b : Int} (h : a = b) : Ending.returned (.int k a) = .returned (.int k b) := by rw [h]

set_option maxHeartbeats 400000 in
theorem isLeap_any (y : Int) (hy : 0 ≤ y) (w : World) : Calls Tryd.prog 45 #[.int .i64 y] w fun e w' => e = .returned (.bool (Cal.leapB y)) ∧ w = w' := by
  go_enter Tryd.func45, Tryd.ntmps45
  go_wp2
  all_goals go_ret
  · exact ⟨ret_bool (by unfold Cal.leapB; rw [Bool.eq_iff_iff]; simp; omega), rfl⟩
  · exact ⟨ret_bool (by unfold Cal.leapB; rw [Bool.eq_iff_iff]; simp; omega), rfl⟩
  · exact ⟨ret_bool (by unfold Cal.leapB; rw [Bool.eq_iff_iff]; simp; omega), rfl⟩

set_option maxHeartbeats 400000 in
theorem long_any (y : Int) (hy : 0 ≤ y) (w : World) : Calls Tryd.prog 39 #[.int .i64 y] w fun e w' => e = .returned (.bool (Cal.leapB y)) ∧ w = w' := by
  go_enter Tryd.func39, Tryd.ntmps39
  go_wp2
  all_goals go_ret
  all_goals exact ⟨ret_bool (by unfold Cal.leapB; rw [Bool.eq_iff_iff]; simp; omega), rfl⟩

set_option maxHeartbeats 400000 in
theorem daysOfYear_any (y : Int) (hy : 0 ≤ y) (w : World) : Calls Tryd.prog 41 #[.int .i64 y] w fun e w' => e = .returned (.int .i64 (Cal.yl y)) ∧ w = w' := by
  go_enter Tryd.func41, Tryd.ntmps41
  go_wp2_with (go_at_call 45; refine (isLeap_any _ hy _).mono ?_; rintro e w' ⟨rfl, rfl⟩)
  all_goals go_ret
  · exact ⟨ret_int (by have := Cal.lp_t ‹_›; unfold Cal.yl; omega), rfl⟩
  · exact ⟨ret_int (by have := Cal.lp_f ‹_›; unfold Cal.yl; omega), rfl⟩


set_option maxHeartbeats 400000 in
theorem daysOfMonth_any (y m : Int) (hy : 0 ≤ y) (h1 : 1 ≤ m) (h2 : m ≤ 12) (w : World) (hT : Tab w) : Calls Tryd.prog 42 #[.int .i64 y, .int .i64 m] w fun e w' => e = .returned (.int .i64 (Cal.ml y m)) ∧ w = w' := by
  have hc : w.cell? ⟨0, m.toNat - 1, none⟩ = some (.int .i64 (mon m)) := by have := hT.month h1 h2; rwa [show (m - 1).toNat = m.toNat - 1 from by omega] at this
  have hc2 : w.cell? ⟨0, 1, none⟩ = some (.int .i64 (mon 2)) := hT.month (m := 2) (by omega) (by omega)
  go_enter Tryd.func42, Tryd.ntmps42
  go_wp2_with (go_at_call 45; refine (isLeap_any _ hy _).mono ?_; rintro e w' ⟨rfl, rfl⟩)
  all_goals go_ret
  · exact ⟨ret_int (Cal.ml_29 ‹_› ‹_›), rfl⟩
  · exact ⟨ret_int (by have h : m = 2 := by assumption
                       subst h; exact mon_two y ‹_›), rfl⟩
  · exact ⟨ret_int (mon_ml y m ‹_› h1 h2), rfl⟩

set_option maxHeartbeats 400000 in
theorem days_any (y m : Int) (hy : 0 ≤ y) (w : World) : Calls Tryd.prog 40 #[.int .i64 y, .int .i64 m] w fun e w' => e = .returned (.int .i64 (Cal.ml y m)) ∧ w = w' := by
  go_enter Tryd.func40, Tryd.ntmps40
  go_wp2_with (go_at_call 39; refine (long_any _ hy _).mono ?_; rintro e w' ⟨rfl, rfl⟩)
  all_goals go_ret
  all_goals (refine ⟨ret_int ?_, rfl⟩; simp only [beq_iff_eq, beq_eq_false_iff_ne] at *)
  all_goals (first | exact Cal.ml_31 (by omega) | exact Cal.ml_30 (by omega) | exact Cal.ml_29 (by omega) ‹_› | exact Cal.ml_28 (by omega) ‹_› | exact (Cal.ml_none (by omega)).symm)

end Go.Proofs.YtadpgndodbfciaaDoor
