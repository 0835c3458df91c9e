/-
  The walks of lies, bears, number, touch and beyond of the program's blocks.
-/
import Derived.Test.YtbfpcolkbfljoaaDoorBSig
import Derived.Test.YtbfpcolkbfljoaaDoorRWalkSpot
namespace Go.Proofs.YtbfpcolkbfljoaaDoor
open Go.RowKit

set_option maxHeartbeats 1600000 in
theorem blies_any (W H : Int) (ao : Option Addr) (n cap : Nat) (Z : Nat → Int) (s : Value) (t p : Int) (hz : ∀ i, i < n → 0 ≤ Z i ∧ Z i ≤ 63) (b : Bool) (hb : Lie n Z t p = b) (w : World) (hI : Ints w ao n Z) :
    Calls Tryd.prog 68 #[rv W H (.slice ao n cap) s, .int .i64 t, .int .i64 p] w fun r w' => r = .returned (.bool b) ∧ Below w.heap.size w w' := by
  have hW := Joins.below_alloc1 w (.cells #[.int .i64 W, .int .i64 H, .slice ao n cap, s] 25)
  have hI' := hI.stays hW
  have HW := hid hW
  have HB := hid hb
  clear hb hI hW
  by_cases hin : 0 ≤ t ∧ t < n ∧ 0 ≤ p ∧ p ≤ 5
  · obtain ⟨k1, k2, p1, p2⟩ := id hin
    obtain ⟨t, rfl⟩ := Int.eq_ofNat_of_zero_le k1
    have ht : t < n := by omega
    obtain ⟨g, off, rfl, hg, hc⟩ := ints_cell hI' ht
    have hzt := hz t ht
    obtain ⟨z, hz'⟩ : ∃ z, z = Z t := ⟨_, rfl⟩
    rw [← hz'] at hc hzt
    have HZ := hid hz'
    have HE := hid (lie_of (Z := Z) hin)
    obtain ⟨h0, h1⟩ := hzt
    have p3 : p < 6 := by omega
    clear hz hz' hI' hin
    go_enter Tryd.func68, Tryd.ntmps68
    go_wp2_with fail
    go_quiet (fail)
    go_wp2_with fail
    go_ret
    refine ⟨ret_bool ?_, HW.out.trans (Joins.below_draws _ _ _)⟩
    rw [← HB.out, HE.out, Int.toNat_natCast, ← HZ.out]
    exact and_bit ⟨h0, h1⟩ ⟨p1, p2⟩
  · have HE : Hid (Lie n Z t p = false) := hid (by unfold Lie; rw [decide_eq_false (by omega)]; rfl)
    rw [← HB.out, HE.out]
    clear hz hI' HB
    by_cases h1 : 0 ≤ t
    · by_cases h2 : t < n
      · by_cases h3 : 0 ≤ p
        · have h4 : 6 ≤ p := by omega
          have h5 : decide (p < 6) = false := by simp; omega
          clear hin
          go_enter Tryd.func68, Tryd.ntmps68
          go_wp2_with fail
          go_quiet (fail)
          go_wp2_with fail
          go_ret
          exact ⟨rfl, HW.out.trans (Joins.below_draws _ _ _)⟩
        · have h4 : decide (0 ≤ p) = false := by simp; omega
          clear hin h3
          go_enter Tryd.func68, Tryd.ntmps68
          go_wp2_with fail
          go_quiet (fail)
          go_wp2_with fail
          go_ret
          exact ⟨rfl, HW.out.trans (Joins.below_draws _ _ _)⟩
      · have h4 : decide (t < (n : Int)) = false := by simp; omega
        clear hin h2
        go_enter Tryd.func68, Tryd.ntmps68
        go_wp2_with fail
        go_quiet (fail)
        go_wp2_with fail
        go_ret
        exact ⟨rfl, HW.out.trans (Joins.below_draws _ _ _)⟩
    · have h4 : decide (0 ≤ t) = false := by simp; omega
      clear hin h1
      go_enter Tryd.func68, Tryd.ntmps68
      go_wp2_with fail
      go_quiet (fail)
      go_wp2_with fail
      go_ret
      exact ⟨rfl, HW.out.trans (Joins.below_draws _ _ _)⟩

set_option maxHeartbeats 1600000 in
theorem bears_any (W H : Int) (ao : Option Addr) (n cap : Nat) (Z : Nat → Int) (u : Value) (hz : ∀ i, i < n → 0 ≤ Z i ∧ Z i ≤ 63) (t p s : Int) (b : Bool) (hb : b = true ↔ IsSpot n Z t p s) (w : World) (hT : Tab w) (hI : Ints w ao n Z) :
    Calls Tryd.prog 56 #[rv W H (.slice ao n cap) u, sv t p s] w fun r w' => r = .returned (.bool b) ∧ Below w.heap.size w w' := by
  have hst := bx2_start w 25 50 #[.int .i64 W, .int .i64 H, .slice ao n cap, u] #[.int .i64 t, .int .i64 p, .int .i64 s]
  have HI := hid (hI.stays hst.below)
  have HT := hid (hT.stays hst.below)
  have HST := hid hst
  have HZ := hid hz
  have HB := hid hb
  obtain ⟨A, hA⟩ : ∃ A, A = w.heap.size := ⟨_, rfl⟩
  have HA := hid hA
  clear hI hT hst hz hb
  obtain ⟨t', p', s', g, hbk⟩ := BackIs.ex t p s
  have HBK := hid hbk
  clear hbk
  go_enter Tryd.func56, Tryd.ntmps56
  go_wp2_with fail
  refine (back_to HBK.out _ HT.out).mono ?_
  rintro r w3 ⟨rfl, hb3⟩
  have H3 := hid (HST.out.stays hb3)
  have HI3 := hid (HI.out.stays hb3)
  simp only [← hA] at H3 ⊢
  clear hb3 hA HST HI HT
  have hz2 := heap_lt H3.out.hr
  have hz1 := heap_lt H3.out.hb
  by_cases ho : 0 ≤ oth p s
  · have hg : g = 0 := by
      rcases HBK.out with ⟨_, _, _, _, h⟩ | ⟨h, _⟩
      · exact h
      · omega
    subst hg
    have HL : Hid (Lie n Z t p = b) := hid (by
      rw [Bool.eq_iff_iff, HB.out]
      exact ⟨fun h => ⟨ho, h⟩, fun h => h.2⟩)
    clear ho HBK
    have x0 := cell_of_row w3 A 0 _ _ _ H3.out.hb
    have x1 := cell_of_row w3 A 1 _ _ _ H3.out.hb
    have x2 := cell_of_row w3 A 2 _ _ _ H3.out.hb
    have x3 := cell_of_row w3 A 3 _ _ _ H3.out.hb
    have y0 := cell_of_row w3 (A + 1) 0 _ _ _ H3.out.hr
    have y1 := cell_of_row w3 (A + 1) 1 _ _ _ H3.out.hr
    simp only [List.getElem?_toArray, List.getElem?_cons_zero, List.getElem?_cons_succ] at x0 x1 x2 x3 y0 y1
    go_wp2_with (go_at_call 68; refine (blies_any W H ao n cap Z u t p HZ.out b HL.out _ (HI3.out.stays (Joins.below_alloc1 _ _))).mono ?_; rintro r w5 ⟨rfl, hb5⟩)
    go_ret
    exact ⟨rfl, by rw [← HA.out]; exact ((H3.out.stays (Joins.below_alloc1 _ _)).stays hb5).below⟩
  · have hg : g = 1 := by
      rcases HBK.out with ⟨h, _⟩ | ⟨_, _, _, _, h⟩
      · omega
      · exact h
    subst hg
    have hbf : b = false := by
      rw [Bool.eq_false_iff]
      intro h
      exact ho (HB.out.1 h).1
    subst hbf
    clear ho HBK
    go_wp2_with fail
    go_ret
    exact ⟨rfl, by rw [← HA.out]; exact (H3.out.stays (Joins.below_alloc1 _ _)).below⟩

set_option maxHeartbeats 800000 in
theorem number_any (t p v : Int) (ht : 0 ≤ t ∧ t ≤ 100000) (hp : 0 ≤ p ∧ p ≤ 7) (hv : v = 8 * t + p) (w : World) : Calls Tryd.prog 70 #[.int .i64 t, .int .i64 p] w fun e w' => e = .returned (.int .i64 v) ∧ Below w.heap.size w w' := by
  have HV := hid hv
  clear hv
  obtain ⟨t1, t2⟩ := ht
  obtain ⟨p1, p2⟩ := hp
  go_enter Tryd.func70, Tryd.ntmps70
  go_wp2
  go_ret
  exact ⟨ret_int (by rw [HV.out]), Below.refl _ _⟩

/-- Two pieces of a tile touch. -/
def tch (p q : Nat) : Bool := p != q && p + q != 6 && p + q != 8 || p != q && decide (p < 2) || p != q && decide (q < 2)
set_option maxHeartbeats 3200000 in
theorem touch_any (p q : Nat) (hp : p ≤ 5) (hq : q ≤ 5) (b : Bool) (hb : tch p q = b) (w : World) : Calls Tryd.prog 129 #[.int .i64 p, .int .i64 q] w fun e w' => e = .returned (.bool b) ∧ Below w.heap.size w w' := by
  rcases (show p = 0 ∨ p = 1 ∨ p = 2 ∨ p = 3 ∨ p = 4 ∨ p = 5 by omega) with rfl | rfl | rfl | rfl | rfl | rfl <;> rcases (show q = 0 ∨ q = 1 ∨ q = 2 ∨ q = 3 ∨ q = 4 ∨ q = 5 by omega) with rfl | rfl | rfl | rfl | rfl | rfl
  all_goals
    clear hp hq
    revert hb
    cases b <;> intro hb
    all_goals first
      | (exfalso; revert hb; decide)
      | (clear hb
         go_enter Tryd.func129, Tryd.ntmps129
         go_wp2_with fail
         go_quiet (fail)
         go_wp2_with fail
         go_ret
         exact ⟨rfl, Joins.below_draws _ _ _⟩)
end Go.Proofs.YtbfpcolkbfljoaaDoor
