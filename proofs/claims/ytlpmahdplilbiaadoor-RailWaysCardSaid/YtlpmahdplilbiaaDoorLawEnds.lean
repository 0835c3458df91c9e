/-
  The walk of the law on the ends of pieces and on spots turned round.
-/
import Derived.Test.YtlpmahdplilbiaaDoorWalkBack
namespace Go.Proofs.YtlpmahdplilbiaaDoor
open Go.RowKit

def EndsIs (p x y f : Int) : Prop := ((0 ≤ p ∧ p ≤ 5) ∧ x = fst p ∧ y = snd p ∧ f = 0) ∨ (¬ (0 ≤ p ∧ p ≤ 5) ∧ x = 0 ∧ y = 0 ∧ f = 1)
theorem EndsIs.ex (p : Int) : ∃ x y f, EndsIs p x y f := by
  by_cases h : 0 ≤ p ∧ p ≤ 5
  · exact ⟨_, _, _, .inl ⟨h, rfl, rfl, rfl⟩⟩
  · exact ⟨_, _, _, .inr ⟨h, rfl, rfl, rfl⟩⟩
theorem ends_to {p x y f : Int} (h : EndsIs p x y f) (w : World) (hT : Tab w) : Calls Tryd.prog 21 #[.int .i64 p] w fun e w' =>
    e = .returned (.tuple #[.int .i64 x, .int .i64 y, .int .i64 f]) ∧ Below w.heap.size w w' := by
  rcases h with ⟨h, rfl, rfl, rfl⟩ | ⟨h, rfl, rfl, rfl⟩
  · exact ends_yes h w hT
  · exact ends_no h w
theorem refends_to {p x y f : Int} (h : EndsIs p x y f) (w : World) : Calls Tryd.prog 19 #[.int .i64 p] w fun e w' =>
    e = .returned (.tuple #[.int .i64 x, .int .i64 y, .int .i64 f]) ∧ w = w' := by
  rcases h with ⟨h, rfl, rfl, rfl⟩ | ⟨h, rfl, rfl, rfl⟩
  · exact refends_yes h w
  · exact refends_no h w
def BackIs (t p s t' p' s' g : Int) : Prop := (0 ≤ oth p s ∧ t' = t ∧ p' = p ∧ s' = oth p s ∧ g = 0) ∨ (oth p s < 0 ∧ t' = 0 ∧ p' = 0 ∧ s' = 0 ∧ g = 1)
theorem BackIs.ex (t p s : Int) : ∃ t' p' s' g, BackIs t p s t' p' s' g := by
  by_cases h : 0 ≤ oth p s
  · exact ⟨_, _, _, _, .inl ⟨h, rfl, rfl, rfl, rfl⟩⟩
  · exact ⟨_, _, _, _, .inr ⟨by omega, rfl, rfl, rfl, rfl⟩⟩
theorem BackIs.twice {t p s t' p' s' u q r i : Int} (h : BackIs t p s t' p' s' 0) (k : BackIs t' p' s' u q r i) : u = t ∧ q = p ∧ r = s ∧ i = 0 := by
  rcases h with ⟨h, rfl, rfl, rfl, _⟩ | ⟨_, _, _, _, h⟩
  · have hb := oth_back h
    rcases k with ⟨_, rfl, rfl, rfl, rfl⟩ | ⟨k, _⟩
    · exact ⟨rfl, rfl, hb, rfl⟩
    · have := (oth_yes h).2.1; omega
  · omega
theorem BackIs.err {t p s t' p' s' g : Int} (h : BackIs t p s t' p' s' g) : g = 0 ∨ g = 1 := by
  rcases h with ⟨_, _, _, _, h⟩ | ⟨_, _, _, _, h⟩
  · exact .inl h
  · exact .inr h
theorem back_to {t p s t' p' s' g : Int} (h : BackIs t p s t' p' s' g) (w : World) (hT : Tab w) : Calls Tryd.prog 22 #[sv t p s] w fun e w' =>
    e = .returned (.tuple #[sv t' p' s', .int .i64 g]) ∧ Below w.heap.size w w' := by
  rcases h with ⟨h, rfl, rfl, rfl, rfl⟩ | ⟨h, rfl, rfl, rfl, rfl⟩
  · exact back_yes h rfl w hT
  · exact back_no h w hT
theorem refback_to {t p s t' p' s' g : Int} (h : BackIs t p s t' p' s' g) (w : World) : Calls Tryd.prog 20 #[sv t p s] w fun e w' =>
    e = .returned (.tuple #[sv t' p' s', .int .i64 g]) ∧ Below w.heap.size w w' := by
  rcases h with ⟨h, rfl, rfl, rfl, rfl⟩ | ⟨h, rfl, rfl, rfl, rfl⟩
  · exact refback_yes h rfl w
  · exact refback_no h w

set_option maxHeartbeats 1600000 in
theorem walk_ends (p t q s : Int) (w : World) (hT : Tab w) : Calls Tryd.prog 4 #[.int .i64 p, sv t q s] w fun e w' => e = .returned (.bool true) ∧ Below w.heap.size w w' := by
  obtain ⟨x, y, f, hE⟩ := EndsIs.ex p
  obtain ⟨t', p', s', g, hB⟩ := BackIs.ex t q s
  obtain ⟨u, v, r, i, hC⟩ := BackIs.ex t' p' s'
  have HE := hid hE
  have HB := hid hB
  have HC := hid hC
  have HT0 := hid (hT.stays (Joins.below_alloc1 w (.cells #[.int .i64 t, .int .i64 q, .int .i64 s] 31)))
  have HW := hid (Joins.below_alloc1 w (.cells #[.int .i64 t, .int .i64 q, .int .i64 s] 31))
  clear hE hB hC hT
  go_enter Tryd.func4, Tryd.ntmps4
  go_wp2_with fail
  refine (refends_to HE.out _).mono ?_
  rintro e w' ⟨rfl, rfl⟩
  go_wp2_with fail
  refine (refback_to HB.out _).mono ?_
  rintro e w1 ⟨rfl, hb1⟩
  obtain ⟨hz1, hc1, hb1'⟩ := after hb1
  have HB1 := hid hb1'
  have HT1 := hid (HT0.out.stays hb1)
  have HW1 := hid (step HW.out (hb1.mono (Nat.le_refl _)))
  have c0 : w1.cell? ⟨w.heap.size, 0, none⟩ = some (.int .i64 t) := hc1 0
  have c1 : w1.cell? ⟨w.heap.size, 1, none⟩ = some (.int .i64 q) := hc1 1
  have c2 : w1.cell? ⟨w.heap.size, 2, none⟩ = some (.int .i64 s) := hc1 2
  clear hb1 hb1' hc1 HW HT0 HB1
  obtain ⟨B, hB⟩ : ∃ B, B = w.heap.size := ⟨_, rfl⟩
  have HBB := hid hB
  rw [← hB] at hz1 c0 c1 c2
  rw [← hB]
  clear hB
  have HT2 := hid (HT1.out.stays (Joins.below_alloc1 w1 (.cells #[.int .i64 t', .int .i64 p', .int .i64 s'] 31)))
  have HW2 := hid (add HW1.out (.cells #[.int .i64 t', .int .i64 p', .int .i64 s'] 31))
  clear HT1 HW1
  go_wp2_with fail
  refine (ends_to HE.out _ HT2.out).mono ?_
  rintro e w2 ⟨rfl, hb2⟩
  obtain ⟨U, hU⟩ : ∃ U, U = w1.heap.size := ⟨_, rfl⟩
  obtain ⟨hz2, hc2, hb2'⟩ := after hb2
  have HT3 := hid (HT2.out.stays hb2)
  have HW3 := hid (step HW2.out hb2)
  have d0 : w2.cell? ⟨U, 0, none⟩ = some (.int .i64 t') := by rw [hU]; exact hc2 0
  have d1 : w2.cell? ⟨U, 1, none⟩ = some (.int .i64 p') := by rw [hU]; exact hc2 1
  have d2 : w2.cell? ⟨U, 2, none⟩ = some (.int .i64 s') := by rw [hU]; exact hc2 2
  have e0 := (hb2'.cell (p := ⟨B, 0, none⟩) hz1).trans c0
  have e1 := (hb2'.cell (p := ⟨B, 1, none⟩) hz1).trans c1
  have e2 := (hb2'.cell (p := ⟨B, 2, none⟩) hz1).trans c2
  rw [← hU] at hz1 hz2 ⊢
  clear hU hb2 hc2 hb2' c0 c1 c2 HT2 HW2
  go_wp2_with fail
  refine (back_to HB.out _ HT3.out).mono ?_
  rintro e w3 ⟨rfl, hb3⟩
  have hz3 : U < w3.heap.size := by have := hb3.size; omega
  have HT4 := hid ((HT3.out.stays hb3).stays (Joins.below_alloc1 w3 (.cells #[.int .i64 t', .int .i64 p', .int .i64 s'] 31)))
  have HW4 := hid (add (step HW3.out hb3) (.cells #[.int .i64 t', .int .i64 p', .int .i64 s'] 31))
  have c0 := (hb3.cell (p := ⟨B, 0, none⟩) (Nat.lt_trans hz1 hz2)).trans e0
  have c1 := (hb3.cell (p := ⟨B, 1, none⟩) (Nat.lt_trans hz1 hz2)).trans e1
  have c2 := (hb3.cell (p := ⟨B, 2, none⟩) (Nat.lt_trans hz1 hz2)).trans e2
  have u0 := (hb3.cell (p := ⟨U, 0, none⟩) hz2).trans d0
  have u1 := (hb3.cell (p := ⟨U, 1, none⟩) hz2).trans d1
  have u2 := (hb3.cell (p := ⟨U, 2, none⟩) hz2).trans d2
  have hBV : B < w3.heap.size := by omega
  clear hb3 d0 d1 d2 e0 e1 e2 HT3 HW3
  go_wp2_with fail
  refine (back_to HC.out _ HT4.out).mono ?_
  rintro e w4 ⟨rfl, hb4⟩
  have HT5 := hid ((HT4.out.stays hb4).stays (Joins.below_alloc1 w4 (.cells #[.int .i64 u, .int .i64 v, .int .i64 r] 31)))
  have HW5 := hid (add (step HW4.out hb4) (.cells #[.int .i64 u, .int .i64 v, .int .i64 r] 31))
  have hB4 : B < w4.heap.size := by have := hb4.size; simp at this; omega
  have e0 := (hb4.cell (p := ⟨B, 0, none⟩) (by simp; omega)).trans ((World.cell?_alloc_past _ _ _ hBV).trans c0)
  have e1 := (hb4.cell (p := ⟨B, 1, none⟩) (by simp; omega)).trans ((World.cell?_alloc_past _ _ _ hBV).trans c1)
  have e2 := (hb4.cell (p := ⟨B, 2, none⟩) (by simp; omega)).trans ((World.cell?_alloc_past _ _ _ hBV).trans c2)
  clear hb4 c0 c1 c2 HT4 HW4
  rcases HB.out.err with rfl | rfl
  · obtain ⟨rfl, rfl, rfl, rfl⟩ := HB.out.twice HC.out
    clear HB HC
    go_wp2_with fail
    refine (known_any _ HT5.out).mono ?_
    rintro r w5 ⟨rfl, hb5⟩
    have HW6 := hid (step HW5.out hb5)
    clear hb5
    go_wp2_with fail
    go_ret
    exact ⟨rfl, HW6.out⟩
  · clear HB HC
    go_wp2_with fail
    refine (known_any _ HT5.out).mono ?_
    rintro r w5 ⟨rfl, hb5⟩
    have HW6 := hid (step HW5.out hb5)
    clear hb5
    go_wp2_with fail
    go_ret
    exact ⟨rfl, HW6.out⟩
end Go.Proofs.YtlpmahdplilbiaaDoor
