/-
  The walks of the small functions: sides, sets, pieces, ends, spots turned round, of the program and of the reference.
-/
import Derived.Test.YtbfpcolkbfljoaaDoorRKit
namespace Go.Proofs.YtbfpcolkbfljoaaDoor
open Go.RowKit

set_option maxHeartbeats 400000 in
theorem sized_any (a b : Int) (w : World) : Calls Tryd.prog 93 #[.int .i64 a, .int .i64 b] w fun e w' => e = .returned (.bool (decide (4 ≤ a) && decide (a ≤ 32) && decide (4 ≤ b) && decide (b ≤ 32))) ∧ w = w' := by
  go_enter Tryd.func93, Tryd.ntmps93
  go_wp2
  all_goals go_ret
  all_goals exact ⟨ret_bool (by rw [Bool.eq_iff_iff]; simp; try omega), rfl⟩
theorem sized_yes {a b : Int} (h : Sized a b) (w : World) : Calls Tryd.prog 93 #[.int .i64 a, .int .i64 b] w fun e w' => e = .returned (.bool true) ∧ w = w' := by
  refine (sized_any a b w).mono fun e w' h' => ⟨h'.1.trans (ret_bool ?_), h'.2⟩
  obtain ⟨⟨h1, h2⟩, h3, h4⟩ := h
  simp [h1, h2, h3, h4]
theorem sized_no {a b : Int} (h : ¬ Sized a b) (w : World) : Calls Tryd.prog 93 #[.int .i64 a, .int .i64 b] w fun e w' => e = .returned (.bool false) ∧ w = w' := by
  refine (sized_any a b w).mono fun e w' h' => ⟨h'.1.trans (ret_bool ?_), h'.2⟩
  rw [Bool.eq_false_iff]; intro k; apply h; simp at k; unfold Sized; omega
set_option maxHeartbeats 400000 in
theorem isSet_any (a : Int) (w : World) : Calls Tryd.prog 94 #[.int .i64 a] w fun e w' => e = .returned (.bool (decide (0 ≤ a) && decide (a < 64))) ∧ w = w' := by
  go_enter Tryd.func94, Tryd.ntmps94
  go_wp2
  all_goals go_ret
  all_goals exact ⟨ret_bool (by rw [Bool.eq_iff_iff]; simp; try omega), rfl⟩
theorem isSet_yes {a : Int} (h : 0 ≤ a) (h2 : a ≤ 63) (w : World) : Calls Tryd.prog 94 #[.int .i64 a] w fun e w' => e = .returned (.bool true) ∧ w = w' := by
  refine (isSet_any a w).mono fun e w' h' => ⟨h'.1.trans (ret_bool ?_), h'.2⟩
  simp; omega
theorem isSet_no {a : Int} (h : ¬ (0 ≤ a ∧ a ≤ 63)) (w : World) : Calls Tryd.prog 94 #[.int .i64 a] w fun e w' => e = .returned (.bool false) ∧ w = w' := by
  refine (isSet_any a w).mono fun e w' h' => ⟨h'.1.trans (ret_bool ?_), h'.2⟩
  rw [Bool.eq_false_iff]; intro k; apply h; simp at k; omega
set_option maxHeartbeats 400000 in
theorem isPiece_any (a : Int) (w : World) : Calls Tryd.prog 127 #[.int .i64 a] w fun e w' => e = .returned (.bool (decide (0 ≤ a) && decide (a < 6))) ∧ w = w' := by
  go_enter Tryd.func127, Tryd.ntmps127
  go_wp2
  all_goals go_ret
  all_goals exact ⟨ret_bool (by rw [Bool.eq_iff_iff]; simp; try omega), rfl⟩
theorem isPiece_yes {a : Int} (h : 0 ≤ a ∧ a ≤ 5) (w : World) : Calls Tryd.prog 127 #[.int .i64 a] w fun e w' => e = .returned (.bool true) ∧ w = w' := by
  refine (isPiece_any a w).mono fun e w' h' => ⟨h'.1.trans (ret_bool ?_), h'.2⟩
  simp; omega
theorem isPiece_no {a : Int} (h : ¬ (0 ≤ a ∧ a ≤ 5)) (w : World) : Calls Tryd.prog 127 #[.int .i64 a] w fun e w' => e = .returned (.bool false) ∧ w = w' := by
  refine (isPiece_any a w).mono fun e w' h' => ⟨h'.1.trans (ret_bool ?_), h'.2⟩
  rw [Bool.eq_false_iff]; intro k; apply h; simp at k; omega

set_option maxHeartbeats 800000 in
theorem first_any (p : Int) (w : World) : Calls Tryd.prog 83 #[.int .i64 p] w fun e w' => e = .returned (.int .i64 (fst p)) ∧ w = w' := by
  by_cases h : 0 ≤ p ∧ p ≤ 5
  · rcases (show p = 0 ∨ p = 1 ∨ p = 2 ∨ p = 3 ∨ p = 4 ∨ p = 5 by omega) with rfl | rfl | rfl | rfl | rfl | rfl
    all_goals
      go_enter Tryd.func83, Tryd.ntmps83
      go_wp2
      go_ret
      exact ⟨rfl, rfl⟩
  · rw [fst_out h]
    have h0 : (p == 0) = false := by simp; omega
    have h1 : (p == 1) = false := by simp; omega
    have h2 : (p == 2) = false := by simp; omega
    have h3 : (p == 3) = false := by simp; omega
    have h4 : (p == 4) = false := by simp; omega
    have h5 : (p == 5) = false := by simp; omega
    clear h
    go_enter Tryd.func83, Tryd.ntmps83
    go_wp2
    go_ret
    exact ⟨rfl, rfl⟩
set_option maxHeartbeats 800000 in
theorem second_any (p : Int) (w : World) : Calls Tryd.prog 92 #[.int .i64 p] w fun e w' => e = .returned (.int .i64 (snd p)) ∧ w = w' := by
  by_cases h : 0 ≤ p ∧ p ≤ 5
  · rcases (show p = 0 ∨ p = 1 ∨ p = 2 ∨ p = 3 ∨ p = 4 ∨ p = 5 by omega) with rfl | rfl | rfl | rfl | rfl | rfl
    all_goals
      go_enter Tryd.func92, Tryd.ntmps92
      go_wp2
      go_ret
      exact ⟨rfl, rfl⟩
  · rw [snd_out h]
    have h0 : (p == 0) = false := by simp; omega
    have h1 : (p == 1) = false := by simp; omega
    have h2 : (p == 2) = false := by simp; omega
    have h3 : (p == 3) = false := by simp; omega
    have h4 : (p == 4) = false := by simp; omega
    have h5 : (p == 5) = false := by simp; omega
    clear h
    go_enter Tryd.func92, Tryd.ntmps92
    go_wp2
    go_ret
    exact ⟨rfl, rfl⟩

set_option maxHeartbeats 800000 in
theorem other_any (p s : Int) (w : World) : Calls Tryd.prog 122 #[.int .i64 p, .int .i64 s] w fun e w' => e = .returned (.int .i64 (oth p s)) ∧ w = w' := by
  obtain ⟨a, ha⟩ : ∃ a, a = fst p := ⟨_, rfl⟩
  obtain ⟨b, hb⟩ : ∃ b, b = snd p := ⟨_, rfl⟩
  have HA := hid ha
  have HB := hid hb
  have e : oth p s = if s < 0 then -1 else if a = s then b else if b = s then a else -1 := by rw [ha, hb]; rfl
  rw [e]
  clear ha hb e
  go_enter Tryd.func122, Tryd.ntmps122
  go_wp2_with (first | (go_at_call 83; refine (first_any _ _).mono ?_; rintro e w' ⟨rfl, rfl⟩; rw [← HA.out]) | (go_at_call 92; refine (second_any _ _).mono ?_; rintro e w' ⟨rfl, rfl⟩; rw [← HB.out]))
  all_goals go_ret
  all_goals exact ⟨ret_int (by simp_all), rfl⟩

set_option maxHeartbeats 1600000 in
theorem across_yes {p s : Int} (h : 0 ≤ oth p s) (w : World) (hT : Tab w) : Calls Tryd.prog 113 #[.int .i64 p, .int .i64 s] w fun e w' =>
    e = .returned (.tuple #[.int .i64 (oth p s), .bool true]) ∧ Below w.heap.size w w' := by
  obtain ⟨⟨c0, c1, c2, c3⟩, ⟨c4, c5, c6, c7⟩, ⟨c8, c9, c10, c11⟩, hz⟩ := hT.all
  clear hT
  obtain ⟨hp, h0, h3, h4, hs⟩ := oth_yes h
  rcases (show p = 0 ∨ p = 1 ∨ p = 2 ∨ p = 3 ∨ p = 4 ∨ p = 5 by omega) with rfl | rfl | rfl | rfl | rfl | rfl
  all_goals
    rcases hs with ⟨hs, he⟩ | ⟨hs, _, he⟩
    all_goals
      rw [he]
      simp [fst, snd] at hs
      clear h h0 h3 h4 hp he
      subst hs
      go_enter Tryd.func113, Tryd.ntmps113
      go_wp2_with (go_at_call 127; refine (isPiece_yes (by omega) _).mono ?_; rintro e w' ⟨rfl, rfl⟩)
      go_ret2
      exact ⟨rfl, Joins.below_alloc1 _ _⟩

set_option maxHeartbeats 1600000 in
theorem across_no {p s : Int} (h : oth p s < 0) (w : World) (hT : Tab w) : Calls Tryd.prog 113 #[.int .i64 p, .int .i64 s] w fun e w' =>
    e = .returned (.tuple #[.int .i64 0, .bool false]) ∧ Below w.heap.size w w' := by
  by_cases hp : 0 ≤ p ∧ p ≤ 5
  · obtain ⟨⟨c0, c1, c2, c3⟩, ⟨c4, c5, c6, c7⟩, ⟨c8, c9, c10, c11⟩, hz⟩ := hT.all
    clear hT
    have hs : ∀ a : Int, 0 ≤ a → (a = fst p ∨ a = snd p) → (s == a) = false := by
      intro a ha hab
      have h1 := fst_in hp.1 hp.2
      have h2 := snd_in hp.1 hp.2
      by_cases e : s = a
      · exfalso
        have h' : ¬ oth p s < 0 := by
          unfold oth
          rw [if_neg (by omega)]
          split
          · omega
          · split <;> omega
        exact h' h
      · simpa using e
    rcases (show p = 0 ∨ p = 1 ∨ p = 2 ∨ p = 3 ∨ p = 4 ∨ p = 5 by omega) with rfl | rfl | rfl | rfl | rfl | rfl
    all_goals
      have s1 := hs _ (fst_in (by omega) (by omega)).1 (.inl rfl)
      have s2 := hs _ (snd_in (by omega) (by omega)).1 (.inr rfl)
      simp only [fst, snd] at s1 s2
      simp at s1 s2
      clear h hp hs
      go_enter Tryd.func113, Tryd.ntmps113
      go_wp2_with (go_at_call 127; refine (isPiece_yes (by omega) _).mono ?_; rintro e w' ⟨rfl, rfl⟩)
      go_ret2
      exact ⟨rfl, Joins.below_alloc1 _ _⟩
  · clear h hT
    go_enter Tryd.func113, Tryd.ntmps113
    go_wp2_with (go_at_call 127; refine (isPiece_no hp _).mono ?_; rintro e w' ⟨rfl, rfl⟩)
    go_ret2
    exact ⟨rfl, Below.refl _ _⟩
end Go.Proofs.YtbfpcolkbfljoaaDoor
