/-
  The walks of the small functions: sides, sets, pieces, ends, spots turned round, of the program and of the reference.
-/
import Derived.Test.YtlpmahdplilbiabDoorKit
namespace Go.Proofs.YtlpmahdplilbiabDoor
open Go.RowKit

set_option maxHeartbeats 400000 in
theorem sized_any (a b : Int) (w : World) : Calls Tryd.prog 26 #[.int .i64 a, .int .i64 b] w fun e w' => e = .returned (.bool (decide (4 ≤ a) && decide (a ≤ 32) && decide (4 ≤ b) && decide (b ≤ 32))) ∧ w = w' := by
  go_enter Tryd.func26, Tryd.ntmps26
  go_wp2
  all_goals go_ret
  all_goals exact ⟨ret_bool (by rw [Bool.eq_iff_iff]; simp; try omega), rfl⟩
theorem sized_yes {a b : Int} (h : Sized a b) (w : World) : Calls Tryd.prog 26 #[.int .i64 a, .int .i64 b] w fun e w' => e = .returned (.bool true) ∧ w = w' := by
  refine (sized_any a b w).mono fun e w' h' => ⟨h'.1.trans (ret_bool ?_), h'.2⟩
  obtain ⟨⟨h1, h2⟩, h3, h4⟩ := h
  simp [h1, h2, h3, h4]
theorem sized_no {a b : Int} (h : ¬ Sized a b) (w : World) : Calls Tryd.prog 26 #[.int .i64 a, .int .i64 b] w fun e w' => e = .returned (.bool false) ∧ w = w' := by
  refine (sized_any a b w).mono fun e w' h' => ⟨h'.1.trans (ret_bool ?_), h'.2⟩
  rw [Bool.eq_false_iff]; intro k; apply h; simp at k; unfold Sized; omega
set_option maxHeartbeats 400000 in
theorem isSet_any (a : Int) (w : World) : Calls Tryd.prog 36 #[.int .i64 a] w fun e w' => e = .returned (.bool (decide (0 ≤ a) && decide (a < 64))) ∧ w = w' := by
  go_enter Tryd.func36, Tryd.ntmps36
  go_wp2
  all_goals go_ret
  all_goals exact ⟨ret_bool (by rw [Bool.eq_iff_iff]; simp; try omega), rfl⟩
theorem isSet_yes {a : Int} (h : 0 ≤ a) (h2 : a ≤ 63) (w : World) : Calls Tryd.prog 36 #[.int .i64 a] w fun e w' => e = .returned (.bool true) ∧ w = w' := by
  refine (isSet_any a w).mono fun e w' h' => ⟨h'.1.trans (ret_bool ?_), h'.2⟩
  simp; omega
theorem isSet_no {a : Int} (h : ¬ (0 ≤ a ∧ a ≤ 63)) (w : World) : Calls Tryd.prog 36 #[.int .i64 a] w fun e w' => e = .returned (.bool false) ∧ w = w' := by
  refine (isSet_any a w).mono fun e w' h' => ⟨h'.1.trans (ret_bool ?_), h'.2⟩
  rw [Bool.eq_false_iff]; intro k; apply h; simp at k; omega
set_option maxHeartbeats 400000 in
theorem isPiece_any (a : Int) (w : World) : Calls Tryd.prog 35 #[.int .i64 a] w fun e w' => e = .returned (.bool (decide (0 ≤ a) && decide (a < 6))) ∧ w = w' := by
  go_enter Tryd.func35, Tryd.ntmps35
  go_wp2
  all_goals go_ret
  all_goals exact ⟨ret_bool (by rw [Bool.eq_iff_iff]; simp; try omega), rfl⟩
theorem isPiece_yes {a : Int} (h : 0 ≤ a ∧ a ≤ 5) (w : World) : Calls Tryd.prog 35 #[.int .i64 a] w fun e w' => e = .returned (.bool true) ∧ w = w' := by
  refine (isPiece_any a w).mono fun e w' h' => ⟨h'.1.trans (ret_bool ?_), h'.2⟩
  simp; omega
theorem isPiece_no {a : Int} (h : ¬ (0 ≤ a ∧ a ≤ 5)) (w : World) : Calls Tryd.prog 35 #[.int .i64 a] w fun e w' => e = .returned (.bool false) ∧ w = w' := by
  refine (isPiece_any a w).mono fun e w' h' => ⟨h'.1.trans (ret_bool ?_), h'.2⟩
  rw [Bool.eq_false_iff]; intro k; apply h; simp at k; omega

set_option maxHeartbeats 1600000 in
theorem across_yes {p s : Int} (h : 0 ≤ oth p s) (w : World) (hT : Tab w) : Calls Tryd.prog 19 #[.int .i64 p, .int .i64 s] w fun e w' =>
    e = .returned (.tuple #[.int .i64 (oth p s), .bool true]) ∧ Below w.heap.size w w' := by
  obtain ⟨⟨c0, c1, c2, c3⟩, ⟨c4, c5, c6, c7⟩, ⟨c8, c9, c10, c11⟩, hz⟩ := hT.all
  clear hT
  obtain ⟨hp, h0, h3, h4, hs⟩ := oth_yes h
  rcases (show p = 0 ∨ p = 1 ∨ p = 2 ∨ p = 3 ∨ p = 4 ∨ p = 5 by omega) with rfl | rfl | rfl | rfl | rfl | rfl
  all_goals
    rcases hs with ⟨hs, he⟩ | ⟨hs, _, he⟩
    all_goals
      rw [he]
      simp [fst, snd] at hs
      clear h h0 h3 h4 hp he
      subst hs
      go_enter Tryd.func19, Tryd.ntmps19
      go_wp2_with (go_at_call 35; refine (isPiece_yes (by omega) _).mono ?_; rintro e w' ⟨rfl, rfl⟩)
      go_ret2
      exact ⟨rfl, Joins.below_alloc1 _ _⟩

set_option maxHeartbeats 1600000 in
theorem across_no {p s : Int} (h : oth p s < 0) (w : World) (hT : Tab w) : Calls Tryd.prog 19 #[.int .i64 p, .int .i64 s] w fun e w' =>
    e = .returned (.tuple #[.int .i64 0, .bool false]) ∧ Below w.heap.size w w' := by
  by_cases hp : 0 ≤ p ∧ p ≤ 5
  · obtain ⟨⟨c0, c1, c2, c3⟩, ⟨c4, c5, c6, c7⟩, ⟨c8, c9, c10, c11⟩, hz⟩ := hT.all
    clear hT
    have hs : ∀ a : Int, 0 ≤ a → (a = fst p ∨ a = snd p) → (s == a) = false := by
      intro a ha hab
      have h1 := fst_in hp.1 hp.2
      have h2 := snd_in hp.1 hp.2
      by_cases e : s = a
      · exfalso
        have h' : ¬ oth p s < 0 := by
          unfold oth
          rw [if_neg (by omega)]
          split
          · omega
          · split <;> omega
        exact h' h
      · simpa using e
    rcases (show p = 0 ∨ p = 1 ∨ p = 2 ∨ p = 3 ∨ p = 4 ∨ p = 5 by omega) with rfl | rfl | rfl | rfl | rfl | rfl
    all_goals
      have s1 := hs _ (fst_in (by omega) (by omega)).1 (.inl rfl)
      have s2 := hs _ (snd_in (by omega) (by omega)).1 (.inr rfl)
      simp only [fst, snd] at s1 s2
      simp at s1 s2
      clear h hp hs
      go_enter Tryd.func19, Tryd.ntmps19
      go_wp2_with (go_at_call 35; refine (isPiece_yes (by omega) _).mono ?_; rintro e w' ⟨rfl, rfl⟩)
      go_ret2
      exact ⟨rfl, Joins.below_alloc1 _ _⟩
  · clear h hT
    go_enter Tryd.func19, Tryd.ntmps19
    go_wp2_with (go_at_call 35; refine (isPiece_no hp _).mono ?_; rintro e w' ⟨rfl, rfl⟩)
    go_ret2
    exact ⟨rfl, Below.refl _ _⟩
end Go.Proofs.YtlpmahdplilbiabDoor
