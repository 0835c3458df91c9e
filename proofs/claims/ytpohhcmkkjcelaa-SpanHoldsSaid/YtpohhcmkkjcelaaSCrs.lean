/-
  Crossing a span: the walks of exit and Cross of the program, of Cross of the reference.
-/
import Derived.Test.YtpohhcmkkjcelaaSRLErr
namespace Go.Proofs.Ytpohhcmkkjcelaa
open Go.RowKit

/-- The direction in which one enters the first head, and the second one. -/
def dirA (W p q : Nat) : Int := if InRow W p q then 0 else 1
def dirB (W p q : Nat) : Int := if InRow W p q then 2 else 3
def GoA (W p q : Nat) (t s : Int) : Prop := t = p ∧ s = dirA W p q
def GoB (W p q : Nat) (t s : Int) : Prop := t = q ∧ s = dirB W p q
/-- Where one comes out of a span, if at all. -/
def OutOf (W p q : Nat) (t s ot : Int) : Prop := (GoA W p q t s ∧ ot = q) ∨ (¬ GoA W p q t s ∧ GoB W p q t s ∧ ot = p)

set_option maxHeartbeats 3200000 in
theorem exit_yes {W H : Nat} (hW1 : 4 ≤ W) (hW : W ≤ 32) (sl : Value) (k u : Int) (p q : Nat) (hp2 : p ≤ 1024) (hq2 : q ≤ 1024) (t s ot : Int) (h : OutOf W p q t s ot) (w : World) :
    Calls Try.prog 47 #[lv W H sl, sv k p q u, .int .i64 t, .int .i64 s] w fun e w' => e = .returned (.tuple #[.int .i64 ot, .bool true]) ∧ Below w.heap.size w w' := by
  obtain ⟨w0, hw0⟩ : ∃ w0, w0 = (w.alloc (.cells #[.int .i64 W, .int .i64 H, sl] 24)).alloc (.cells #[.int .i64 k, .int .i64 p, .int .i64 q, .int .i64 u] 26) := ⟨_, rfl⟩
  have hB0 : Below w.heap.size w w0 := by rw [hw0]; exact Joins.below_alloc2 _ _ _
  have hz : w.heap.size + 1 < w0.heap.size := by rw [hw0]; simp
  have x1 : w0.cell? ⟨w.heap.size + 1, 1, none⟩ = some (.int .i64 p) := by rw [hw0]; simp
  have x2 : w0.cell? ⟨w.heap.size + 1, 2, none⟩ = some (.int .i64 q) := by rw [hw0]; simp
  have HX := hid (And.intro hB0 (And.intro hz (And.intro x1 x2)))
  have HW := hid hw0
  clear hB0 hz x1 x2 hw0
  by_cases hir : InRow W p q
  · have HIR := hid hir
    have h' : (t = p ∧ s = 0 ∧ ot = q) ∨ (¬ (t = p ∧ s = 0) ∧ t = q ∧ s = 2 ∧ ot = p) := by
      unfold OutOf GoA GoB dirA dirB at h
      simp only [if_pos hir] at h
      rcases h with ⟨⟨h1, h2⟩, h3⟩ | ⟨h1, ⟨h2, h3⟩, h4⟩
      · exact .inl ⟨h1, h2, h3⟩
      · exact .inr ⟨h1, h2, h3, h4⟩
    clear h hir
    rcases h' with ⟨rfl, rfl, rfl⟩ | ⟨h1, rfl, rfl, rfl⟩
    · skip
      go_enter Try.func47, Try.ntmps47
      go_wp2_with fail
      refine (inRow_any W H hW1 hW _ k u p q hp2 hq2 true ⟨fun _ => HIR.out, fun _ => rfl⟩ _).mono ?_
      rintro e w1 ⟨rfl, hb⟩
      rw [← HW.out] at hb
      have x1 := (hb.cell (p := ⟨w.heap.size + 1, 1, none⟩) HX.out.2.1).trans HX.out.2.2.1
      have x2 := (hb.cell (p := ⟨w.heap.size + 1, 2, none⟩) HX.out.2.1).trans HX.out.2.2.2
      have HB := hid (HX.out.1.trans (hb.mono (by have := HX.out.2.1; omega)))
      clear hb
      go_wp2_with fail
      go_ret2
      exact ⟨rfl, HB.out⟩
    · have h2 : ((q : Int) == (p : Int)) = false ∨ ((2 : Int) == 0) = false := .inr (by decide)
      by_cases hpq : (q : Int) = p
      · have g1 : ((q : Int) == (p : Int)) = true := by rw [beq_iff_eq]; exact hpq
        have HQ := hid hpq
        clear hpq h1 h2
        go_enter Try.func47, Try.ntmps47
        go_wp2_with fail
        refine (inRow_any W H hW1 hW _ k u p q hp2 hq2 true ⟨fun _ => HIR.out, fun _ => rfl⟩ _).mono ?_
        rintro e w1 ⟨rfl, hb⟩
        rw [← HW.out] at hb
        have x1 := (hb.cell (p := ⟨w.heap.size + 1, 1, none⟩) HX.out.2.1).trans HX.out.2.2.1
        have x2 := (hb.cell (p := ⟨w.heap.size + 1, 2, none⟩) HX.out.2.1).trans HX.out.2.2.2
        have HB := hid (HX.out.1.trans (hb.mono (by have := HX.out.2.1; omega)))
        clear hb
        go_wp2_with fail
        go_ret2
        exact ⟨rfl, HB.out⟩
      · have g1 : ((q : Int) == (p : Int)) = false := by rw [beq_eq_false_iff_ne]; exact hpq
        clear hpq h1 h2
        go_enter Try.func47, Try.ntmps47
        go_wp2_with fail
        refine (inRow_any W H hW1 hW _ k u p q hp2 hq2 true ⟨fun _ => HIR.out, fun _ => rfl⟩ _).mono ?_
        rintro e w1 ⟨rfl, hb⟩
        rw [← HW.out] at hb
        have x1 := (hb.cell (p := ⟨w.heap.size + 1, 1, none⟩) HX.out.2.1).trans HX.out.2.2.1
        have x2 := (hb.cell (p := ⟨w.heap.size + 1, 2, none⟩) HX.out.2.1).trans HX.out.2.2.2
        have HB := hid (HX.out.1.trans (hb.mono (by have := HX.out.2.1; omega)))
        clear hb
        go_wp2_with fail
        go_ret2
        exact ⟨rfl, HB.out⟩
  · have HIR := hid hir
    have h' : (t = p ∧ s = 1 ∧ ot = q) ∨ (¬ (t = p ∧ s = 1) ∧ t = q ∧ s = 3 ∧ ot = p) := by
      unfold OutOf GoA GoB dirA dirB at h
      simp only [if_neg hir] at h
      rcases h with ⟨⟨h1, h2⟩, h3⟩ | ⟨h1, ⟨h2, h3⟩, h4⟩
      · exact .inl ⟨h1, h2, h3⟩
      · exact .inr ⟨h1, h2, h3, h4⟩
    clear h hir
    rcases h' with ⟨rfl, rfl, rfl⟩ | ⟨h1, rfl, rfl, rfl⟩
    · skip
      go_enter Try.func47, Try.ntmps47
      go_wp2_with fail
      refine (inRow_any W H hW1 hW _ k u p q hp2 hq2 false ⟨fun h => (by cases h), fun h => absurd h HIR.out⟩ _).mono ?_
      rintro e w1 ⟨rfl, hb⟩
      rw [← HW.out] at hb
      have x1 := (hb.cell (p := ⟨w.heap.size + 1, 1, none⟩) HX.out.2.1).trans HX.out.2.2.1
      have x2 := (hb.cell (p := ⟨w.heap.size + 1, 2, none⟩) HX.out.2.1).trans HX.out.2.2.2
      have HB := hid (HX.out.1.trans (hb.mono (by have := HX.out.2.1; omega)))
      clear hb
      go_wp2_with fail
      go_ret2
      exact ⟨rfl, HB.out⟩
    · have h2 : ((q : Int) == (p : Int)) = false ∨ ((3 : Int) == 1) = false := .inr (by decide)
      by_cases hpq : (q : Int) = p
      · have g1 : ((q : Int) == (p : Int)) = true := by rw [beq_iff_eq]; exact hpq
        have HQ := hid hpq
        clear hpq h1 h2
        go_enter Try.func47, Try.ntmps47
        go_wp2_with fail
        refine (inRow_any W H hW1 hW _ k u p q hp2 hq2 false ⟨fun h => (by cases h), fun h => absurd h HIR.out⟩ _).mono ?_
        rintro e w1 ⟨rfl, hb⟩
        rw [← HW.out] at hb
        have x1 := (hb.cell (p := ⟨w.heap.size + 1, 1, none⟩) HX.out.2.1).trans HX.out.2.2.1
        have x2 := (hb.cell (p := ⟨w.heap.size + 1, 2, none⟩) HX.out.2.1).trans HX.out.2.2.2
        have HB := hid (HX.out.1.trans (hb.mono (by have := HX.out.2.1; omega)))
        clear hb
        go_wp2_with fail
        go_ret2
        exact ⟨rfl, HB.out⟩
      · have g1 : ((q : Int) == (p : Int)) = false := by rw [beq_eq_false_iff_ne]; exact hpq
        clear hpq h1 h2
        go_enter Try.func47, Try.ntmps47
        go_wp2_with fail
        refine (inRow_any W H hW1 hW _ k u p q hp2 hq2 false ⟨fun h => (by cases h), fun h => absurd h HIR.out⟩ _).mono ?_
        rintro e w1 ⟨rfl, hb⟩
        rw [← HW.out] at hb
        have x1 := (hb.cell (p := ⟨w.heap.size + 1, 1, none⟩) HX.out.2.1).trans HX.out.2.2.1
        have x2 := (hb.cell (p := ⟨w.heap.size + 1, 2, none⟩) HX.out.2.1).trans HX.out.2.2.2
        have HB := hid (HX.out.1.trans (hb.mono (by have := HX.out.2.1; omega)))
        clear hb
        go_wp2_with fail
        go_ret2
        exact ⟨rfl, HB.out⟩

set_option maxHeartbeats 3200000 in
theorem exit_no {W H : Nat} (hW1 : 4 ≤ W) (hW : W ≤ 32) (sl : Value) (k u : Int) (p q : Nat) (hp2 : p ≤ 1024) (hq2 : q ≤ 1024) (t s : Int) (h : ¬ GoA W p q t s ∧ ¬ GoB W p q t s) (w : World) :
    Calls Try.prog 47 #[lv W H sl, sv k p q u, .int .i64 t, .int .i64 s] w fun e w' => e = .returned (.tuple #[.int .i64 0, .bool false]) ∧ Below w.heap.size w w' := by
  obtain ⟨w0, hw0⟩ : ∃ w0, w0 = (w.alloc (.cells #[.int .i64 W, .int .i64 H, sl] 24)).alloc (.cells #[.int .i64 k, .int .i64 p, .int .i64 q, .int .i64 u] 26) := ⟨_, rfl⟩
  have hB0 : Below w.heap.size w w0 := by rw [hw0]; exact Joins.below_alloc2 _ _ _
  have hz : w.heap.size + 1 < w0.heap.size := by rw [hw0]; simp
  have x1 : w0.cell? ⟨w.heap.size + 1, 1, none⟩ = some (.int .i64 p) := by rw [hw0]; simp
  have x2 : w0.cell? ⟨w.heap.size + 1, 2, none⟩ = some (.int .i64 q) := by rw [hw0]; simp
  have HX := hid (And.intro hB0 (And.intro hz (And.intro x1 x2)))
  have HW := hid hw0
  clear hB0 hz x1 x2 hw0
  by_cases hir : InRow W p q
  · have HIR := hid hir
    have h' : ¬ (t = p ∧ s = 0) ∧ ¬ (t = q ∧ s = 2) := by
      unfold GoA GoB dirA dirB at h
      simp only [if_pos hir] at h
      exact h
    clear h hir
    obtain ⟨h1, h2⟩ := h'
    by_cases e1 : t = p
    · have g1 : (t == (p : Int)) = true := by rw [beq_iff_eq]; exact e1
      have g2 : (s == 0) = false := by rw [beq_eq_false_iff_ne]; exact fun h => h1 ⟨e1, h⟩
      by_cases e2 : t = q
      · have g3 : (t == (q : Int)) = true := by rw [beq_iff_eq]; exact e2
        have g4 : (s == 2) = false := by rw [beq_eq_false_iff_ne]; exact fun h => h2 ⟨e2, h⟩
        clear h1 h2 e1 e2
        go_enter Try.func47, Try.ntmps47
        go_wp2_with fail
        refine (inRow_any W H hW1 hW _ k u p q hp2 hq2 true ⟨fun _ => HIR.out, fun _ => rfl⟩ _).mono ?_
        rintro e w1 ⟨rfl, hb⟩
        rw [← HW.out] at hb
        have x1 := (hb.cell (p := ⟨w.heap.size + 1, 1, none⟩) HX.out.2.1).trans HX.out.2.2.1
        have x2 := (hb.cell (p := ⟨w.heap.size + 1, 2, none⟩) HX.out.2.1).trans HX.out.2.2.2
        have HB := hid (HX.out.1.trans (hb.mono (by have := HX.out.2.1; omega)))
        clear hb
        go_wp2_with fail
        go_ret2
        exact ⟨rfl, HB.out⟩
      · have g3 : (t == (q : Int)) = false := by rw [beq_eq_false_iff_ne]; exact e2
        clear h1 h2 e1 e2
        go_enter Try.func47, Try.ntmps47
        go_wp2_with fail
        refine (inRow_any W H hW1 hW _ k u p q hp2 hq2 true ⟨fun _ => HIR.out, fun _ => rfl⟩ _).mono ?_
        rintro e w1 ⟨rfl, hb⟩
        rw [← HW.out] at hb
        have x1 := (hb.cell (p := ⟨w.heap.size + 1, 1, none⟩) HX.out.2.1).trans HX.out.2.2.1
        have x2 := (hb.cell (p := ⟨w.heap.size + 1, 2, none⟩) HX.out.2.1).trans HX.out.2.2.2
        have HB := hid (HX.out.1.trans (hb.mono (by have := HX.out.2.1; omega)))
        clear hb
        go_wp2_with fail
        go_ret2
        exact ⟨rfl, HB.out⟩
    · have g1 : (t == (p : Int)) = false := by rw [beq_eq_false_iff_ne]; exact e1
      by_cases e2 : t = q
      · have g3 : (t == (q : Int)) = true := by rw [beq_iff_eq]; exact e2
        have g4 : (s == 2) = false := by rw [beq_eq_false_iff_ne]; exact fun h => h2 ⟨e2, h⟩
        clear h1 h2 e1 e2
        go_enter Try.func47, Try.ntmps47
        go_wp2_with fail
        refine (inRow_any W H hW1 hW _ k u p q hp2 hq2 true ⟨fun _ => HIR.out, fun _ => rfl⟩ _).mono ?_
        rintro e w1 ⟨rfl, hb⟩
        rw [← HW.out] at hb
        have x1 := (hb.cell (p := ⟨w.heap.size + 1, 1, none⟩) HX.out.2.1).trans HX.out.2.2.1
        have x2 := (hb.cell (p := ⟨w.heap.size + 1, 2, none⟩) HX.out.2.1).trans HX.out.2.2.2
        have HB := hid (HX.out.1.trans (hb.mono (by have := HX.out.2.1; omega)))
        clear hb
        go_wp2_with fail
        go_ret2
        exact ⟨rfl, HB.out⟩
      · have g3 : (t == (q : Int)) = false := by rw [beq_eq_false_iff_ne]; exact e2
        clear h1 h2 e1 e2
        go_enter Try.func47, Try.ntmps47
        go_wp2_with fail
        refine (inRow_any W H hW1 hW _ k u p q hp2 hq2 true ⟨fun _ => HIR.out, fun _ => rfl⟩ _).mono ?_
        rintro e w1 ⟨rfl, hb⟩
        rw [← HW.out] at hb
        have x1 := (hb.cell (p := ⟨w.heap.size + 1, 1, none⟩) HX.out.2.1).trans HX.out.2.2.1
        have x2 := (hb.cell (p := ⟨w.heap.size + 1, 2, none⟩) HX.out.2.1).trans HX.out.2.2.2
        have HB := hid (HX.out.1.trans (hb.mono (by have := HX.out.2.1; omega)))
        clear hb
        go_wp2_with fail
        go_ret2
        exact ⟨rfl, HB.out⟩
  · have HIR := hid hir
    have h' : ¬ (t = p ∧ s = 1) ∧ ¬ (t = q ∧ s = 3) := by
      unfold GoA GoB dirA dirB at h
      simp only [if_neg hir] at h
      exact h
    clear h hir
    obtain ⟨h1, h2⟩ := h'
    by_cases e1 : t = p
    · have g1 : (t == (p : Int)) = true := by rw [beq_iff_eq]; exact e1
      have g2 : (s == 1) = false := by rw [beq_eq_false_iff_ne]; exact fun h => h1 ⟨e1, h⟩
      by_cases e2 : t = q
      · have g3 : (t == (q : Int)) = true := by rw [beq_iff_eq]; exact e2
        have g4 : (s == 3) = false := by rw [beq_eq_false_iff_ne]; exact fun h => h2 ⟨e2, h⟩
        clear h1 h2 e1 e2
        go_enter Try.func47, Try.ntmps47
        go_wp2_with fail
        refine (inRow_any W H hW1 hW _ k u p q hp2 hq2 false ⟨fun h => (by cases h), fun h => absurd h HIR.out⟩ _).mono ?_
        rintro e w1 ⟨rfl, hb⟩
        rw [← HW.out] at hb
        have x1 := (hb.cell (p := ⟨w.heap.size + 1, 1, none⟩) HX.out.2.1).trans HX.out.2.2.1
        have x2 := (hb.cell (p := ⟨w.heap.size + 1, 2, none⟩) HX.out.2.1).trans HX.out.2.2.2
        have HB := hid (HX.out.1.trans (hb.mono (by have := HX.out.2.1; omega)))
        clear hb
        go_wp2_with fail
        go_ret2
        exact ⟨rfl, HB.out⟩
      · have g3 : (t == (q : Int)) = false := by rw [beq_eq_false_iff_ne]; exact e2
        clear h1 h2 e1 e2
        go_enter Try.func47, Try.ntmps47
        go_wp2_with fail
        refine (inRow_any W H hW1 hW _ k u p q hp2 hq2 false ⟨fun h => (by cases h), fun h => absurd h HIR.out⟩ _).mono ?_
        rintro e w1 ⟨rfl, hb⟩
        rw [← HW.out] at hb
        have x1 := (hb.cell (p := ⟨w.heap.size + 1, 1, none⟩) HX.out.2.1).trans HX.out.2.2.1
        have x2 := (hb.cell (p := ⟨w.heap.size + 1, 2, none⟩) HX.out.2.1).trans HX.out.2.2.2
        have HB := hid (HX.out.1.trans (hb.mono (by have := HX.out.2.1; omega)))
        clear hb
        go_wp2_with fail
        go_ret2
        exact ⟨rfl, HB.out⟩
    · have g1 : (t == (p : Int)) = false := by rw [beq_eq_false_iff_ne]; exact e1
      by_cases e2 : t = q
      · have g3 : (t == (q : Int)) = true := by rw [beq_iff_eq]; exact e2
        have g4 : (s == 3) = false := by rw [beq_eq_false_iff_ne]; exact fun h => h2 ⟨e2, h⟩
        clear h1 h2 e1 e2
        go_enter Try.func47, Try.ntmps47
        go_wp2_with fail
        refine (inRow_any W H hW1 hW _ k u p q hp2 hq2 false ⟨fun h => (by cases h), fun h => absurd h HIR.out⟩ _).mono ?_
        rintro e w1 ⟨rfl, hb⟩
        rw [← HW.out] at hb
        have x1 := (hb.cell (p := ⟨w.heap.size + 1, 1, none⟩) HX.out.2.1).trans HX.out.2.2.1
        have x2 := (hb.cell (p := ⟨w.heap.size + 1, 2, none⟩) HX.out.2.1).trans HX.out.2.2.2
        have HB := hid (HX.out.1.trans (hb.mono (by have := HX.out.2.1; omega)))
        clear hb
        go_wp2_with fail
        go_ret2
        exact ⟨rfl, HB.out⟩
      · have g3 : (t == (q : Int)) = false := by rw [beq_eq_false_iff_ne]; exact e2
        clear h1 h2 e1 e2
        go_enter Try.func47, Try.ntmps47
        go_wp2_with fail
        refine (inRow_any W H hW1 hW _ k u p q hp2 hq2 false ⟨fun h => (by cases h), fun h => absurd h HIR.out⟩ _).mono ?_
        rintro e w1 ⟨rfl, hb⟩
        rw [← HW.out] at hb
        have x1 := (hb.cell (p := ⟨w.heap.size + 1, 1, none⟩) HX.out.2.1).trans HX.out.2.2.1
        have x2 := (hb.cell (p := ⟨w.heap.size + 1, 2, none⟩) HX.out.2.1).trans HX.out.2.2.2
        have HB := hid (HX.out.1.trans (hb.mono (by have := HX.out.2.1; omega)))
        clear hb
        go_wp2_with fail
        go_ret2
        exact ⟨rfl, HB.out⟩

/-- What Cross answers. -/
inductive CrossIs (W H : Int) (n : Nat) (Z : Nat → Int) (m : Nat) (S : Nat → Sp) (t s : Int) : Int → Int → Int → Prop where
  | list (e : Int) : e ≠ 0 → LErr W H n Z m S e → CrossIs W H n Z m S t s 0 0 e
  | arg : LErr W H n Z m S 0 → ¬ (0 ≤ s ∧ s ≤ 3) → CrossIs W H n Z m S t s 0 0 1
  | none : LErr W H n Z m S 0 → 0 ≤ s ∧ s ≤ 3 → (∀ j, j < m → ∀ p q : Nat, (S j).a = p → (S j).b = q → ¬ GoA W.toNat p q t s ∧ ¬ GoB W.toNat p q t s) → CrossIs W H n Z m S t s 0 0 2
  | ok (i p q : Nat) (ot : Int) : LErr W H n Z m S 0 → 0 ≤ s ∧ s ≤ 3 → i < m → (S i).a = p → (S i).b = q → OutOf W.toNat p q t s ot → (∀ j, j < i → ∀ p q : Nat, (S j).a = p → (S j).b = q → ¬ GoA W.toNat p q t s ∧ ¬ GoB W.toNat p q t s) → CrossIs W H n Z m S t s ot (cnt (stp W.toNat p q) p q : Nat) 0
theorem CrossIs.ex (W H : Int) (n : Nat) (Z : Nat → Int) (m : Nat) (S : Nat → Sp) (t s : Int) : ∃ ot c e, CrossIs W H n Z m S t s ot c e := by
  obtain ⟨e, he⟩ := LErr.ex W H n Z m S
  by_cases h0 : e = 0
  · subst h0
    by_cases hs : 0 ≤ s ∧ s ≤ 3
    · obtain ⟨W', H', rfl, rfl, hg, ha, hr⟩ := he.right
      have first : ∀ i, i ≤ m → (∀ j, j < i → ∀ p q : Nat, (S j).a = p → (S j).b = q → ¬ GoA (W' : Int).toNat p q t s ∧ ¬ GoB (W' : Int).toNat p q t s) ∨ ∃ ot c e, CrossIs W' H' n Z m S t s ot c e := by
        intro i
        induction i with
        | zero => exact fun _ => .inl fun j hj => absurd hj (Nat.not_lt_zero j)
        | succ i ih =>
          intro hi
          rcases ih (by omega) with h | h
          · obtain ⟨p, q, e1, e2, _⟩ := (hr i (by omega)).right
            by_cases h1 : GoA (W' : Int).toNat p q t s
            · exact .inr ⟨_, _, _, .ok i p q q he hs (by omega) e1 e2 (.inl ⟨h1, rfl⟩) h⟩
            · by_cases h2 : GoB (W' : Int).toNat p q t s
              · exact .inr ⟨_, _, _, .ok i p q p he hs (by omega) e1 e2 (.inr ⟨h1, h2, rfl⟩) h⟩
              · refine .inl fun j hj p' q' e1' e2' => ?_
                by_cases hj' : j < i
                · exact h j hj' p' q' e1' e2'
                · obtain rfl : j = i := by omega
                  obtain rfl : p = p' := by omega
                  obtain rfl : q = q' := by omega
                  exact ⟨h1, h2⟩
          · exact .inr h
      rcases first m (Nat.le_refl _) with h | h
      · exact ⟨_, _, _, .none he hs h⟩
      · exact h
    · exact ⟨_, _, _, .arg he hs⟩
  · exact ⟨_, _, _, .list e h0 he⟩

/-- A land's box, and a box of a span. -/
structure CM (W H : Int) (ao : Option Addr) (n cap : Nat) (Z : Nat → Int) (g : Nat) (k p q u : Int) (w wr : World) : Prop where
  lb : LB W H ao n cap Z w wr
  hg : wr.heap[g]? = some (.cells #[.int .i64 k, .int .i64 p, .int .i64 q, .int .i64 u] 26 (0, 0))
theorem CM.stays {W H : Int} {ao : Option Addr} {n cap : Nat} {Z : Nat → Int} {g : Nat} {k p q u : Int} {w wr w' : World} (h : CM W H ao n cap Z g k p q u w wr) (hb : Below wr.heap.size wr w') : CM W H ao n cap Z g k p q u w w' := ⟨h.lb.stays hb, kq0 hb h.hg⟩
theorem cm_keep {W H : Int} {ao : Option Addr} {n cap : Nat} {Z : Nat → Int} {g : Nat} {k p q u : Int} {w wr w' : World} {P : Prop} (h : CM W H ao n cap Z g k p q u w wr ∧ P) (hb : Below wr.heap.size wr w') :
    CM W H ao n cap Z g k p q u w w' ∧ w'.cell? ⟨w.heap.size, 0, none⟩ = some (.int .i64 W) ∧ w'.cell? ⟨w.heap.size, 1, none⟩ = some (.int .i64 H) ∧ w'.cell? ⟨w.heap.size, 2, none⟩ = some (.slice ao n cap) ∧ w'.cell? ⟨g, 0, none⟩ = some (.int .i64 k) ∧ w'.cell? ⟨g, 1, none⟩ = some (.int .i64 p) ∧ w'.cell? ⟨g, 2, none⟩ = some (.int .i64 q) ∧ w'.cell? ⟨g, 3, none⟩ = some (.int .i64 u) := by
  have h2 := h.1.stays hb
  obtain ⟨b0, b1, b2, b3, _⟩ := bx_facts4 h2.hg
  exact ⟨h2, h2.lb.c0, h2.lb.c1, h2.lb.c2, b0, b1, b2, b3⟩
theorem cm_ints {W H : Int} {ao : Option Addr} {n cap : Nat} {Z : Nat → Int} {g : Nat} {k p q u : Int} {w wr : World} {P : Prop} (h : CM W H ao n cap Z g k p q u w wr ∧ P) : Ints wr ao n Z := h.1.lb.ints
theorem LErr.same0 {W H : Int} {n : Nat} {Z : Nat → Int} {m : Nat} {S : Nat → Sp} {e : Int} (h : LErr W H n Z m S e) (h0 : LErr W H n Z m S 0) : e = 0 := by
  obtain ⟨W', H', rfl, rfl, hg, ha, hr⟩ := h0.right
  rcases h with ⟨hne, hv⟩ | ⟨W'', H'', e1, e2, hg', ⟨_, h⟩ | ⟨h, _⟩⟩
  · exact hv.one hg.err
  · obtain rfl : W' = W'' := by omega
    obtain rfl : H' = H'' := by omega
    exact absurd ⟨ha, hr⟩ h
  · exact h
theorem cm_below {W H : Int} {ao : Option Addr} {n cap : Nat} {Z : Nat → Int} {g : Nat} {k p q u : Int} {w wr : World} {P : Prop} (h : CM W H ao n cap Z g k p q u w wr ∧ P) : Below w.heap.size w wr := h.1.lb.below

set_option maxRecDepth 20000 in
set_option maxHeartbeats 12800000 in
theorem spcross_to (W H : Int) (ao : Option Addr) (n cap : Nat) (Z : Nat → Int) (hn : n ≤ 9223372036854775807) (lo : Option Addr) (m lcap : Nat) (S : Nat → Sp) (hm : m ≤ 300) (t s ot c e : Int) (h : CrossIs W H n Z m S t s ot c e) (w : World) (hI : Ints w ao n Z) (hS : SpansAt w lo m S) :
    Calls Try.prog 24 #[lv W H (.slice ao n cap), .slice lo m lcap, .int .i64 t, .int .i64 s] w fun r w' => r = .returned (.tuple #[.int .i64 ot, .int .i64 c, .int .i64 e]) ∧ Below w.heap.size w w' := by
  have HM := hid (lb_start (W := W) (H := H) (cap := cap) hI)
  have HS := hid hS
  have hm0 : (0 : Int) ≤ (m : Int) := by omega
  clear hI hS
  have hcase : (e ≠ 0 ∧ ot = 0 ∧ c = 0 ∧ LErr W H n Z m S e) ∨ (e = 1 ∧ ot = 0 ∧ c = 0 ∧ LErr W H n Z m S 0 ∧ ¬ (0 ≤ s ∧ s ≤ 3)) ∨ (LErr W H n Z m S 0 ∧ (0 ≤ s ∧ s ≤ 3) ∧ CrossIs W H n Z m S t s ot c e ∧ (e = 2 ∨ e = 0)) := by
    have h' := h
    cases h with
    | list e h0 h => exact .inl ⟨h0, rfl, rfl, h⟩
    | arg h1 h2 => exact .inr (.inl ⟨rfl, rfl, rfl, h1, h2⟩)
    | none h1 h2 h3 => exact .inr (.inr ⟨h1, h2, h', .inl rfl⟩)
    | ok i p q ot h1 h2 h3 h4 h5 h6 h7 => exact .inr (.inr ⟨h1, h2, h', .inr rfl⟩)
  clear h
  rcases hcase with ⟨h0, rfl, rfl, hv⟩ | ⟨rfl, rfl, rfl, hv, hs⟩ | ⟨hv, hs, hc, he⟩
  · have HV := hid hv
    have g : (e != 0) = true := by simpa using h0
    have g2 : (e == 0) = false := by simpa using h0
    clear hv
    go_enter Try.func24, Try.ntmps24
    go_upto_region 1 with fail
    generalize World.alloc w _ = wm at HM ⊢
    have c0 := HM.out.c0; have c1 := HM.out.c1; have c2 := HM.out.c2; have hz := HM.out.size
    go_wp2_with (go_at_call 36; (with_reducible refine (validateList_to W H ao n cap Z hn lo m lcap S hm e HV.out _ HM.out.ints (HS.out.stays HM.out.below)).mono ?_); rintro e w1 ⟨rfl, hb⟩; have HN := hid (HM.out.stays hb); clear hb c0 c1 c2 hz HM; have HM := HN; clear HN; have c0 := HM.out.c0; have c1 := HM.out.c1; have c2 := HM.out.c2; have hz := HM.out.size)
    go_ret3
    exact ⟨rfl, HM.out.below⟩
  · have HV := hid hv
    have hs2 : s < 0 ∨ (0 ≤ s ∧ 4 ≤ s) := by omega
    clear hv hs
    rcases hs2 with hs2 | ⟨hs2, hs3⟩
    all_goals
      go_enter Try.func24, Try.ntmps24
      go_upto_region 1 with fail
      generalize World.alloc w _ = wm at HM ⊢
      have c0 := HM.out.c0; have c1 := HM.out.c1; have c2 := HM.out.c2; have hz := HM.out.size
      go_wp2_with (go_at_call 36; (with_reducible refine (validateList_to W H ao n cap Z hn lo m lcap S hm 0 HV.out _ HM.out.ints (HS.out.stays HM.out.below)).mono ?_); rintro e w1 ⟨rfl, hb⟩; have HN := hid (HM.out.stays hb); clear hb c0 c1 c2 hz HM; have HM := HN; clear HN; have c0 := HM.out.c0; have c1 := HM.out.c1; have c2 := HM.out.c2; have hz := HM.out.size)
      go_ret3
      exact ⟨rfl, HM.out.below⟩
  · have HV := hid hv
    obtain ⟨W, H, rfl, rfl, hg, ha, hr⟩ := hv.right
    obtain ⟨hW1, hW2, hH1, hH2⟩ := hg.side
    have hms := mul_small hW2 hH2
    have HR := hid hr
    have HF : Hid (∀ i, i < m → (∀ j, j < i → ∀ p q : Nat, (S j).a = p → (S j).b = q → ¬ GoA W p q t s ∧ ¬ GoB W p q t s) → ∀ (p q : Nat) (o : Int), (S i).a = p → (S i).b = q → OutOf W p q t s o → ot = o ∧ c = (cnt (stp W p q) p q : Nat) ∧ e = 0) := hid (fun i hi hj p q o e1 e2 ho => by
      have hsome : GoA W p q t s ∨ GoB W p q t s := by rcases ho with ⟨h, _⟩ | ⟨_, h, _⟩; exact .inl h; exact .inr h
      cases hc with
      | list e h0 h => rcases he with rfl | rfl <;> first | exact absurd rfl h0 | (exact absurd (h.same0 hv) (by decide))
      | arg h1 h2 => exact absurd hs h2
      | none h1 h2 h3 => have := h3 i hi p q e1 e2; rw [Int.toNat_natCast] at this; rcases hsome with h | h; exact absurd h this.1; exact absurd h this.2
      | ok i' p' q' ot' h1 h2 h3 h4 h5 h6 h7 =>
        rw [Int.toNat_natCast] at h6 h7 ⊢
        have hii : i' = i := by
          rcases Nat.lt_trichotomy i' i with h | h | h
          · have := hj i' h p' q' h4 h5
            rcases h6 with ⟨k, _⟩ | ⟨_, k, _⟩
            · exact absurd k this.1
            · exact absurd k this.2
          · exact h
          · have := h7 i h p q e1 e2
            rcases hsome with k | k
            · exact absurd k this.1
            · exact absurd k this.2
        subst hii
        obtain rfl : p' = p := by omega
        obtain rfl : q' = q := by omega
        refine ⟨?_, rfl, rfl⟩
        rcases h6 with ⟨k1, k2⟩ | ⟨k1, k2, k3⟩ <;> rcases ho with ⟨l1, l2⟩ | ⟨l1, l2, l3⟩ <;> first | omega | exact absurd k1 l1 | exact absurd l1 k1)
    have HZ : Hid ((∀ j, j < m → ∀ p q : Nat, (S j).a = p → (S j).b = q → ¬ GoA W p q t s ∧ ¬ GoB W p q t s) → ot = 0 ∧ c = 0 ∧ e = 2) := hid (fun hj => by
      cases hc with
      | list e h0 h => rcases he with rfl | rfl <;> first | exact absurd rfl h0 | (exact absurd (h.same0 hv) (by decide))
      | arg h1 h2 => exact absurd hs h2
      | none h1 h2 h3 => exact ⟨rfl, rfl, rfl⟩
      | ok i' p' q' ot' h1 h2 h3 h4 h5 h6 h7 =>
        rw [Int.toNat_natCast] at h6
        have := hj i' h3 p' q' h4 h5
        rcases h6 with ⟨k, _⟩ | ⟨_, k, _⟩
        · exact absurd k this.1
        · exact absurd k this.2)
    obtain ⟨hs1, hs2⟩ := hs
    have hs3 : s < 4 := by omega
    clear hv hg ha hr hc
    go_enter Try.func24, Try.ntmps24
    go_upto_region 1 with fail
    generalize World.alloc w _ = wm at HM ⊢
    have c0 := HM.out.c0; have c1 := HM.out.c1; have c2 := HM.out.c2; have hz := HM.out.size
    go_upto_region 6 with (go_at_call 36; (with_reducible refine (validateList_to W H ao n cap Z hn lo m lcap S hm 0 HV.out _ HM.out.ints (HS.out.stays HM.out.below)).mono ?_); rintro e w1 ⟨rfl, hb⟩; have HN := hid (HM.out.stays hb); clear hb c0 c1 c2 hz HM; have HM := HN; clear HN; have c0 := HM.out.c0; have c1 := HM.out.c1; have c2 := HM.out.c2; have hz := HM.out.size)
    have HN := hid HM.out
    clear c0 c1 c2 hz HM he
    go_wp2_with fail
    go_loopw [30] (fun iv wr => ∃ i : Nat, i ≤ m ∧ iv = .int .i64 i ∧ Hid (∀ j, j < i → ∀ p q : Nat, (S j).a = p → (S j).b = q → ¬ GoA W p q t s ∧ ¬ GoB W p q t s) ∧ Hid (LB W H ao n cap Z w wr)) (fun iv _ => m - (intOf iv).toNat)
    case atStart => exact ⟨0, Nat.zero_le _, rfl, hid (fun j hj => by omega), HN⟩
    case round =>
      obtain ⟨i, hi, rfl, hk, hB⟩ := hrel
      clear HN
      by_cases hlt : i < m
      · obtain ⟨bl, off, rfl, hbz, q0, q1, q2, q3⟩ := (HS.out.stays hB.out.below) i hlt
        obtain ⟨p, q, e1, e2, hrt⟩ := (HR.out i hlt).right
        obtain ⟨k, hkk⟩ : ∃ k, k = (S i).k := ⟨_, rfl⟩
        obtain ⟨u, hu⟩ : ∃ u, u = (S i).u := ⟨_, rfl⟩
        rw [e1] at q1
        rw [e2] at q2
        rw [← hkk] at q0
        rw [← hu] at q3
        have HE := hid (And.intro e1 e2)
        have hp2 : p ≤ 1024 := by have := hrt.ha; omega
        have hq2 : q ≤ 1024 := by have := hrt.hb; omega
        have HL := hid hrt.line
        have hi0 : (0 : Int) ≤ (i : Int) := by omega
        have hi1 : (i : Int) < (m : Int) := by omega
        clear e1 e2 hkk hu hrt
        go_upto_region 9 with fail
        have HB9 := hid (CM.mk (hB.out.stays (Joins.below_alloc1 wr (.cells #[.int .i64 k, .int .i64 p, .int .i64 q, .int .i64 u] 26))) (World.alloc_heap_new wr _))
        generalize World.alloc wr _ = wq at HB9 ⊢
        generalize wr.heap.size = g at HB9 ⊢
        obtain ⟨_, c0, c1, c2, b0, b1, b2, b3⟩ := cm_keep (And.intro HB9.out trivial) (Below.refl _ _)
        have hz := HB9.out.lb.size
        have hgz := heap_lt HB9.out.hg
        clear q0 q1 q2 q3 hbz
        by_cases ho : ¬ GoA W p q t s ∧ ¬ GoB W p q t s
        · have HO := hid ho
          clear ho
          go_wp2_with (go_at_call 47; (with_reducible refine (exit_no hW1 hW2 _ k u p q hp2 hq2 t s HO.out _).mono ?_); rintro e w1 ⟨rfl, hb⟩; have HN9 := hid (HB9.out.stays hb); clear hb c0 c1 c2 b0 b1 b2 b3 hz hgz HB9; have HB9 := HN9; clear HN9; obtain ⟨_, c0, c1, c2, b0, b1, b2, b3⟩ := cm_keep (And.intro HB9.out trivial) (Below.refl _ _); have hz := HB9.out.lb.size; have hgz := heap_lt HB9.out.hg)
          have HL9 := hid HB9.out.lb
          clear c0 c1 c2 b0 b1 b2 b3 hz hgz HB9 hB
          go_roundw
          case rel =>
            refine ⟨i + 1, by omega, by go_num, hid (fun j hj p' q' e1 e2 => ?_), HL9⟩
            by_cases h : j < i
            · exact hk.out j h p' q' e1 e2
            · obtain rfl : j = i := by omega
              obtain rfl : p' = p := by have := HE.out.1; omega
              obtain rfl : q' = q := by have := HE.out.2; omega
              exact HO.out
          case measure => simp [intOf]; omega
        · have hO : ∃ o, OutOf W p q t s o := by
            by_cases h1 : GoA W p q t s
            · exact ⟨_, .inl ⟨h1, rfl⟩⟩
            · by_cases h2 : GoB W p q t s
              · exact ⟨_, .inr ⟨h1, h2, rfl⟩⟩
              · exact absurd ⟨h1, h2⟩ ho
          obtain ⟨o, hO⟩ := hO
          have HO := hid hO
          have HX := hid (HF.out i hlt hk.out p q o HE.out.1 HE.out.2 hO)
          clear ho hO
          go_wp2_with (first | (go_at_call 47; (with_reducible refine (exit_yes hW1 hW2 _ k u p q hp2 hq2 t s o HO.out _).mono ?_); rintro e w1 ⟨rfl, hb⟩; have HN9 := hid (HB9.out.stays hb); clear hb c0 c1 c2 b0 b1 b2 b3 hz hgz HB9; have HB9 := HN9; clear HN9; obtain ⟨_, c0, c1, c2, b0, b1, b2, b3⟩ := cm_keep (And.intro HB9.out trivial) (Below.refl _ _); have hz := HB9.out.lb.size; have hgz := heap_lt HB9.out.hg) | (go_at_call 48; (with_reducible refine (length_any W H hW1 hW2 ao n cap Z k u p q hp2 hq2 HL.out _ HB9.out.lb.ints).mono ?_); rintro e w1 ⟨rfl, hb⟩; have HN9 := hid (HB9.out.stays hb); clear hb c0 c1 c2 b0 b1 b2 b3 hz hgz HB9; have HB9 := HN9; clear HN9; obtain ⟨_, c0, c1, c2, b0, b1, b2, b3⟩ := cm_keep (And.intro HB9.out trivial) (Below.refl _ _); have hz := HB9.out.lb.size; have hgz := heap_lt HB9.out.hg))
          go_ret3
          exact ⟨by rw [HX.out.1, HX.out.2.1, HX.out.2.2]; rfl, HB9.out.lb.below⟩
      · obtain rfl : i = m := by omega
        have HX := hid (HZ.out hk.out)
        go_wp2_with fail
        go_ret3
        exact ⟨by rw [HX.out.1, HX.out.2.1, HX.out.2.2]; rfl, hB.out.below⟩
end Go.Proofs.Ytpohhcmkkjcelaa
