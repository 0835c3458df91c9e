/-
  The walks of Cost, of the program and of the reference, and of the law on costs.
-/
import Derived.Test.YtlpmahdplilbiaaDoorWalkBack
namespace Go.Proofs.YtlpmahdplilbiaaDoor
open Go.RowKit

theorem as_fin {z : Int} {n : Nat} (h0 : 0 ≤ z) (h1 : z < n) : ∃ k : Fin n, z = ((k : Nat) : Int) := ⟨⟨z.toNat, by omega⟩, by simp; omega⟩
set_option maxHeartbeats 1600000 in
theorem ones64 (z : Int) (h0 : 0 ≤ z) (h1 : z ≤ 63) (w : World) : Calls Tryd.prog 68 #[.int .u64 z] w fun e w' => e = .returned (.int .i64 (pop z)) ∧ w = w' := by
  go_enter Tryd.func68, Tryd.ntmps68
  go_wp2
  go_ret
  refine ⟨ret_int ?_, rfl⟩
  obtain ⟨k, rfl⟩ := as_fin (n := 64) h0 (by omega)
  clear h0 h1
  revert k
  decide +kernel
set_option maxHeartbeats 1600000 in
theorem ones_any (z : Int) (h0 : 0 ≤ z) (h1 : z ≤ 63) (w : World) : Calls Tryd.prog 46 #[.int .u64 z] w fun e w' => e = .returned (.int .i64 (pop z)) ∧ w = w' := by
  have e : IntKind.u64.wrap z = z := by rw [IntKind.wrap_u64]; omega
  go_enter Tryd.func46, Tryd.ntmps46
  go_wp2_with (go_at_call 68; refine (ones64 z h0 h1 _).mono ?_; rintro e w' ⟨rfl, rfl⟩)
  go_ret
  exact ⟨rfl, rfl⟩
theorem ret2 {a b c d : Int} (h : a = c) (h' : b = d) : Ending.returned (.tuple #[.int .i64 a, .int .i64 b]) = .returned (.tuple #[.int .i64 c, .int .i64 d]) := by rw [h, h']
/-- The ground carries a set of pieces that goes up along a slope. -/
def up (sl z : Int) : Bool := decide (z = 1 ∧ (sl = 6 ∨ sl = 9) ∨ z = 2 ∧ (sl = 3 ∨ sl = 12))
theorem up_iff (sl z : Int) : up sl z = true ↔ (z = 1 ∧ (sl = 6 ∨ sl = 9) ∨ z = 2 ∧ (sl = 3 ∨ sl = 12)) := by unfold up; simp
theorem pop_bd (z : Int) : 0 ≤ pop z ∧ pop z ≤ 6 := by unfold pop; omega
set_option maxHeartbeats 1600000 in
theorem climbs_any (sl z : Int) (b : Bool) (hb : up sl z = b) (w : World) : Calls Tryd.prog 47 #[.int .i64 sl, .int .i64 z] w fun e w' => e = .returned (.bool b) ∧ w = w' := by
  have HB : Hid (b = true ↔ (z = 1 ∧ (sl = 6 ∨ sl = 9) ∨ z = 2 ∧ (sl = 3 ∨ sl = 12))) := hid (by rw [← hb]; exact up_iff sl z)
  clear hb
  go_enter Tryd.func47, Tryd.ntmps47
  go_wp2
  all_goals go_ret
  all_goals (refine ⟨ret_bool ?_, rfl⟩; rw [Bool.eq_iff_iff, HB.out]; simp only [beq_iff_eq, beq_eq_false_iff_ne, Bool.false_eq_true] at *; first | omega | (simp; omega))

/-- What a set costs on a slope, and the error. -/
def cst (sl z : Int) : Int := if 0 ≤ sl ∧ sl ≤ 15 ∧ 1 ≤ z ∧ z ≤ 63 then (if sl = 0 ∨ up sl z = true then pop z * 300 else pop z * 300 + 200) else 0
def cer (sl z : Int) : Int := if 0 ≤ sl ∧ sl ≤ 31 ∧ 0 ≤ z ∧ z ≤ 63 then (if z = 0 then 0 else if 16 ≤ sl then 5 else 0) else 1
theorem cer_bad {sl z : Int} (h : ¬ (0 ≤ sl ∧ sl ≤ 31 ∧ 0 ≤ z ∧ z ≤ 63)) : cer sl z = 1 ∧ cst sl z = 0 := by
  unfold cer cst; rw [if_neg h, if_neg (by omega)]; exact ⟨rfl, rfl⟩
theorem cer_nil {sl z : Int} (h : 0 ≤ sl ∧ sl ≤ 31 ∧ 0 ≤ z ∧ z ≤ 63) (h0 : z = 0) : cer sl z = 0 ∧ cst sl z = 0 := by
  unfold cer cst; rw [if_pos h, if_pos h0, if_neg (by omega)]; exact ⟨rfl, rfl⟩
theorem cer_steep {sl z : Int} (h : 0 ≤ sl ∧ sl ≤ 31 ∧ 0 ≤ z ∧ z ≤ 63) (h0 : z ≠ 0) (h1 : 16 ≤ sl) : cer sl z = 5 ∧ cst sl z = 0 := by
  unfold cer cst; rw [if_pos h, if_neg h0, if_pos h1, if_neg (by omega)]; exact ⟨rfl, rfl⟩
theorem cer_free {sl z : Int} (h : 0 ≤ sl ∧ sl ≤ 15 ∧ 1 ≤ z ∧ z ≤ 63) (h0 : sl = 0 ∨ up sl z = true) : cer sl z = 0 ∧ cst sl z = pop z * 300 := by
  unfold cer cst; rw [if_pos (by omega), if_pos h, if_neg (by omega), if_neg (by omega), if_pos h0]; exact ⟨rfl, rfl⟩
theorem cer_base {sl z : Int} (h : 0 ≤ sl ∧ sl ≤ 15 ∧ 1 ≤ z ∧ z ≤ 63) (h0 : sl ≠ 0) (h1 : up sl z = false) : cer sl z = 0 ∧ cst sl z = pop z * 300 + 200 := by
  unfold cer cst; rw [if_pos (by omega), if_pos h, if_neg (by omega), if_neg (by omega), if_neg (by rw [h1]; simp [h0])]; exact ⟨rfl, rfl⟩

theorem and16 {sl : Int} (h : 0 ≤ sl) (h' : sl ≤ 31) : bits .and .i64 sl 16 = if 16 ≤ sl then 16 else 0 := by
  obtain ⟨k, rfl⟩ := as_fin (n := 32) h (by omega)
  clear h h'
  revert k
  decide +kernel

set_option maxHeartbeats 1600000 in
theorem cost_any (sl z : Int) (w : World) : Calls Tryd.prog 24 #[.int .i64 sl, .int .i64 z] w fun e w' => e = .returned (.tuple #[.int .i64 (cst sl z), .int .i64 (cer sl z)]) ∧ w = w' := by
  by_cases h : 0 ≤ sl ∧ sl ≤ 31 ∧ 0 ≤ z ∧ z ≤ 63
  · by_cases h0 : z = 0
    · have e := cer_nil h h0
      rw [e.1, e.2]
      obtain ⟨h1, h2, _, _⟩ := h
      subst h0
      clear e
      go_enter Tryd.func24, Tryd.ntmps24
      go_wp2_with (go_at_call 40; refine (isSet_yes (by omega) (by omega) _).mono ?_; rintro e w' ⟨rfl, rfl⟩)
      go_ret2
      exact ⟨rfl, rfl⟩
    · by_cases hs : 16 ≤ sl
      · have e := cer_steep h h0 hs
        rw [e.1, e.2]
        obtain ⟨h1, h2, h3, h4⟩ := h
        have ea : bits .and .i64 sl 16 = 16 := by rw [and16 h1 h2, if_pos hs]
        have hz : (z == 0) = false := by simpa using h0
        clear e h0
        go_enter Tryd.func24, Tryd.ntmps24
        go_wp2_with (go_at_call 40; refine (isSet_yes (by omega) (by omega) _).mono ?_; rintro e w' ⟨rfl, rfl⟩)
        go_ret2
        exact ⟨rfl, rfl⟩
      · obtain ⟨h1, h2, h3, h4⟩ := h
        have ea : bits .and .i64 sl 16 = 0 := by rw [and16 h1 h2, if_neg hs]
        have hz : (z == 0) = false := by simpa using h0
        have ew : IntKind.u64.wrap z = z := by rw [IntKind.wrap_u64]; omega
        have hp := pop_bd z
        obtain ⟨c, hc⟩ : ∃ c, c = pop z := ⟨_, rfl⟩
        have HC := hid hc
        by_cases hl : sl = 0
        · have e := cer_free (sl := sl) (z := z) (by omega) (.inl hl)
          rw [e.1, e.2]
          rw [← hc] at hp ⊢
          subst hl
          clear e h0 hc
          go_enter Tryd.func24, Tryd.ntmps24
          go_wp2_with (first | (go_at_call 40; refine (isSet_yes (by omega) (by omega) _).mono ?_; rintro e w' ⟨rfl, rfl⟩) | (go_at_call 46; refine (ones_any z h3 h4 _).mono ?_; rintro e w' ⟨rfl, rfl⟩; rw [← HC.out]))
          go_ret2
          exact ⟨rfl, rfl⟩
        · have hl' : (sl == 0) = false := by simpa using hl
          have hl2 : (sl != 0) = true := by simpa using hl
          cases hu : up sl z
          · have e := cer_base (sl := sl) (z := z) (by omega) hl hu
            rw [e.1, e.2]
            have HU := hid hu
            rw [← hc] at hp ⊢
            clear e h0 hc hu hl
            go_enter Tryd.func24, Tryd.ntmps24
            go_wp2_with (first | (go_at_call 40; refine (isSet_yes (by omega) (by omega) _).mono ?_; rintro e w' ⟨rfl, rfl⟩) | (go_at_call 46; refine (ones_any z h3 h4 _).mono ?_; rintro e w' ⟨rfl, rfl⟩; rw [← HC.out]) | (go_at_call 47; refine (climbs_any sl z false HU.out _).mono ?_; rintro e w' ⟨rfl, rfl⟩))
            go_ret2
            exact ⟨rfl, rfl⟩
          · have e := cer_free (sl := sl) (z := z) (by omega) (.inr hu)
            rw [e.1, e.2]
            have HU := hid hu
            rw [← hc] at hp ⊢
            clear e h0 hc hu hl
            go_enter Tryd.func24, Tryd.ntmps24
            go_wp2_with (first | (go_at_call 40; refine (isSet_yes (by omega) (by omega) _).mono ?_; rintro e w' ⟨rfl, rfl⟩) | (go_at_call 46; refine (ones_any z h3 h4 _).mono ?_; rintro e w' ⟨rfl, rfl⟩; rw [← HC.out]) | (go_at_call 47; refine (climbs_any sl z true HU.out _).mono ?_; rintro e w' ⟨rfl, rfl⟩))
            go_ret2
            exact ⟨rfl, rfl⟩
  · have e := cer_bad h
    rw [e.1, e.2]
    clear e
    by_cases hs : 0 ≤ sl ∧ sl ≤ 31
    · obtain ⟨h1, h2⟩ := hs
      have hn : ¬ (0 ≤ z ∧ z ≤ 63) := by omega
      clear h
      go_enter Tryd.func24, Tryd.ntmps24
      go_wp2_with (go_at_call 40; refine (isSet_no hn _).mono ?_; rintro e w' ⟨rfl, rfl⟩)
      go_ret2
      exact ⟨rfl, rfl⟩
    · clear h
      by_cases hs1 : sl < 0
      · clear hs
        go_enter Tryd.func24, Tryd.ntmps24
        go_wp2_with fail
        go_ret2
        exact ⟨rfl, rfl⟩
      · have hs2 : 32 ≤ sl := by omega
        clear hs
        go_enter Tryd.func24, Tryd.ntmps24
        go_wp2_with fail
        go_ret2
        exact ⟨rfl, rfl⟩

theorem bit_of (z : Int) (h0 : 0 ≤ z) (h1 : z ≤ 63) : bits .and .i64 z 1 = z % 2 ∧ bits .and .i64 (z / 2) 1 = z / 2 % 2 ∧ bits .and .i64 (z / 4) 1 = z / 4 % 2 ∧ bits .and .i64 (z / 8) 1 = z / 8 % 2 ∧ bits .and .i64 (z / 16) 1 = z / 16 % 2 ∧ bits .and .i64 (z / 32) 1 = z / 32 % 2 := by
  obtain ⟨k, rfl⟩ := as_fin (n := 64) h0 (by omega)
  clear h0 h1
  revert k
  decide +kernel
set_option maxHeartbeats 1600000 in
theorem refcost_any (sl z : Int) (w : World) : Calls Tryd.prog 23 #[.int .i64 sl, .int .i64 z] w fun e w' => e = .returned (.tuple #[.int .i64 (cst sl z), .int .i64 (cer sl z)]) ∧ w = w' := by
  by_cases h : 0 ≤ sl ∧ sl ≤ 31 ∧ 0 ≤ z ∧ z ≤ 63
  · by_cases h0 : z = 0
    · have e := cer_nil h h0
      rw [e.1, e.2]
      obtain ⟨h1, h2, _, _⟩ := h
      subst h0
      clear e
      go_enter Tryd.func23, Tryd.ntmps23
      go_wp2_with fail
      go_ret2
      exact ⟨rfl, rfl⟩
    · by_cases hs : 16 ≤ sl
      · have e := cer_steep h h0 hs
        rw [e.1, e.2]
        obtain ⟨h1, h2, h3, h4⟩ := h
        have hz : (z == 0) = false := by simpa using h0
        clear e h0
        go_enter Tryd.func23, Tryd.ntmps23
        go_wp2_with fail
        go_ret2
        exact ⟨rfl, rfl⟩
      · obtain ⟨h1, h2, h3, h4⟩ := h
        have hz : (z == 0) = false := by simpa using h0
        obtain ⟨q0, q1, q2, q3, q4, q5⟩ := bit_of z h3 h4
        have HF : Hid (sl = 0 ∨ up sl z = true → cer sl z = 0 ∧ cst sl z = pop z * 300) := hid (cer_free (sl := sl) (z := z) (by omega))
        have HG : Hid (sl ≠ 0 → up sl z = false → cer sl z = 0 ∧ cst sl z = pop z * 300 + 200) := hid (cer_base (sl := sl) (z := z) (by omega))
        have HU := hid (up_iff sl z)
        clear h0
        go_enter Tryd.func23, Tryd.ntmps23
        go_wp2_with fail
        refine wp_loop_rounds 7 ?_
        iterate 7 (rw [rounds_succ]; go_wp2_with fail)
        all_goals go_ret2
        all_goals
          try simp only [beq_iff_eq, beq_eq_false_iff_ne, ne_eq] at *
          by_cases hq : sl = 0 ∨ (z = 1 ∧ (sl = 6 ∨ sl = 9) ∨ z = 2 ∧ (sl = 3 ∨ sl = 12))
          · obtain ⟨ea, eb⟩ := HF.out (hq.imp id HU.out.2)
            rw [ea, eb]
            refine ⟨ret2 ?_ ?_, by first | trivial | rfl⟩
            all_goals try unfold pop
            all_goals first | omega | (exfalso; omega)
          · obtain ⟨ea, eb⟩ := HG.out (fun k => hq (.inl k)) (by rw [Bool.eq_false_iff]; exact fun k => hq (.inr (HU.out.1 k)))
            rw [ea, eb]
            refine ⟨ret2 ?_ ?_, by first | trivial | rfl⟩
            all_goals try unfold pop
            all_goals first | omega | (exfalso; omega)
  · have e := cer_bad h
    rw [e.1, e.2]
    clear e
    by_cases hs : 0 ≤ sl ∧ sl ≤ 31
    · obtain ⟨h1, h2⟩ := hs
      by_cases hn : z < 0
      · clear h
        go_enter Tryd.func23, Tryd.ntmps23
        go_wp2_with fail
        go_ret2
        exact ⟨rfl, rfl⟩
      · have hn2 : 64 ≤ z := by omega
        clear h
        go_enter Tryd.func23, Tryd.ntmps23
        go_wp2_with fail
        go_ret2
        exact ⟨rfl, rfl⟩
    · clear h
      by_cases hs1 : sl < 0
      · clear hs
        go_enter Tryd.func23, Tryd.ntmps23
        go_wp2_with fail
        go_ret2
        exact ⟨rfl, rfl⟩
      · have hs2 : 32 ≤ sl := by omega
        clear hs
        go_enter Tryd.func23, Tryd.ntmps23
        go_wp2_with fail
        go_ret2
        exact ⟨rfl, rfl⟩

set_option maxHeartbeats 800000 in
theorem walk_costs (sl z : Int) (w : World) (hT : Tab w) : Calls Tryd.prog 5 #[.int .i64 sl, .int .i64 z] w fun e w' => e = .returned (.bool true) ∧ Below w.heap.size w w' := by
  obtain ⟨c, hc⟩ : ∃ c, c = cst sl z := ⟨_, rfl⟩
  obtain ⟨d, hd⟩ : ∃ d, d = cer sl z := ⟨_, rfl⟩
  have HC := hid hc
  have HD := hid hd
  clear hc hd
  go_enter Tryd.func5, Tryd.ntmps5
  go_wp2_with (first | (go_at_call 23; refine (refcost_any sl z _).mono ?_; rintro e w' ⟨rfl, rfl⟩; rw [← HC.out, ← HD.out]) | (go_at_call 24; refine (cost_any sl z _).mono ?_; rintro e w' ⟨rfl, rfl⟩; rw [← HC.out, ← HD.out]) | (go_at_call 16; refine (known_any _ hT).mono ?_; rintro e w' ⟨rfl, hb⟩; have HB := hid hb; clear hb))
  go_ret
  exact ⟨rfl, HB.out⟩
end Go.Proofs.YtlpmahdplilbiaaDoor
