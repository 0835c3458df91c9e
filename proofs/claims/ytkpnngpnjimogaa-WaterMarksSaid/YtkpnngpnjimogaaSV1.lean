/-
  The walk of Validate of the program.
-/
import Derived.Test.YtkpnngpnjimogaaSVal
namespace Go.Proofs.Ytkpnngpnjimogaa
open Go.RowKit

/-- The box of a land, and the slice of its heights behind it. -/
theorem box_ints {w : World} {ao : Option Addr} {n : Nat} {Z : Nat → Int} (h : Ints w ao n Z) (o : Obj) : Ints (w.alloc o) ao n Z := h.stays (Joins.below_alloc1 w o)

set_option maxHeartbeats 1600000 in
theorem validate_any (W H : Int) (ao : Option Addr) (n cap : Nat) (Z : Nat → Int) (hn : n ≤ 9223372036854775807) (w : World) (hI : Ints w ao n Z) (e : Int) (hE : VErr W H n Z e) :
    Calls Try.prog 70 #[lv W H (.slice ao n cap)] w fun r w' => r = .returned (.int .i64 e) ∧ Below w.heap.size w w' := by
  have HI := hid (box_ints hI (.cells #[.int .i64 W, .int .i64 H, .slice ao n cap] 24))
  have HB := hid (Joins.below_alloc1 w (.cells #[.int .i64 W, .int .i64 H, .slice ao n cap] 24))
  have HE := hid hE
  clear hI hE
  by_cases hs : Sized W H
  · obtain ⟨⟨h1, h2⟩, h3, h4⟩ := id hs
    have b1 : 0 ≤ (W + 1) * (H + 1) := Int.mul_nonneg (by omega) (by omega)
    have b2 : (W + 1) * (H + 1) ≤ 2000 := Int.le_trans (Int.mul_le_mul (show W + 1 ≤ 33 by omega) (show H + 1 ≤ 33 by omega) (by omega) (by omega)) (by omega)
    obtain ⟨c, hc⟩ : ∃ c, c = (W + 1) * (H + 1) := ⟨_, rfl⟩
    rw [← hc] at b1 b2
    have HC := hid hc
    have HSz := hid hs
    clear hc hs
    by_cases hcn : (n : Int) = c
    · have hS : Hid (Shaped W H n) := hid ⟨HSz.out, hcn.trans HC.out⟩
      go_enter Try.func70, Try.ntmps70
      go_wp2_with fail
      go_quiet (first
        | (go_at_call 92; exact quiet_eq (sized_yes HSz.out _))
        | (go_at_call 93; exact quiet_eq (cornersOf_any _ _ c HC.out b1 b2 (by omega) (by omega) (by omega) (by omega) _)))
      clear hcn HC HSz
      go_wp2_with fail
      go_loop [28] (fun iv => ∃ j : Nat, j ≤ n ∧ iv = .int .i64 j ∧ Hid (∀ i, i < j → 0 ≤ Z i ∧ Z i ≤ 15)) (fun iv => n - (intOf iv).toNat)
      case atStart => exact ⟨0, Nat.zero_le _, rfl, hid (fun i hi => absurd hi (Nat.not_lt_zero i))⟩
      case round =>
        obtain ⟨j, hj, rfl, hh⟩ := hrel
        by_cases hlt : j < n
        · obtain ⟨b, off, rfl, hz, hcl⟩ := HI.out j hlt
          obtain ⟨z, hz'⟩ : ∃ z, z = Z j := ⟨_, rfl⟩
          rw [← hz'] at hcl
          have HZ := hid hz'
          clear hz'
          by_cases hok : 0 ≤ z ∧ z ≤ 15
          · obtain ⟨o1, o2⟩ := hok
            go_wp2_with (go_at_call 94; refine (isHeight_yes o1 o2 _).mono ?_; rintro e w' ⟨rfl, rfl⟩)
            go_round
            case rel =>
              refine ⟨j + 1, by omega, by go_num, hid (fun i hi => ?_)⟩
              by_cases h : i < j
              · exact hh.out i h
              · obtain rfl : i = j := by omega
                rw [← HZ.out]; exact ⟨o1, o2⟩
            case measure => simp [intOf]; omega
          · have HK := hid hok
            clear hok
            go_wp2_with (go_at_call 94; refine (isHeight_no HK.out _).mono ?_; rintro e w' ⟨rfl, rfl⟩)
            go_ret
            refine ⟨ret_int ?_, HB.out.trans (Joins.below_draws _ _ _)⟩
            exact (HE.out.one (.inl ⟨rfl, .inr fun h => HK.out (by rw [HZ.out]; exact h j hlt)⟩)).symm
        · obtain rfl : n = j := by omega
          go_wp2_with fail
          go_loop [42] (fun iv => ∃ j : Nat, j ≤ n ∧ iv = .int .i64 j ∧ Hid (∀ i, i < j → West W Z i ∧ North W Z i)) (fun iv => n - (intOf iv).toNat)
          case atStart => exact ⟨0, Nat.zero_le _, rfl, hid (fun i hi => absurd hi (Nat.not_lt_zero i))⟩
          case round =>
            obtain ⟨j, hj, rfl, hk⟩ := hrel
            by_cases hlt : j < n
            · obtain ⟨b, off, rfl, hz, hcl⟩ := Ints.one HI.out (by omega)
              have c0 := hcl j hlt
              have c1 := hcl (j - 1) (by omega)
              have c2 := hcl ((j : Int) - (W + 1)).toNat (by omega)
              have r0 := hh.out j hlt
              have r1 := hh.out (j - 1) (by omega)
              have r2 := hh.out ((j : Int) - (W + 1)).toNat (by omega)
              obtain ⟨z0, e0⟩ : ∃ z, z = Z j := ⟨_, rfl⟩
              obtain ⟨z1, e1⟩ : ∃ z, z = Z (j - 1) := ⟨_, rfl⟩
              obtain ⟨z2, e2⟩ : ∃ z, z = Z ((j : Int) - (W + 1)).toNat := ⟨_, rfl⟩
              rw [← e0] at c0 r0
              rw [← e1] at c1 r1
              rw [← e2] at c2 r2
              have E0 := hid e0
              have E1 := hid e1
              have E2 := hid e2
              obtain ⟨a0, b0⟩ := r0
              obtain ⟨a1, b1⟩ := r1
              obtain ⟨a2, b2⟩ := r2
              clear hcl e0 e1 e2
              have rj := emod_le (a := (j : Int)) (b := W + 1) (by omega) (by omega)
              have HB' := hid (fun k => HB.out.trans (Joins.below_draws _ (w.alloc (.cells #[.int .i64 W, .int .i64 H, .slice (some ⟨b, off, none⟩) n cap] 24)) k))
              go_wp2_with (go_at_call 95; refine (distance_any _ _ (by omega) (by omega) (by omega) (by omega) _).mono ?_; rintro e w' ⟨rfl, rfl⟩)
              all_goals first
                | (exfalso; omega)
                | (go_ret
                   refine ⟨ret_int ?_, HB'.out _⟩
                   refine (HE.out.one (.inr (.inl ⟨rfl, hS.out, hh.out, fun h => ?_⟩))).symm
                   have := (h j hlt).1 (by assumption)
                   rw [← E0.out, ← E1.out] at this
                   omega)
                | (go_ret
                   refine ⟨ret_int ?_, HB'.out _⟩
                   refine (HE.out.one (.inr (.inl ⟨rfl, hS.out, hh.out, fun h => ?_⟩))).symm
                   have := (h j hlt).2 (by assumption)
                   rw [← E0.out, ← E2.out] at this
                   omega)
                | (refine ⟨⟨j + 1, by omega, by go_num, hid (fun i hi => ?_)⟩, by simp [intOf]; omega⟩
                   by_cases h : i < j
                   · exact hk.out i h
                   · obtain rfl : i = j := by omega
                     exact ⟨fun h => by rw [← E0.out, ← E1.out]; omega, fun h => by rw [← E0.out, ← E2.out]; omega⟩)
              all_goals trace_state
            · obtain rfl : n = j := by omega
              go_wp2_with fail
              go_ret
              exact ⟨ret_int (HE.out.one (Valid.err ⟨hS.out, hh.out, hk.out⟩)).symm, HB.out.trans (Joins.below_draws _ _ _)⟩
    · have HN : Hid (¬ Shaped W H n) := hid fun h => hcn (h.2.trans HC.out.symm)
      have g : ((n : Int) == c) = false := by rw [beq_eq_false_iff_ne]; exact hcn
      clear hcn
      go_enter Try.func70, Try.ntmps70
      go_wp2_with fail
      go_quiet (first
        | (go_at_call 92; exact quiet_eq (sized_yes HSz.out _))
        | (go_at_call 93; exact quiet_eq (cornersOf_any _ _ c HC.out b1 b2 (by omega) (by omega) (by omega) (by omega) _)))
      go_wp2_with fail
      go_ret
      exact ⟨ret_int (HE.out.one (.inl ⟨rfl, .inl HN.out⟩)).symm, HB.out.trans (Joins.below_draws _ _ _)⟩
  · have HN : Hid (¬ Sized W H) := hid hs
    clear hs
    go_enter Try.func70, Try.ntmps70
    go_wp2_with fail
    go_quiet ((go_at_call 92; exact quiet_eq (sized_no HN.out _)))
    go_wp2_with fail
    go_ret
    exact ⟨ret_int (HE.out.one (.inl ⟨rfl, .inl fun h => HN.out h.1⟩)).symm, HB.out.trans (Joins.below_draws _ _ _)⟩
end Go.Proofs.Ytkpnngpnjimogaa
