/-
  The walks of the small tests and of Validate, of the program and of the reference.
-/
import Derived.Test.YtaepiegbpgkciaaKit
namespace Go.Proofs.Ytaepiegbpgkciaa
open Go.RowKit

set_option maxHeartbeats 400000 in
theorem sized_any (a b : Int) (w : World) : Calls Try.prog 38 #[.int .i64 a, .int .i64 b] w fun e w' => e = .returned (.bool (decide (4 ≤ a) && decide (a ≤ 32) && decide (4 ≤ b) && decide (b ≤ 32))) ∧ w = w' := by
  go_enter Try.func38, Try.ntmps38
  go_wp2
  all_goals go_ret
  all_goals exact ⟨ret_bool (by rw [Bool.eq_iff_iff]; simp; try omega), rfl⟩
theorem sized_yes {a b : Int} (h : Sized a b) (w : World) : Calls Try.prog 38 #[.int .i64 a, .int .i64 b] w fun e w' => e = .returned (.bool true) ∧ w = w' := by
  refine (sized_any a b w).mono fun e w' h' => ⟨h'.1.trans (ret_bool ?_), h'.2⟩
  obtain ⟨⟨h1, h2⟩, h3, h4⟩ := h
  simp [h1, h2, h3, h4]
theorem sized_no {a b : Int} (h : ¬ Sized a b) (w : World) : Calls Try.prog 38 #[.int .i64 a, .int .i64 b] w fun e w' => e = .returned (.bool false) ∧ w = w' := by
  refine (sized_any a b w).mono fun e w' h' => ⟨h'.1.trans (ret_bool ?_), h'.2⟩
  rw [Bool.eq_false_iff]; intro k; apply h; simp at k; unfold Sized; omega
set_option maxHeartbeats 400000 in
theorem isArms_any (a : Int) (w : World) : Calls Try.prog 39 #[.int .i64 a] w fun e w' => e = .returned (.bool (decide (0 ≤ a) && decide (a < 16))) ∧ w = w' := by
  go_enter Try.func39, Try.ntmps39
  go_wp2
  all_goals go_ret
  all_goals exact ⟨ret_bool (by rw [Bool.eq_iff_iff]; simp; try omega), rfl⟩
theorem isArms_yes {a : Int} (h : 0 ≤ a ∧ a ≤ 15) (w : World) : Calls Try.prog 39 #[.int .i64 a] w fun e w' => e = .returned (.bool true) ∧ w = w' := by
  refine (isArms_any a w).mono fun e w' h' => ⟨h'.1.trans (ret_bool ?_), h'.2⟩
  simp; omega
theorem isArms_no {a : Int} (h : ¬ (0 ≤ a ∧ a ≤ 15)) (w : World) : Calls Try.prog 39 #[.int .i64 a] w fun e w' => e = .returned (.bool false) ∧ w = w' := by
  refine (isArms_any a w).mono fun e w' h' => ⟨h'.1.trans (ret_bool ?_), h'.2⟩
  rw [Bool.eq_false_iff]; intro k; apply h; simp at k; omega
set_option maxHeartbeats 400000 in
theorem isWay_any (a : Int) (w : World) : Calls Try.prog 40 #[.int .i64 a] w fun e w' => e = .returned (.bool (decide (0 ≤ a) && decide (a < 3))) ∧ w = w' := by
  go_enter Try.func40, Try.ntmps40
  go_wp2
  all_goals go_ret
  all_goals exact ⟨ret_bool (by rw [Bool.eq_iff_iff]; simp; try omega), rfl⟩
theorem isWay_yes {a : Int} (h : 0 ≤ a ∧ a ≤ 2) (w : World) : Calls Try.prog 40 #[.int .i64 a] w fun e w' => e = .returned (.bool true) ∧ w = w' := by
  refine (isWay_any a w).mono fun e w' h' => ⟨h'.1.trans (ret_bool ?_), h'.2⟩
  simp; omega
theorem isWay_no {a : Int} (h : ¬ (0 ≤ a ∧ a ≤ 2)) (w : World) : Calls Try.prog 40 #[.int .i64 a] w fun e w' => e = .returned (.bool false) ∧ w = w' := by
  refine (isWay_any a w).mono fun e w' h' => ⟨h'.1.trans (ret_bool ?_), h'.2⟩
  rw [Bool.eq_false_iff]; intro k; apply h; simp at k; omega
set_option maxHeartbeats 400000 in
theorem carries_any (z y : Int) (w : World) : Calls Try.prog 41 #[.int .i64 z, .int .i64 y] w fun e w' => e = .returned (.bool (decide (y = 0) || decide (z = 5) || decide (z = 10))) ∧ w = w' := by
  go_enter Try.func41, Try.ntmps41
  go_wp2
  all_goals go_ret
  all_goals exact ⟨ret_bool (by rw [Bool.eq_iff_iff]; simp_all), rfl⟩
theorem carries_yes {z y : Int} (h : Carry z y) (w : World) : Calls Try.prog 41 #[.int .i64 z, .int .i64 y] w fun e w' => e = .returned (.bool true) ∧ w = w' := by
  refine (carries_any z y w).mono fun e w' h' => ⟨h'.1.trans (ret_bool ?_), h'.2⟩
  unfold Carry at h; simp; omega
theorem carries_no {z y : Int} (h : ¬ Carry z y) (w : World) : Calls Try.prog 41 #[.int .i64 z, .int .i64 y] w fun e w' => e = .returned (.bool false) ∧ w = w' := by
  refine (carries_any z y w).mono fun e w' h' => ⟨h'.1.trans (ret_bool ?_), h'.2⟩
  rw [Bool.eq_false_iff]; intro k; apply h; unfold Carry; simp at k; omega
set_option maxHeartbeats 400000 in
theorem side_any (a : Int) (w : World) : Calls Try.prog 42 #[.int .i64 a] w fun e w' => e = .returned (.bool (decide (4 ≤ a) && decide (a ≤ 32))) ∧ w = w' := by
  go_enter Try.func42, Try.ntmps42
  go_wp2
  all_goals go_ret
  all_goals exact ⟨ret_bool (by rw [Bool.eq_iff_iff]; simp; try omega), rfl⟩
theorem side_yes {a : Int} (h : 4 ≤ a ∧ a ≤ 32) (w : World) : Calls Try.prog 42 #[.int .i64 a] w fun e w' => e = .returned (.bool true) ∧ w = w' := by
  refine (side_any a w).mono fun e w' h' => ⟨h'.1.trans (ret_bool ?_), h'.2⟩
  simp; omega
theorem side_no {a : Int} (h : ¬ (4 ≤ a ∧ a ≤ 32)) (w : World) : Calls Try.prog 42 #[.int .i64 a] w fun e w' => e = .returned (.bool false) ∧ w = w' := by
  refine (side_any a w).mono fun e w' h' => ⟨h'.1.trans (ret_bool ?_), h'.2⟩
  rw [Bool.eq_false_iff]; intro k; apply h; simp at k; omega
set_option maxHeartbeats 400000 in
theorem straight_any (z : Int) (w : World) : Calls Try.prog 43 #[.int .i64 z] w fun e w' => e = .returned (.bool (decide (z = 5) || decide (z = 10))) ∧ w = w' := by
  go_enter Try.func43, Try.ntmps43
  go_wp2
  all_goals go_ret
  all_goals exact ⟨ret_bool (by rw [Bool.eq_iff_iff]; simp_all), rfl⟩
theorem straight_yes {z : Int} (h : z = 5 ∨ z = 10) (w : World) : Calls Try.prog 43 #[.int .i64 z] w fun e w' => e = .returned (.bool true) ∧ w = w' := by
  refine (straight_any z w).mono fun e w' h' => ⟨h'.1.trans (ret_bool ?_), h'.2⟩
  simp; omega
theorem straight_no {z : Int} (h : ¬ (z = 5 ∨ z = 10)) (w : World) : Calls Try.prog 43 #[.int .i64 z] w fun e w' => e = .returned (.bool false) ∧ w = w' := by
  refine (straight_any z w).mono fun e w' h' => ⟨h'.1.trans (ret_bool ?_), h'.2⟩
  rw [Bool.eq_false_iff]; intro k; apply h; simp at k; omega
theorem ints_cell {w : World} {ao : Option Addr} {n : Nat} {Z : Nat → Int} (h : Ints w ao n Z) {j : Nat} (hj : j < n) :
    ∃ b off : Nat, ao = some ⟨b, off, none⟩ ∧ b < w.heap.size ∧ w.cell? ⟨b, off + j, none⟩ = some (.int .i64 (Z j)) := h j hj

set_option maxHeartbeats 1600000 in
theorem validate_any (W H : Int) (ao : Option Addr) (n cap : Nat) (Z : Nat → Int) (bo : Option Addr) (m bcap : Nat) (Y : Nat → Int) (hn : n ≤ 9223372036854775807) (hm : m ≤ 9223372036854775807) (w : World) (hI : Ints w ao n Z) (hB : Ints w bo m Y) (e : Int) (hE : VErr W H n m Z Y e) :
    Calls Try.prog 17 #[rv W H (.slice ao n cap) (.slice bo m bcap)] w fun r w' => r = .returned (.int .i64 e) ∧ Below w.heap.size w w' := by
  have hW := Joins.below_alloc1 w (.cells #[.int .i64 W, .int .i64 H, .slice ao n cap, .slice bo m bcap] 24)
  have HI := hid (hI.stays hW)
  have HB := hid (hB.stays hW)
  have HW := hid hW
  have HE := hid hE
  clear hI hB hE hW
  by_cases hs : Sized W H
  · have hbd := hs.bound
    obtain ⟨b1, b2⟩ := hbd
    obtain ⟨⟨h1, h2⟩, h3, h4⟩ := id hs
    have HSz := hid hs
    clear hs
    by_cases hcn : (n : Int) = W * H
    · by_cases hcm : (m : Int) = W * H
      · obtain rfl : n = m := by omega
        have HCN := hid hcn
        have g1 : ((n : Int) == W * H) = true := by rw [beq_iff_eq]; exact hcn
        have g2 : ((n : Int) != W * H) = false := by simp [hcn]
        have hn2 : n ≤ 1024 := by omega
        clear hcn hcm
        go_enter Try.func17, Try.ntmps17
        go_wp2_with (go_at_call 38; refine (sized_yes HSz.out _).mono ?_; rintro e w' ⟨rfl, rfl⟩)
        clear g1 g2
        go_loop [38] (fun iv => ∃ j : Nat, j ≤ n ∧ iv = .int .i64 j ∧ Hid (∀ i, i < j → Fine (Z i) (Y i))) (fun iv => n - (intOf iv).toNat)
        case atStart => exact ⟨0, Nat.zero_le _, rfl, hid (fun i hi => absurd hi (Nat.not_lt_zero i))⟩
        case round =>
          obtain ⟨j, hj, rfl, hh⟩ := hrel
          by_cases hlt : j < n
          · obtain ⟨b, off, rfl, hz, hcl⟩ := ints_cell HI.out hlt
            obtain ⟨b', off', rfl, hz2, hcb⟩ := ints_cell HB.out hlt
            obtain ⟨z, hz'⟩ : ∃ z, z = Z j := ⟨_, rfl⟩
            obtain ⟨x, hx'⟩ : ∃ x, x = Y j := ⟨_, rfl⟩
            rw [← hz'] at hcl
            rw [← hx'] at hcb
            have HZ := hid hz'
            have HX := hid hx'
            clear hz' hx'
            by_cases hok : 0 ≤ z ∧ z ≤ 15
            · have HK := hid hok
              clear hok
              by_cases hox : 0 ≤ x ∧ x ≤ 2
              · have HL := hid hox
                clear hox
                go_wp2_with (first | (go_at_call 39; refine (isArms_yes HK.out _).mono ?_; rintro e w' ⟨rfl, rfl⟩) | (go_at_call 40; refine (isWay_yes HL.out _).mono ?_; rintro e w' ⟨rfl, rfl⟩))
                go_round
                case rel =>
                  refine ⟨j + 1, by omega, by go_num, hid (fun i hi => ?_)⟩
                  by_cases h : i < j
                  · exact hh.out i h
                  · obtain rfl : i = j := by omega
                    rw [← HZ.out, ← HX.out]; exact ⟨HK.out, HL.out⟩
                case measure => simp [intOf]; omega
              · have HL := hid hox
                clear hox
                go_wp2_with (first | (go_at_call 39; refine (isArms_yes HK.out _).mono ?_; rintro e w' ⟨rfl, rfl⟩) | (go_at_call 40; refine (isWay_no HL.out _).mono ?_; rintro e w' ⟨rfl, rfl⟩))
                go_ret
                refine ⟨ret_int (HE.out.arg fun k => HL.out ?_), HW.out⟩
                rw [HX.out]; exact (k.fine j hlt).2
            · have HK := hid hok
              clear hok
              go_wp2_with (go_at_call 39; refine (isArms_no HK.out _).mono ?_; rintro e w' ⟨rfl, rfl⟩)
              go_ret
              refine ⟨ret_int (HE.out.arg fun k => HK.out ?_), HW.out⟩
              rw [HZ.out]; exact (k.fine j hlt).1
          · obtain rfl : n = j := by omega
            have HA : Hid (Args W H n n Z Y) := hid ⟨HSz.out, HCN.out, HCN.out, hh.out⟩
            clear hh hlt hj
            go_wp2_with fail
            go_loop [59] (fun iv => ∃ j : Nat, j ≤ n ∧ iv = .int .i64 j ∧ Hid (∀ i, i < j → Carry (Z i) (Y i))) (fun iv => n - (intOf iv).toNat)
            case atStart => exact ⟨0, Nat.zero_le _, rfl, hid (fun i hi => absurd hi (Nat.not_lt_zero i))⟩
            case round =>
              obtain ⟨j, hj, rfl, hh⟩ := hrel
              by_cases hlt : j < n
              · obtain ⟨b, off, rfl, hz, hcl⟩ := ints_cell HI.out hlt
                obtain ⟨b', off', rfl, hz2, hcb⟩ := ints_cell HB.out hlt
                obtain ⟨z, hz'⟩ : ∃ z, z = Z j := ⟨_, rfl⟩
                obtain ⟨x, hx'⟩ : ∃ x, x = Y j := ⟨_, rfl⟩
                rw [← hz'] at hcl
                rw [← hx'] at hcb
                have HZ := hid hz'
                have HX := hid hx'
                clear hz' hx'
                by_cases hok : Carry z x
                · have HK := hid hok
                  clear hok
                  go_wp2_with (go_at_call 41; refine (carries_yes HK.out _).mono ?_; rintro e w' ⟨rfl, rfl⟩)
                  go_round
                  case rel =>
                    refine ⟨j + 1, by omega, by go_num, hid (fun i hi => ?_)⟩
                    by_cases h : i < j
                    · exact hh.out i h
                    · obtain rfl : i = j := by omega
                      rw [← HZ.out, ← HX.out]; exact HK.out
                  case measure => simp [intOf]; omega
                · have HK := hid hok
                  clear hok
                  go_wp2_with (go_at_call 41; refine (carries_no HK.out _).mono ?_; rintro e w' ⟨rfl, rfl⟩)
                  go_ret
                  refine ⟨ret_int (HE.out.rule HA.out fun k => HK.out ?_), HW.out⟩
                  rw [HZ.out, HX.out]; exact k.carry j hlt
              · obtain rfl : n = j := by omega
                go_wp2_with fail
                go_ret
                exact ⟨ret_int (HE.out.ok ⟨HA.out, hh.out⟩), HW.out⟩
      · have HN : Hid (¬ Args W H n m Z Y) := hid fun k => hcm k.ways
        have g1 : ((n : Int) == W * H) = true := by rw [beq_iff_eq]; exact hcn
        have g2 : ((n : Int) != W * H) = false := by simp [hcn]
        have g3 : ((m : Int) == W * H) = false := by rw [beq_eq_false_iff_ne]; exact hcm
        have g4 : ((m : Int) != W * H) = true := by simpa using hcm
        clear hcn hcm
        go_enter Try.func17, Try.ntmps17
        go_wp2_with (go_at_call 38; refine (sized_yes HSz.out _).mono ?_; rintro e w' ⟨rfl, rfl⟩)
        go_ret
        exact ⟨ret_int (HE.out.arg HN.out), HW.out⟩
    · have HN : Hid (¬ Args W H n m Z Y) := hid fun k => hcn k.arms
      have g1 : ((n : Int) == W * H) = false := by rw [beq_eq_false_iff_ne]; exact hcn
      have g2 : ((n : Int) != W * H) = true := by simpa using hcn
      clear hcn
      go_enter Try.func17, Try.ntmps17
      go_wp2_with (go_at_call 38; refine (sized_yes HSz.out _).mono ?_; rintro e w' ⟨rfl, rfl⟩)
      go_ret
      exact ⟨ret_int (HE.out.arg HN.out), HW.out⟩
  · have HN : Hid (¬ Args W H n m Z Y) := hid fun k => hs k.sized
    have HS := hid hs
    clear hs
    go_enter Try.func17, Try.ntmps17
    go_wp2_with (go_at_call 38; refine (sized_no HS.out _).mono ?_; rintro e w' ⟨rfl, rfl⟩)
    go_ret
    exact ⟨ret_int (HE.out.arg HN.out), HW.out⟩
end Go.Proofs.Ytaepiegbpgkciaa
