/-
  The walk of Validate of the reference.
-/
import Derived.Test.YtaepiegbpgkciaaWalkVal
namespace Go.Proofs.Ytaepiegbpgkciaa
open Go.RowKit

set_option maxHeartbeats 6400000 in
theorem refvalidate_any (W H : Int) (ao : Option Addr) (n cap : Nat) (Z : Nat → Int) (bo : Option Addr) (m bcap : Nat) (Y : Nat → Int) (hn : n ≤ 9223372036854775807) (hm : m ≤ 9223372036854775807) (w : World) (hI : Ints w ao n Z) (hB : Ints w bo m Y) (e : Int) (hE : VErr W H n m Z Y e) :
    Calls Try.prog 18 #[rv W H (.slice ao n cap) (.slice bo m bcap)] w fun r w' => r = .returned (.int .i64 e) ∧ Below w.heap.size w w' := by
  have hW := Joins.below_alloc1 w (.cells #[.int .i64 W, .int .i64 H, .slice ao n cap, .slice bo m bcap] 24)
  have HI := hid (hI.stays hW)
  have HB := hid (hB.stays hW)
  have HW := hid hW
  have HE := hid hE
  clear hI hB hE hW
  by_cases hsW : 4 ≤ W ∧ W ≤ 32
  · by_cases hsH : 4 ≤ H ∧ H ≤ 32
    · have hs : Sized W H := ⟨hsW, hsH⟩
      have hbd := hs.bound
      obtain ⟨b1, b2⟩ := hbd
      obtain ⟨⟨h1, h2⟩, h3, h4⟩ := id hs
      have HSz := hid hs
      have HsW := hid hsW
      have HsH := hid hsH
      clear hs hsW hsH
      by_cases hcn : (n : Int) = W * H
      · by_cases hcm : (m : Int) = W * H
        · obtain rfl : n = m := by omega
          have HCN := hid hcn
          have g1 : ((n : Int) == W * H) = true := by rw [beq_iff_eq]; exact hcn
          have g2 : ((n : Int) != W * H) = false := by simp [hcn]
          have hn2 : n ≤ 1024 := by omega
          clear hcn hcm
          go_enter Try.func18, Try.ntmps18
          go_wp2_with (first | (go_at_call 42; with_reducible refine (side_yes HsW.out _).mono ?_; rintro e w' ⟨rfl, rfl⟩) | (go_at_call 42; with_reducible refine (side_yes HsH.out _).mono ?_; rintro e w' ⟨rfl, rfl⟩))
          clear g1 g2
          go_loop [44] (fun iv => ∃ j : Nat, j ≤ n ∧ iv = .int .i64 j ∧ Hid (∀ i, i < j → 0 ≤ Z i ∧ Z i ≤ 15)) (fun iv => n - (intOf iv).toNat)
          case atStart => exact ⟨0, Nat.zero_le _, rfl, hid (fun i hi => absurd hi (Nat.not_lt_zero i))⟩
          case round =>
            obtain ⟨j, hj, rfl, hh⟩ := hrel
            by_cases hlt : j < n
            · obtain ⟨b, off, rfl, hz, hcl⟩ := ints_cell HI.out hlt
              obtain ⟨z, hz'⟩ : ∃ z, z = Z j := ⟨_, rfl⟩
              rw [← hz'] at hcl
              have HZ := hid hz'
              clear hz'
              by_cases hok : 0 ≤ z ∧ z ≤ 15
              · obtain ⟨o1, o2⟩ := hok
                go_wp2_with fail
                go_round
                case rel =>
                  refine ⟨j + 1, by omega, by go_num, hid (fun i hi => ?_)⟩
                  by_cases h : i < j
                  · exact hh.out i h
                  · obtain rfl : i = j := by omega
                    rw [← HZ.out]; exact ⟨o1, o2⟩
                case measure => simp [intOf]; omega
              · have HN : Hid (¬ Args W H n n Z Y) := hid fun k => hok (by rw [HZ.out]; exact (k.fine j hlt).1)
                by_cases h0 : z < 0
                · clear hok
                  go_wp2_with fail
                  go_ret
                  exact ⟨ret_int (HE.out.arg HN.out), HW.out⟩
                · have h15 : 15 < z := by omega
                  clear hok
                  go_wp2_with fail
                  go_ret
                  exact ⟨ret_int (HE.out.arg HN.out), HW.out⟩
            · obtain rfl : n = j := by omega
              have HA := hid hh.out
              clear hh hlt hj
              go_wp2_with fail
              go_loop [58] (fun iv => ∃ j : Nat, j ≤ n ∧ iv = .int .i64 j ∧ Hid (∀ i, i < j → 0 ≤ Y i ∧ Y i ≤ 2)) (fun iv => n - (intOf iv).toNat)
              case atStart => exact ⟨0, Nat.zero_le _, rfl, hid (fun i hi => absurd hi (Nat.not_lt_zero i))⟩
              case round =>
                obtain ⟨j, hj, rfl, hh⟩ := hrel
                by_cases hlt : j < n
                · obtain ⟨b, off, rfl, hz, hcl⟩ := ints_cell HB.out hlt
                  obtain ⟨z, hz'⟩ : ∃ z, z = Y j := ⟨_, rfl⟩
                  rw [← hz'] at hcl
                  have HZ := hid hz'
                  clear hz'
                  by_cases hok : 0 ≤ z ∧ z ≤ 2
                  · obtain ⟨o1, o2⟩ := hok
                    go_wp2_with fail
                    go_round
                    case rel =>
                      refine ⟨j + 1, by omega, by go_num, hid (fun i hi => ?_)⟩
                      by_cases h : i < j
                      · exact hh.out i h
                      · obtain rfl : i = j := by omega
                        rw [← HZ.out]; exact ⟨o1, o2⟩
                    case measure => simp [intOf]; omega
                  · have HN : Hid (¬ Args W H n n Z Y) := hid fun k => hok (by rw [HZ.out]; exact (k.fine j hlt).2)
                    by_cases h0 : z < 0
                    · clear hok
                      go_wp2_with fail
                      go_ret
                      exact ⟨ret_int (HE.out.arg HN.out), HW.out⟩
                    · have h15 : 2 < z := by omega
                      clear hok
                      go_wp2_with fail
                      go_ret
                      exact ⟨ret_int (HE.out.arg HN.out), HW.out⟩
                · obtain rfl : n = j := by omega
                  have HA2 : Hid (Args W H n n Z Y) := hid ⟨HSz.out, HCN.out, HCN.out, fun i hi => ⟨HA.out i hi, hh.out i hi⟩⟩
                  clear hh hlt hj HA
                  go_wp2_with fail
                  go_loop [72] (fun iv => ∃ j : Nat, j ≤ n ∧ iv = .int .i64 j ∧ Hid (∀ i, i < j → Carry (Z i) (Y i))) (fun iv => n - (intOf iv).toNat)
                  case atStart => exact ⟨0, Nat.zero_le _, rfl, hid (fun i hi => absurd hi (Nat.not_lt_zero i))⟩
                  case round =>
                    obtain ⟨j, hj, rfl, hh⟩ := hrel
                    by_cases hlt : j < n
                    · obtain ⟨b, off, rfl, hz, hcl⟩ := ints_cell HI.out hlt
                      obtain ⟨b', off', rfl, hz2, hcb⟩ := ints_cell HB.out hlt
                      obtain ⟨z, hz'⟩ : ∃ z, z = Z j := ⟨_, rfl⟩
                      obtain ⟨x, hx'⟩ : ∃ x, x = Y j := ⟨_, rfl⟩
                      rw [← hz'] at hcl
                      rw [← hx'] at hcb
                      have HZ := hid hz'
                      have HX := hid hx'
                      clear hz' hx'
                      by_cases h0 : x = 0
                      · subst h0
                        go_wp2_with fail
                        go_round
                        case rel =>
                          refine ⟨j + 1, by omega, by go_num, hid (fun i hi => ?_)⟩
                          by_cases h : i < j
                          · exact hh.out i h
                          · obtain rfl : i = j := by omega
                            exact .inl HX.out.symm
                        case measure => simp [intOf]; omega
                      · have hx0 : (x != 0) = true := by simpa using h0
                        have HX0 := hid h0
                        clear h0
                        by_cases hok : z = 5 ∨ z = 10
                        · have HK := hid hok
                          clear hok
                          go_wp2_with (go_at_call 43; refine (straight_yes HK.out _).mono ?_; rintro e w' ⟨rfl, rfl⟩)
                          go_round
                          case rel =>
                            refine ⟨j + 1, by omega, by go_num, hid (fun i hi => ?_)⟩
                            by_cases h : i < j
                            · exact hh.out i h
                            · obtain rfl : i = j := by omega
                              rw [← HZ.out]; exact .inr HK.out
                          case measure => simp [intOf]; omega
                        · have HK := hid hok
                          clear hok
                          go_wp2_with (go_at_call 43; refine (straight_no HK.out _).mono ?_; rintro e w' ⟨rfl, rfl⟩)
                          go_ret
                          refine ⟨ret_int (HE.out.rule HA2.out fun k => ?_), HW.out⟩
                          have := k.carry j hlt
                          rw [← HZ.out, ← HX.out] at this
                          rcases this with h | h
                          · exact HX0.out h
                          · exact HK.out h
                    · obtain rfl : n = j := by omega
                      go_wp2_with fail
                      go_ret
                      exact ⟨ret_int (HE.out.ok ⟨HA2.out, hh.out⟩), HW.out⟩
        · have HN : Hid (¬ Args W H n m Z Y) := hid fun k => hcm k.ways
          have g1 : ((n : Int) == W * H) = true := by rw [beq_iff_eq]; exact hcn
          have g2 : ((n : Int) != W * H) = false := by simp [hcn]
          have g3 : ((m : Int) == W * H) = false := by rw [beq_eq_false_iff_ne]; exact hcm
          have g4 : ((m : Int) != W * H) = true := by simpa using hcm
          clear hcn hcm
          go_enter Try.func18, Try.ntmps18
          go_wp2_with (first | (go_at_call 42; with_reducible refine (side_yes HsW.out _).mono ?_; rintro e w' ⟨rfl, rfl⟩) | (go_at_call 42; with_reducible refine (side_yes HsH.out _).mono ?_; rintro e w' ⟨rfl, rfl⟩))
          go_ret
          exact ⟨ret_int (HE.out.arg HN.out), HW.out⟩
      · have HN : Hid (¬ Args W H n m Z Y) := hid fun k => hcn k.arms
        have g1 : ((n : Int) == W * H) = false := by rw [beq_eq_false_iff_ne]; exact hcn
        have g2 : ((n : Int) != W * H) = true := by simpa using hcn
        clear hcn
        go_enter Try.func18, Try.ntmps18
        go_wp2_with (first | (go_at_call 42; with_reducible refine (side_yes HsW.out _).mono ?_; rintro e w' ⟨rfl, rfl⟩) | (go_at_call 42; with_reducible refine (side_yes HsH.out _).mono ?_; rintro e w' ⟨rfl, rfl⟩))
        go_ret
        exact ⟨ret_int (HE.out.arg HN.out), HW.out⟩
    · have HN : Hid (¬ Args W H n m Z Y) := hid fun k => hsH k.sized.2
      have HsW := hid hsW
      have HsH := hid hsH
      clear hsW hsH
      go_enter Try.func18, Try.ntmps18
      go_wp2_with (first | (go_at_call 42; with_reducible refine (side_yes HsW.out _).mono ?_; rintro e w' ⟨rfl, rfl⟩) | (go_at_call 42; with_reducible refine (side_no HsH.out _).mono ?_; rintro e w' ⟨rfl, rfl⟩))
      go_ret
      exact ⟨ret_int (HE.out.arg HN.out), HW.out⟩
  · have HN : Hid (¬ Args W H n m Z Y) := hid fun k => hsW k.sized.1
    have HsW := hid hsW
    clear hsW
    go_enter Try.func18, Try.ntmps18
    go_wp2_with (go_at_call 42; with_reducible refine (side_no HsW.out _).mono ?_; rintro e w' ⟨rfl, rfl⟩)
    go_ret
    exact ⟨ret_int (HE.out.arg HN.out), HW.out⟩
end Go.Proofs.Ytaepiegbpgkciaa
