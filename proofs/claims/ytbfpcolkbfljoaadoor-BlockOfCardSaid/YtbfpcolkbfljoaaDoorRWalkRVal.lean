/-
  The walk of Validate of the reference.
-/
import Derived.Test.YtbfpcolkbfljoaaDoorRWalkVal
namespace Go.Proofs.YtbfpcolkbfljoaaDoor
open Go.RowKit

set_option maxHeartbeats 1600000 in
theorem refvalidate_any (W H : Int) (ao : Option Addr) (n cap : Nat) (Z : Nat → Int) (bo : Option Addr) (m bcap : Nat) (B : Nat → Bool) (hn : n ≤ 9223372036854775807) (hm : m ≤ 9223372036854775807) (w : World) (hI : Ints w ao n Z) (hB : Bools w bo m B) (e : Int) (hE : VErr W H n m Z B e) :
    Calls Tryd.prog 49 #[rv W H (.slice ao n cap) (.slice bo m bcap)] w fun r w' => r = .returned (.int .i64 e) ∧ Below w.heap.size w w' := by
  have hW := Joins.below_alloc1 w (.cells #[.int .i64 W, .int .i64 H, .slice ao n cap, .slice bo m bcap] 25)
  have HI := hid (hI.stays hW)
  have HB := hid (hB.stays hW)
  have HW := hid hW
  have HE := hid hE
  clear hI hB hE hW
  by_cases hs : Sized W H
  · have hbd := hs.bound
    obtain ⟨b1, b2⟩ := hbd
    obtain ⟨⟨h1, h2⟩, h3, h4⟩ := id hs
    have HSz := hid hs
    clear hs
    by_cases hcn : (n : Int) = W * H
    · by_cases hcm : (m : Int) = W * H
      · obtain rfl : n = m := by omega
        have HCN := hid hcn
        have g1 : ((n : Int) == W * H) = true := by rw [beq_iff_eq]; exact hcn
        have g2 : ((n : Int) != W * H) = false := by simp [hcn]
        have hn2 : n ≤ 1024 := by omega
        clear hcn hcm
        go_enter Tryd.func49, Tryd.ntmps49
        go_wp2_with fail
        clear g1 g2
        go_loop [3] (fun iv => ∃ j : Nat, j ≤ n ∧ iv = .int .i64 j ∧ Hid (∀ i, i < j → Fine (Z i) (B i))) (fun iv => n - (intOf iv).toNat)
        case atStart => exact ⟨0, Nat.zero_le _, rfl, hid (fun i hi => absurd hi (Nat.not_lt_zero i))⟩
        case round =>
          obtain ⟨j, hj, rfl, hh⟩ := hrel
          by_cases hlt : j < n
          · obtain ⟨b, off, rfl, hz, hcl⟩ := ints_cell HI.out hlt
            obtain ⟨b', off', rfl, hz2, hcb⟩ := bools_cell HB.out hlt
            obtain ⟨z, hz'⟩ : ∃ z, z = Z j := ⟨_, rfl⟩
            obtain ⟨x, hx'⟩ : ∃ x, x = B j := ⟨_, rfl⟩
            rw [← hz'] at hcl
            rw [← hx'] at hcb
            have HZ := hid hz'
            have HX := hid hx'
            clear hz' hx'
            by_cases hok : 0 ≤ z ∧ z ≤ 63
            · obtain ⟨o1, o2⟩ := hok
              by_cases h0 : z = 0
              · subst h0
                cases x
                · go_wp2_with fail
                  go_round
                  case rel =>
                    refine ⟨j + 1, by omega, by go_num, hid (fun i hi => ?_)⟩
                    by_cases h : i < j
                    · exact hh.out i h
                    · obtain rfl : i = j := by omega
                      rw [← HZ.out, ← HX.out]; exact ⟨by omega, by omega, fun _ => rfl⟩
                  case measure => simp [intOf]; omega
                · go_wp2_with fail
                  go_ret
                  refine ⟨ret_int (HE.out.no fun k => ?_), HW.out⟩
                  have := (k.fine j hlt).2.2 HZ.out.symm
                  rw [← HX.out] at this
                  cases this
              · have hz0 : (z == 0) = false := by simpa using h0
                have H0 := hid h0
                clear h0
                go_wp2_with fail
                go_round
                case rel =>
                  refine ⟨j + 1, by omega, by go_num, hid (fun i hi => ?_)⟩
                  by_cases h : i < j
                  · exact hh.out i h
                  · obtain rfl : i = j := by omega
                    rw [← HZ.out, ← HX.out]; exact ⟨by omega, by omega, fun k => absurd k (by simpa using hz0)⟩
                case measure => simp [intOf]; omega
            · have HK : Hid (Right W H n n Z B → False) := hid fun k => hok (by have := k.fine j hlt; rw [HZ.out]; exact ⟨this.1, this.2.1⟩)
              by_cases h0 : z < 0
              · clear hok
                go_wp2_with fail
                go_ret
                exact ⟨ret_int (HE.out.no HK.out), HW.out⟩
              · have h63 : 63 < z := by omega
                clear hok
                go_wp2_with fail
                go_ret
                exact ⟨ret_int (HE.out.no HK.out), HW.out⟩
          · obtain rfl : n = j := by omega
            go_wp2_with fail
            go_ret
            exact ⟨ret_int (HE.out.ok ⟨HSz.out, HCN.out, HCN.out, hh.out⟩), HW.out⟩
      · have HN : Hid (¬ Right W H n m Z B) := hid fun k => hcm k.wires
        have g1 : ((n : Int) == W * H) = true := by rw [beq_iff_eq]; exact hcn
        have g2 : ((n : Int) != W * H) = false := by simp [hcn]
        have g3 : ((m : Int) == W * H) = false := by rw [beq_eq_false_iff_ne]; exact hcm
        have g4 : ((m : Int) != W * H) = true := by simpa using hcm
        clear hcn hcm
        go_enter Tryd.func49, Tryd.ntmps49
        go_wp2_with fail
        go_ret
        exact ⟨ret_int (HE.out.no HN.out), HW.out⟩
    · have HN : Hid (¬ Right W H n m Z B) := hid fun k => hcn k.sets
      have g1 : ((n : Int) == W * H) = false := by rw [beq_eq_false_iff_ne]; exact hcn
      have g2 : ((n : Int) != W * H) = true := by simpa using hcn
      clear hcn
      go_enter Tryd.func49, Tryd.ntmps49
      go_wp2_with fail
      go_ret
      exact ⟨ret_int (HE.out.no HN.out), HW.out⟩
  · have HN : Hid (¬ Right W H n m Z B) := hid fun k => hs k.sized
    by_cases q1 : W < 4
    · clear hs
      go_enter Tryd.func49, Tryd.ntmps49
      go_wp2_with fail
      go_ret
      exact ⟨ret_int (HE.out.no HN.out), HW.out⟩
    · by_cases q2 : 32 < W
      · clear hs
        go_enter Tryd.func49, Tryd.ntmps49
        go_wp2_with fail
        go_ret
        exact ⟨ret_int (HE.out.no HN.out), HW.out⟩
      · by_cases q3 : H < 4
        · clear hs
          go_enter Tryd.func49, Tryd.ntmps49
          go_wp2_with fail
          go_ret
          exact ⟨ret_int (HE.out.no HN.out), HW.out⟩
        · have q4 : 32 < H := by unfold Sized at hs; omega
          clear hs
          go_enter Tryd.func49, Tryd.ntmps49
          go_wp2_with fail
          go_ret
          exact ⟨ret_int (HE.out.no HN.out), HW.out⟩
end Go.Proofs.YtbfpcolkbfljoaaDoor
