/-
  The walk of the reference's held: whether a corner belongs to one of some tiles.
-/
import Derived.Test.YtngamphkehppfaaWalkSame
namespace Go.Proofs.Ytngamphkehppfaa
open Go.RowKit

theorem markB4 (W t i : Nat) : markB W t 4 i = (i == nw W t || i == nw W t + 1 || i == nw W t + W + 2 || i == nw W t + W + 1) := by
  rw [markB_succ, markB_succ, markB_succ, markB_succ]; simp [markB, pl]

set_option maxHeartbeats 3200000 in
theorem held_any (W H : Nat) (ao : Option Addr) (n cap : Nat) (Z : Nat → Int) (hg : Good W H n Z) (p : Nat) (bo : Option Addr) (m cap2 : Nat) (hm : m ≤ 9223372036854775807) (T : Nat → Int) (w : World) (hI : Ints w ao n Z) (hT : Ints w bo m T) :
    Calls Try.prog 66 #[lv W H (.slice ao n cap), .int .i64 p, .slice bo m cap2] w fun r w' => r = .returned (.bool (heldB W H T m p)) ∧ Below w.heap.size w w' := by
  obtain ⟨hW1, hW2, hH1, hH2⟩ := hg.side
  have hlb := hg.shaped.bound
  have HL := hid (lb_start (W := W) (H := H) (cap := cap) hI)
  have HT := hid hT
  have HG := hid hg
  obtain ⟨r, hr⟩ : ∃ r, r = heldB W H T m p := ⟨_, rfl⟩
  rw [← hr]
  have HR := hid hr
  clear hI hg hT hr
  go_enter Try.func66, Try.ntmps66
  go_wp2_with fail
  obtain ⟨B, hB⟩ : ∃ B, B = w.heap.size := ⟨_, rfl⟩
  have HBB := hid hB
  simp only [← hB]
  clear hB
  generalize World.alloc _ _ = w1 at HL ⊢
  go_loopw [13] (fun iv wr => ∃ j : Nat, j ≤ m ∧ iv = .int .i64 j ∧ Hid (LB W H ao n cap Z w wr ∧ heldB W H T j p = false)) (fun iv _ => m - (intOf iv).toNat)
  case atStart => exact ⟨0, Nat.zero_le _, rfl, hid ⟨HL.out, rfl⟩⟩
  case round =>
    obtain ⟨j, hj, rfl, hS⟩ := hrel
    clear HL
    by_cases hlt : j < m
    · obtain ⟨b, off, rfl, hbz, hcell⟩ := HT.out j hlt
      have q0 := (hS.out.1.below.cell (p := ⟨b, off + j, none⟩) hbz).trans hcell
      obtain ⟨t, et⟩ : ∃ t, t = T j := ⟨_, rfl⟩
      rw [← et] at q0
      have ET := hid et
      have c0 := hS.out.1.c0
      have c1 := hS.out.1.c1
      have c2 := hS.out.1.c2
      have hz := hS.out.1.size
      rw [← HBB.out] at c0 c1 c2 hz
      have hS2 := hid (hS.out.1.stays (Joins.below_alloc1 wr (.cells #[.int .i64 W, .int .i64 H, .slice ao n cap] 24)))
      clear et hcell
      cases hti : tileB W H t with
      | false =>
        have HTI := hid hti
        have hN : heldB W H T (j + 1) p = false := by rw [heldB_succ, ← ET.out, hti, hS.out.2]; rfl
        have HN := hid hN
        clear hti hN
        go_wp2_with (go_at_call 31; refine (is_any W H hW2 hH2 _ t _).mono ?_; rw [HTI.out]; rintro e w' ⟨rfl, rfl⟩)
        go_roundw
        case rel => exact ⟨j + 1, by omega, by go_num, hid ⟨hS2.out, HN.out⟩⟩
        case measure => simp [intOf]; omega
      | true =>
        have HTI := hid hti
        obtain ⟨u, rfl, hu⟩ : ∃ u : Nat, t = u ∧ u < W * H := by unfold tileB at hti; simp at hti; exact ⟨t.toNat, by omega, by omega⟩
        have HU := hid hu
        have hN : heldB W H T (j + 1) p = (p == nw W u || p == nw W u + 1 || p == nw W u + W + 2 || p == nw W u + W + 1) := by
          rw [heldB_succ, ← ET.out, hti, hS.out.2]
          show (false || (true && markB W u 4 p)) = _
          rw [markB4]; simp
        have HN := hid hN
        have hY : heldB W H T (j + 1) p = true → Ending.returned (.bool true) = Ending.returned (.bool r) := by
          intro h
          rw [HR.out]
          refine ret_bool ?_
          symm
          have hmono : ∀ d, heldB W H T (j + 1 + d) p = true := by
            intro d
            induction d with
            | zero => exact h
            | succ d ih => rw [show j + 1 + (d + 1) = j + 1 + d + 1 from rfl, heldB_succ, ih]; rfl
          have := hmono (m - (j + 1))
          rwa [show j + 1 + (m - (j + 1)) = m by omega] at this
        have HY := hid hY
        have hp : nw W u + W + 2 < n := by rw [HG.out.len]; exact nw_lt hu
        clear hti hu hN hY
        go_wp2_with (first
          | (go_at_call 31; refine (is_any W H hW2 hH2 _ u _).mono ?_; rw [HTI.out]; rintro e w' ⟨rfl, rfl⟩)
          | (go_at_call 62; refine (refplaces_any W H (by omega) hW2 hH2 _ u HU.out _).mono ?_; rintro e w4 ⟨rfl, hb4⟩))
        have hS4 := hid (hS2.out.stays hb4)
        obtain ⟨a, ha⟩ : ∃ a, a = nw W u := ⟨_, rfl⟩
        have HN2 := HN.out
        rw [← ha] at hp HN2
        have HN3 := hid HN2
        unfold four
        rw [← ha]
        have i0 := ix0
        have i1 := ix1
        have i2 := ix2
        have i3 := ix3
        clear hb4 hS2 hS c0 c1 c2 q0 HN HN2 ha
        refine wp_loop_rounds 5 ?_
        rw [rounds_succ]
        go_wp2_with fail
        · have g : ((a : Int) == (p : Int)) = true := by assumption
          have g' : (a : Int) = (p : Int) := by simpa using g
          go_ret
          exact ⟨HY.out (by rw [HN3.out]; simp only [Bool.or_eq_true, beq_iff_eq]; omega), hS4.out.below⟩
        have g0 : (a : Int) ≠ (p : Int) := by
          have g : ((a : Int) == (p : Int)) = false := by assumption
          simpa using g
        have G0 := hid g0
        clear g0
        rw [rounds_succ]
        go_wp2_with fail
        · have g : ((a : Int) + 1 == (p : Int)) = true := by assumption
          have g' : (a : Int) + 1 = (p : Int) := by simpa using g
          go_ret
          exact ⟨HY.out (by rw [HN3.out]; simp only [Bool.or_eq_true, beq_iff_eq]; omega), hS4.out.below⟩
        have g1 : (a : Int) + 1 ≠ (p : Int) := by
          have g : ((a : Int) + 1 == (p : Int)) = false := by assumption
          simpa using g
        have G1 := hid g1
        clear g1
        rw [rounds_succ]
        go_wp2_with fail
        · have g : ((a : Int) + W + 2 == (p : Int)) = true := by assumption
          have g' : (a : Int) + W + 2 = (p : Int) := by simpa using g
          go_ret
          exact ⟨HY.out (by rw [HN3.out]; simp only [Bool.or_eq_true, beq_iff_eq]; omega), hS4.out.below⟩
        have g2 : (a : Int) + W + 2 ≠ (p : Int) := by
          have g : ((a : Int) + W + 2 == (p : Int)) = false := by assumption
          simpa using g
        have G2 := hid g2
        clear g2
        rw [rounds_succ]
        go_wp2_with fail
        · have g : ((a : Int) + W + 1 == (p : Int)) = true := by assumption
          have g' : (a : Int) + W + 1 = (p : Int) := by simpa using g
          go_ret
          exact ⟨HY.out (by rw [HN3.out]; simp only [Bool.or_eq_true, beq_iff_eq]; omega), hS4.out.below⟩
        have g3 : (a : Int) + W + 1 ≠ (p : Int) := by
          have g : ((a : Int) + W + 1 == (p : Int)) = false := by assumption
          simpa using g
        have G3 := hid g3
        clear g3
        rw [rounds_succ]
        go_wp2_with fail
        go_roundw
        case rel =>
          refine ⟨j + 1, by omega, by go_num, hid ⟨hS4.out, ?_⟩⟩
          rw [HN3.out, Bool.eq_false_iff]
          simp only [ne_eq, Bool.or_eq_true, beq_iff_eq]
          have := G0.out
          have := G1.out
          have := G2.out
          have := G3.out
          omega
        case measure => simp [intOf]; omega
    · obtain rfl : m = j := by omega
      have hf : r = false := by rw [HR.out]; exact hS.out.2
      go_wp2_with fail
      go_ret
      exact ⟨ret_bool hf.symm, hS.out.1.below⟩
end Go.Proofs.Ytngamphkehppfaa
