/-
  The walk of lowest: the lowest tile beside a tile.
-/
import Derived.Test.YtngamphkehppfaaWalkRiv
namespace Go.Proofs.Ytngamphkehppfaa
open Go.RowKit

set_option maxHeartbeats 1600000 in
theorem lowest_any (W H : Nat) (ao : Option Addr) (n cap : Nat) (Z : Nat → Int) (hg : Good W H n Z) (u : Nat) (hu : u < W * H) (w : World) (hI : Ints w ao n Z) :
    Calls Try.prog 60 #[lv W H (.slice ao n cap), .int .i64 u] w fun r w' => r = .returned (.int .i64 (stp W H Z u : Nat)) ∧ Below w.heap.size w w' := by
  have HL := hid (lb_start (W := W) (H := H) (cap := cap) hI)
  have HG := hid hg
  have HU := hid hu
  obtain ⟨hW1, hW2, hH1, hH2⟩ := hg.side
  clear hI hg hu
  unfold stp
  go_enter Try.func60, Try.ntmps60
  go_wp2_with fail
  refine (total_any W H ao n cap Z HG.out u HU.out _ HL.out.ints).mono ?_
  rintro r w1 ⟨rfl, hb1⟩
  have HL1 := hid (HL.out.stays hb1)
  clear hb1 HL
  go_wp2_with fail
  go_loopw [5, 6, 14] (fun fv sv iv wr => ∃ k : Nat, k ≤ 4 ∧ iv = .int .i64 k ∧ fv = .int .i64 ((lowS W H Z u k).1 : Nat) ∧ sv = .int .i64 (lowS W H Z u k).2 ∧ Hid (LB W H ao n cap Z w wr)) (fun _ _ iv _ => 4 - (intOf iv).toNat)
  case atStart => exact ⟨0, by omega, rfl, rfl, rfl, HL1⟩
  case round =>
    obtain ⟨k, hk, rfl, rfl, rfl, hS⟩ := hrel
    clear HL1
    obtain ⟨f, hf⟩ : ∃ f, (lowS W H Z u k).1 = f := ⟨_, rfl⟩
    obtain ⟨l, hl⟩ : ∃ l, (lowS W H Z u k).2 = l := ⟨_, rfl⟩
    rw [hf, hl]
    have HF := hid (And.intro hf hl)
    clear hf hl
    by_cases hlt : k < 4
    · have c0 := hS.out.c0
      have c1 := hS.out.c1
      have c2 := hS.out.c2
      have hk3 : (k : Int) < 4 := by omega
      go_wp2_with fail
      refine (beside_any W H (by omega) hW2 hH2 _ u HU.out k hlt _).mono ?_
      rintro r w2 ⟨rfl, hb2⟩
      have HL2 := hid (hS.out.stays hb2)
      clear hb2 c0 c1 c2
      rcases bsd_tile HU.out k with e | ⟨v, e, hv⟩
      · rw [e]
        have HE := hid (lowS_none (Z := Z) e)
        clear e
        go_wp2_with fail
        go_roundw
        case rel => exact ⟨k + 1, by omega, by go_num, by rw [HE.out, HF.out.1], by rw [HE.out, HF.out.2], HL2⟩
        case measure => simp [intOf]; omega
      · rw [e]
        have HE := hid e
        have HV := hid hv
        have hv2 : v ≤ 1024 := by have := mul_small hW2 hH2; omega
        clear e hv
        have c0 := HL2.out.c0
        have c1 := HL2.out.c1
        have c2 := HL2.out.c2
        go_wp2_with fail
        refine (total_any W H ao n cap Z HG.out v HV.out _ HL2.out.ints).mono ?_
        rintro r w3 ⟨rfl, hb3⟩
        have HL3 := hid (HL2.out.stays hb3)
        clear hb3 c0 c1 c2
        by_cases hlow : sumT W Z v < l
        · have H1 := hid (lowS_yes HE.out (by rw [HF.out.2]; exact hlow))
          obtain ⟨q, hq⟩ : ∃ q, sumT W Z v = q := ⟨_, rfl⟩
          rw [hq] at hlow ⊢
          have HQ := hid hq
          clear hq
          go_wp2_with fail
          go_roundw
          case rel => exact ⟨k + 1, by omega, by go_num, by rw [H1.out], by rw [H1.out, HQ.out], HL3⟩
          case measure => simp [intOf]; omega
        · have H1 := hid (lowS_no HE.out (by rw [HF.out.2]; exact hlow))
          obtain ⟨q, hq⟩ : ∃ q, sumT W Z v = q := ⟨_, rfl⟩
          rw [hq] at hlow ⊢
          clear hq
          go_wp2_with fail
          go_roundw
          case rel => exact ⟨k + 1, by omega, by go_num, by rw [H1.out, HF.out.1], by rw [H1.out, HF.out.2], HL3⟩
          case measure => simp [intOf]; omega
    · obtain rfl : k = 4 := by omega
      go_wp2_with fail
      go_ret
      exact ⟨ret_int (by rw [HF.out.1]), hS.out.below⟩
end Go.Proofs.Ytngamphkehppfaa
