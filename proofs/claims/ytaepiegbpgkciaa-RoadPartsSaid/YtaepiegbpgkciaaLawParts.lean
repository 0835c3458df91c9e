/-
  The walk of the law on the parts of streets.
-/
import Derived.Test.YtaepiegbpgkciaaKnown
import Derived.Test.YtaepiegbpgkciaaSame
import Derived.Test.YtaepiegbpgkciaaWalkRParts
namespace Go.Proofs.Ytaepiegbpgkciaa
open Go.RowKit

set_option maxHeartbeats 6400000 in
theorem walk_parts (Wd Hd : Int) (ao : Option Addr) (n cap : Nat) (Z : Nat → Int) (bo : Option Addr) (m bcap : Nat) (Y : Nat → Int) (hn : n ≤ 9223372036854775807) (hm : m ≤ 9223372036854775807) (w : World) (hI : Ints w ao n Z) (hB : Ints w bo m Y) :
    Calls Try.prog 11 #[rv Wd Hd (.slice ao n cap) (.slice bo m bcap)] w fun r w' => r = .returned (.bool true) ∧ Below w.heap.size w w' := by
  obtain ⟨f, hf0⟩ := VErr.ex Wd Hd n m Z Y
  have HF0 := hid hf0
  have HS := hid (sb_start (W := Wd) (H := Hd) (cap := cap) (bcap := bcap) hI hB)
  clear hI hB hf0
  obtain ⟨X, hX⟩ : ∃ X, X = w.heap.size := ⟨_, rfl⟩
  have HX := hid hX
  by_cases hf : Far n m
  · have HF := hid hf
    clear hf
    go_enter Try.func11, Try.ntmps11
    go_wp2_with fail
    refine (far_yes Wd Hd ao n cap bo m bcap hn hm HF.out _).mono ?_
    rintro r w1 ⟨rfl, hb1⟩
    have HS1 := hid (HS.out.stays hb1)
    clear hb1
    go_wp2_with fail
    refine (known_any _).mono ?_
    rintro r w2 ⟨rfl, hb2⟩
    have HS2 := hid (HS1.out.stays hb2)
    clear hb2
    go_wp2_with fail
    go_ret
    exact ⟨rfl, HS2.out.below⟩
  · have HF : Hid (n ≤ 4000 ∧ m ≤ 4000) := hid (by unfold Far at hf; omega)
    clear hf
    go_enter Try.func11, Try.ntmps11
    go_wp2_with fail
    refine (far_no Wd Hd ao n cap bo m bcap HF.out _).mono ?_
    rintro r w1 ⟨rfl, hb1⟩
    have HS1 := hid (HS.out.stays hb1)
    obtain ⟨c0, c1, c2, c3, hz1⟩ := HS1.out.at HX.out
    simp only [← hX] at c0 c1 c2 c3 ⊢
    clear hb1 HS hX
    go_wp2_with fail
    refine (parts_to Wd Hd ao n cap Z bo m bcap Y hn hm f HF0.out _ HS1.out.arms HS1.out.ways).mono ?_
    rintro r w2 ⟨hb2, hcase⟩
    have HS2 := hid (HS1.out.stays hb2)
    obtain ⟨c0, c1, c2, c3, hz2⟩ := HS2.out.at HX.out
    clear hb2 HS1
    rcases hcase with ⟨hf0, rfl⟩ | ⟨rfl, g, P, rfl, hrow, hp⟩
    · go_wp2_with fail
      refine (refparts_to Wd Hd ao n cap Z bo m bcap Y hn hm f HF0.out _ HS2.out.arms HS2.out.ways).mono ?_
      rintro r w3 ⟨hb3, (⟨_, rfl⟩ | ⟨h, _⟩)⟩
      · have HS3 := hid (HS2.out.stays hb3)
        clear hb3 HS2 c0 c1 c2 c3 hz2
        go_wp2_with fail
        refine (ints_same none none 0 0 0 (fun _ => 0) (by omega) _ (fun j hj => absurd hj (Nat.not_lt_zero j)) (fun j hj => absurd hj (Nat.not_lt_zero j))).mono ?_
        rintro r w4 ⟨rfl, k4, rfl⟩
        have HS4 := hid (HS3.out.stays (Joins.below_draws _ _ k4))
        go_wp2_with fail
        refine (known_any _).mono ?_
        rintro r w9 ⟨rfl, hb9⟩
        have HS9 := hid (HS4.out.stays hb9)
        clear hb9
        go_wp2_with fail
        go_ret
        exact ⟨rfl, HS9.out.below⟩
      · exact absurd h hf0
    · have hR : Right Wd Hd n m Z Y := by
        rcases HF0.out with ⟨_, h⟩ | h
        · exact h
        · simp at h
      obtain rfl : n = m := hR.eq
      have HR := hid hR
      obtain ⟨n16, n1024⟩ := hR.small
      have HI2 := hid (ints_row hrow)
      have HP := hid hp
      clear hR hrow hp
      go_wp2_with fail
      refine (refparts_to Wd Hd ao n cap Z bo n bcap Y hn hm 0 HF0.out _ HS2.out.arms HS2.out.ways).mono ?_
      rintro r w3 ⟨hb3, (⟨h, _⟩ | ⟨_, g', P', rfl, hrow', hp'⟩)⟩
      · exact absurd rfl h
      · have HS3 := hid (HS2.out.stays hb3)
        have HI3 := hid (HI2.out.stays hb3)
        have hv : vals n (iv P') = vals n (iv P) := vals_congr (fun i hi => by
          show Value.int .i64 (P' i) = Value.int .i64 (P i)
          rw [hp'.unique HR.out.sized HR.out.args.arms HP.out hi])
        rw [hv] at hrow'
        have HJ3 := hid (ints_row hrow')
        clear hb3 hrow' hp' hv HS2 HI2 c0 c1 c2 c3 hz2
        go_wp2_with fail
        refine (ints_same (some ⟨g, 0, none⟩) (some ⟨g', 0, none⟩) n n n _ (by omega) _ HI3.out HJ3.out).mono ?_
        rintro r w4 ⟨rfl, k4, rfl⟩
        have HS4 := hid (HS3.out.stays (Joins.below_draws _ _ k4))
        clear HI3 HJ3
        go_wp2_with fail
        refine (known_any _).mono ?_
        rintro r w9 ⟨rfl, hb9⟩
        have HS9 := hid (HS4.out.stays hb9)
        clear hb9
        go_wp2_with fail
        go_ret
        exact ⟨rfl, HS9.out.below⟩
end Go.Proofs.Ytaepiegbpgkciaa
