/-
  The walk of the law on drives.
-/
import Derived.Test.YtaepiegbpgkciaaKnown
import Derived.Test.YtaepiegbpgkciaaSame
import Derived.Test.YtaepiegbpgkciaaWalkGo
namespace Go.Proofs.Ytaepiegbpgkciaa
open Go.RowKit

set_option maxHeartbeats 6400000 in
theorem walk_goes (Wd Hd : Int) (ao : Option Addr) (n cap : Nat) (Z : Nat → Int) (bo : Option Addr) (m bcap : Nat) (Y : Nat → Int) (hn : n ≤ 9223372036854775807) (hm : m ≤ 9223372036854775807) (t fr : Int) (co : Option Addr) (q ccap : Nat) (T : Nat → Int) (hq : q ≤ 9223372036854775807) (w : World) (hI : Ints w ao n Z) (hB : Ints w bo m Y) (hT : Ints w co q T) :
    Calls Try.prog 13 #[rv Wd Hd (.slice ao n cap) (.slice bo m bcap), .int .i64 t, .int .i64 fr, .slice co q ccap] w fun r w' => r = .returned (.bool true) ∧ Below w.heap.size w w' := by
  obtain ⟨D, e, hG⟩ := GIs.ex Wd Hd n m Z Y t fr T q
  have HG := hid hG
  have hlen := hG.len
  have HS := hid (sb_start (W := Wd) (H := Hd) (cap := cap) (bcap := bcap) hI hB)
  have HT := hid hT
  clear hI hB hT hG
  obtain ⟨X, hX⟩ : ∃ X, X = w.heap.size := ⟨_, rfl⟩
  have HX := hid hX
  by_cases hf : Far n m
  · have HF := hid hf
    clear hf
    go_enter Try.func13, Try.ntmps13
    go_wp2_with fail
    refine (far_yes Wd Hd ao n cap bo m bcap hn hm HF.out _).mono ?_
    rintro r w1 ⟨rfl, hb1⟩
    have HS1 := hid (HS.out.stays hb1)
    clear hb1
    go_wp2_with fail

    refine (known_any _).mono ?_
    rintro r w9 ⟨rfl, hb9⟩
    have HS9 := hid (HS1.out.stays hb9)
    clear hb9
    go_wp2_with fail
    go_ret
    exact ⟨rfl, HS9.out.below⟩
  · have HF : Hid (n ≤ 4000 ∧ m ≤ 4000) := hid (by unfold Far at hf; omega)
    clear hf
    by_cases hq2 : q ≤ 4000
    · have q4 : (q : Int) ≤ 4000 := by omega
      go_enter Try.func13, Try.ntmps13
      go_wp2_with fail
      refine (far_no Wd Hd ao n cap bo m bcap HF.out _).mono ?_
      rintro r w1 ⟨rfl, hb1⟩
      have HS1 := hid (HS.out.stays hb1)
      clear hb1
      obtain ⟨c0, c1, c2, c3, hz1⟩ := HS1.out.at HX.out
      have HT1 := hid (HT.out.stays (HS1.out.below))
      simp only [← hX] at c0 c1 c2 c3 ⊢
      clear HS hX
      go_wp2_with fail

      refine (drive_to Wd Hd ao n cap Z bo m bcap Y hn hm t fr co q ccap T hq HG.out _ HS1.out.arms HS1.out.ways HT1.out).mono ?_
      rintro r w2 ⟨al, cl, rfl, hrow, hb2⟩
      have HS2 := hid (HS1.out.stays hb2)
      have HT2 := hid (HT1.out.stays hb2)
      have HI2 := hid (ints_of_row hrow rfl)
      obtain ⟨c0, c1, c2, c3, hz2⟩ := HS2.out.at HX.out
      clear hb2 hrow HS1 HT1 hz1
      go_wp2_with fail
      refine (refdrive_to Wd Hd ao n cap Z bo m bcap Y hn hm t fr co q ccap T hq HG.out _ HS2.out.arms HS2.out.ways HT2.out).mono ?_
      rintro r w3 ⟨bl, dl, rfl, hrow, hb3⟩
      have HS3 := hid (HS2.out.stays hb3)
      have HI3 := hid (HI2.out.stays hb3)
      have HJ3 := hid (ints_of_row hrow rfl)
      clear hb3 hrow HS2 HI2 HT2 c0 c1 c2 c3 hz2
      go_wp2_with fail
      refine (ints_same al bl D.length cl dl _ (by omega) _ HI3.out HJ3.out).mono ?_
      rintro r w4 ⟨rfl, k4, rfl⟩
      have HS4 := hid (HS3.out.stays (Joins.below_draws _ _ k4))
      clear HI3 HJ3
      go_wp2_with fail

      refine (known_any _).mono ?_
      rintro r w9 ⟨rfl, hb9⟩
      have HS9 := hid (HS4.out.stays hb9)
      clear hb9
      go_wp2_with fail
      go_ret
      exact ⟨rfl, HS9.out.below⟩
    · have q4 : (4000 : Int) < (q : Int) := by omega
      clear hq2
      go_enter Try.func13, Try.ntmps13
      go_wp2_with fail
      refine (far_no Wd Hd ao n cap bo m bcap HF.out _).mono ?_
      rintro r w1 ⟨rfl, hb1⟩
      have HS1 := hid (HS.out.stays hb1)
      clear hb1
      go_wp2_with fail

      refine (known_any _).mono ?_
      rintro r w9 ⟨rfl, hb9⟩
      have HS9 := hid (HS1.out.stays hb9)
      clear hb9
      go_wp2_with fail
      go_ret
      exact ⟨rfl, HS9.out.below⟩
end Go.Proofs.Ytaepiegbpgkciaa
