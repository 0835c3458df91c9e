/-
  The walk of the law on which streets are right.
-/
import Derived.Test.YtaepiegbpgkciaaKnown
import Derived.Test.YtaepiegbpgkciaaWalkRVal
namespace Go.Proofs.Ytaepiegbpgkciaa
open Go.RowKit

set_option maxHeartbeats 6400000 in
theorem walk_validates (Wd Hd : Int) (ao : Option Addr) (n cap : Nat) (Z : Nat → Int) (bo : Option Addr) (m bcap : Nat) (Y : Nat → Int) (hn : n ≤ 9223372036854775807) (hm : m ≤ 9223372036854775807) (w : World) (hI : Ints w ao n Z) (hB : Ints w bo m Y) :
    Calls Try.prog 3 #[rv Wd Hd (.slice ao n cap) (.slice bo m bcap)] w fun r w' => r = .returned (.bool true) ∧ Below w.heap.size w w' := by
  obtain ⟨e, he⟩ := VErr.ex Wd Hd n m Z Y
  have HE := hid he
  have HS := hid (sb_start (W := Wd) (H := Hd) (cap := cap) (bcap := bcap) hI hB)
  clear hI hB he
  obtain ⟨X, hX⟩ : ∃ X, X = w.heap.size := ⟨_, rfl⟩
  have HX := hid hX
  by_cases hf : Far n m
  · have HF := hid hf
    clear hf
    go_enter Try.func3, Try.ntmps3
    go_wp2_with fail
    refine (far_yes Wd Hd ao n cap bo m bcap hn hm HF.out _).mono ?_
    rintro r w1 ⟨rfl, hb1⟩
    have HS1 := hid (HS.out.stays hb1)
    clear hb1
    go_wp2_with fail
    refine (known_any _).mono ?_
    rintro r w2 ⟨rfl, hb2⟩
    have HS2 := hid (HS1.out.stays hb2)
    clear hb2
    go_wp2_with fail
    go_ret
    exact ⟨rfl, HS2.out.below⟩
  · have HF : Hid (n ≤ 4000 ∧ m ≤ 4000) := hid (by unfold Far at hf; omega)
    clear hf
    go_enter Try.func3, Try.ntmps3
    go_wp2_with fail
    refine (far_no Wd Hd ao n cap bo m bcap HF.out _).mono ?_
    rintro r w1 ⟨rfl, hb1⟩
    have HS1 := hid (HS.out.stays hb1)
    obtain ⟨c0, c1, c2, c3, hz1⟩ := HS1.out.at HX.out
    simp only [← hX] at c0 c1 c2 c3 ⊢
    clear hb1 HS hX
    go_wp2_with fail
    go_region_held3 (fun w' => SB Wd Hd ao n cap Z bo m bcap Y w w' ∧ w'.cell? ⟨X, 0, none⟩ = some (.int .i64 Wd) ∧ w'.cell? ⟨X, 1, none⟩ = some (.int .i64 Hd) ∧ w'.cell? ⟨X, 2, none⟩ = some (.slice ao n cap) ∧ w'.cell? ⟨X, 3, none⟩ = some (.slice bo m bcap))
      (first
        | exact sb_keep HX.out (And.intro HS1.out trivial) ((Below.refl _ _).drew)
        | exact sb_keep HX.out (by assumption) hb
        | assumption)
      (first
        | (go_at_call 17; (refine (validate_any Wd Hd ao n cap Z bo m bcap Y hn hm _ (sb_arms (by assumption)) (sb_ways (by assumption)) e HE.out).mono ?_); rintro r w6 ⟨rfl, hb⟩)
        | (go_at_call 18; (refine (refvalidate_any Wd Hd ao n cap Z bo m bcap Y hn hm _ (sb_arms (by assumption)) (sb_ways (by assumption)) e HE.out).mono ?_); rintro r w7 ⟨rfl, hb⟩)
        | (go_at_call 16; (refine (known_any _).mono ?_); rintro r w8 ⟨rfl, hb⟩))
    all_goals go_wp2_with fail
    all_goals go_ret
    all_goals exact ⟨rfl, sb_below (by assumption)⟩
end Go.Proofs.Ytaepiegbpgkciaa
