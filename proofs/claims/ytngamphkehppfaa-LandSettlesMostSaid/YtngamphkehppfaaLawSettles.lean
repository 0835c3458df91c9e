/-
  The walk of the law on settling.
-/
import Derived.Test.YtngamphkehppfaaWalkRSet
import Derived.Test.YtngamphkehppfaaWalkSame
import Derived.Test.YtngamphkehppfaaWalkKnown
namespace Go.Proofs.Ytngamphkehppfaa
open Go.RowKit

/-- What a settling hands back: a land, an error. -/
def StTo (A B : Int) (N : Nat) (Y : Nat → Int) (e : Int) (w : World) (r : Ending) (w' : World) : Prop :=
  ∃ ao cap, r = .returned (.tuple #[lv A B (.slice ao N cap), .int .i64 e]) ∧ Ints w' ao N Y ∧ Below w.heap.size w w'
theorem both_settle (W H : Int) (ao : Option Addr) (n cap : Nat) (Z : Nat → Int) :
    ∃ (A B : Int) (N : Nat) (Y : Nat → Int) (e : Int), N ≤ 1089 ∧
      (∀ w, Ints w ao n Z → Calls Try.prog 19 #[.int .i64 W, .int .i64 H, .slice ao n cap] w (StTo A B N Y e w)) ∧
      (∀ w, Ints w ao n Z → Calls Try.prog 20 #[.int .i64 W, .int .i64 H, .slice ao n cap] w (StTo A B N Y e w)) := by
  by_cases hs : Shaped W H n
  · have hb := hs.bound
    obtain ⟨W', rfl⟩ : ∃ W' : Nat, W = (W' : Int) := ⟨W.toNat, by have := hs.1.1; omega⟩
    obtain ⟨H', rfl⟩ : ∃ H' : Nat, H = (H' : Int) := ⟨H.toNat, by have := hs.1.2; omega⟩
    obtain ⟨D, hD, hD2⟩ := env_ex W' n (by omega) (fun i => clz (Z i))
    have hL : Lo W' n (fun i => clz (Z i)) D := fun G hG hR i hi => by
      obtain ⟨j, hj, e⟩ := hD2 i
      have a := hG i j hi hj
      have b : G j ≤ clz (Z j) := hR j hj
      have c : D i = clz (Z j) + dd W' i j := e
      omega
    refine ⟨W', H', n, D, 0, by omega, fun w hI => ?_, fun w hI => ?_⟩
    · refine (settle_yes W' H' ao n cap Z hs w hI).mono ?_
      rintro r w' ⟨g, c, Y, rfl, hr, hb, h1, h2, _⟩
      exact ⟨_, c, rfl, (ints_of_row hr).congr (settle_one h1 h2 hD hL), hb⟩
    · refine (refsettle_yes W' H' ao n cap Z hs w hI).mono ?_
      rintro r w' ⟨g, c, Y, rfl, hr, hb, h1, h2, _⟩
      exact ⟨_, c, rfl, (ints_of_row hr).congr (settle_one h1 h2 hD hL), hb⟩
  · refine ⟨0, 0, 0, fun _ => 0, 1, by omega, fun w _ => ?_, fun w _ => ?_⟩
    · refine (settle_no W H ao n cap w hs).mono ?_
      rintro r w' ⟨rfl, hb⟩
      exact ⟨none, 0, rfl, Ints.nil _ _, hb⟩
    · refine (refsettle_no W H ao n cap w hs).mono ?_
      rintro r w' ⟨rfl, hb⟩
      exact ⟨none, 0, rfl, Ints.nil _ _, hb⟩

set_option maxHeartbeats 3200000 in
theorem walk_settles (W H : Int) (ao : Option Addr) (n cap : Nat) (Z : Nat → Int) (hn : n ≤ 9223372036854775807) (w : World) (hI : Ints w ao n Z) :
    Calls Try.prog 4 #[.int .i64 W, .int .i64 H, .slice ao n cap] w fun r w' => r = .returned (.bool true) ∧ Below w.heap.size w w' := by
  obtain ⟨A, B, N, Y, e, hN, hA, hB⟩ := both_settle W H ao n cap Z
  have HS := hid (And.intro hA hB)
  have HI := hid hI
  clear hI hA hB
  by_cases h1 : 4000 < n
  · go_enter Try.func4, Try.ntmps4
    go_wp2_with fail
    refine (known_any _).mono ?_
    rintro r w2 ⟨rfl, hb2⟩
    go_wp2
    go_ret
    exact ⟨rfl, hb2⟩
  · go_enter Try.func4, Try.ntmps4
    go_wp2_with fail
    refine (HS.out.1 _ HI.out).mono ?_
    rintro r w2 ⟨ga, ca, rfl, hia, hb2⟩
    have ka := Joins.below_alloc1 w2 (.cells #[.int .i64 A, .int .i64 B, .slice ga N ca] 24)
    have HB2 := hid (hb2.trans (ka.mono hb2.size))
    have HIA := hid (hia.stays ka)
    clear hb2 hia ka
    obtain ⟨b1, hb1⟩ : ∃ b, b = w2.heap.size := ⟨_, rfl⟩
    have a0 : (w2.alloc (.cells #[.int .i64 A, .int .i64 B, .slice ga N ca] 24)).cell? ⟨b1, 0, none⟩ = some (.int .i64 A) := by rw [hb1]; simp
    have a1 : (w2.alloc (.cells #[.int .i64 A, .int .i64 B, .slice ga N ca] 24)).cell? ⟨b1, 1, none⟩ = some (.int .i64 B) := by rw [hb1]; simp
    have a2 : (w2.alloc (.cells #[.int .i64 A, .int .i64 B, .slice ga N ca] 24)).cell? ⟨b1, 2, none⟩ = some (.slice ga N ca) := by rw [hb1]; simp
    have az : b1 < (w2.alloc (.cells #[.int .i64 A, .int .i64 B, .slice ga N ca] 24)).heap.size := by rw [hb1]; simp
    go_wp2_with fail
    simp only [← hb1]
    have HB1 := hid hb1
    clear hb1
    generalize w2.alloc (.cells #[.int .i64 A, .int .i64 B, .slice ga N ca] 24) = w3 at *
    refine (HS.out.2 _ (HI.out.stays HB2.out)).mono ?_
    rintro r w4 ⟨gb, cb, rfl, hib, hb4⟩
    have kb := Joins.below_alloc1 w4 (.cells #[.int .i64 A, .int .i64 B, .slice gb N cb] 24)
    have k4 := hb4.trans (kb.mono hb4.size)
    have HB4 := hid (step HB2.out k4)
    have HIA4 := hid (HIA.out.stays k4)
    have HIB4 := hid (hib.stays kb)
    have a0' := (hb4.cell (p := ⟨b1, 0, none⟩) az).trans a0
    have a1' := (hb4.cell (p := ⟨b1, 1, none⟩) az).trans a1
    have a2' := (hb4.cell (p := ⟨b1, 2, none⟩) az).trans a2
    have az' : b1 < w4.heap.size := Nat.lt_of_lt_of_le az hb4.size
    clear hb4 a0 a1 a2 HIA hib kb k4
    go_wp2_with fail
    refine (land_same A B ga gb N ca cb Y (by omega) _ HIA4.out HIB4.out).mono ?_
    rintro r w5 ⟨rfl, hb5⟩
    have HB5 := hid (step HB4.out hb5)
    clear hb5
    go_wp2_with fail
    refine (known_any _).mono ?_
    rintro r w7 ⟨rfl, hb7⟩
    go_wp2
    go_ret
    exact ⟨rfl, step HB5.out hb7⟩
end Go.Proofs.Ytngamphkehppfaa
