/-
  The walk of the law on the tiles of a river.
-/
import Derived.Test.YtngamphkehppfaaWalkRefRiver
import Derived.Test.YtngamphkehppfaaWalkSame
namespace Go.Proofs.Ytngamphkehppfaa
open Go.RowKit

/-- What River hands back: a list, an error. -/
def RvTo (k : Nat) (X : Nat → Int) (e : Int) (w : World) (r : Ending) (w' : World) : Prop :=
  ∃ ao cap, r = .returned (.tuple #[.slice ao k cap, .int .i64 e]) ∧ Ints w' ao k X ∧ Below w.heap.size w w'
theorem RvTo.of_row {k : Nat} {X : Nat → Int} {w w' : World} {r : Ending} (hk : 0 < k) (h : ∃ v, r = .returned (.tuple #[v, .int .i64 0]) ∧ w'.ownsRow w.heap.size 3 1 v k (ints k X) ∧ Below w.heap.size w w') : RvTo k X 0 w r w' := by
  obtain ⟨v, rfl, hr, hb⟩ := h
  obtain ⟨g, cap, rfl, _, _⟩ := hr.form hk
  exact ⟨_, cap, rfl, ints_of_row hr, hb⟩
theorem both_river (W H : Int) (ao : Option Addr) (n cap : Nat) (Z : Nat → Int) (hn : n ≤ 9223372036854775807) (t : Int) : ∃ (k : Nat) (X : Nat → Int) (e : Int), k ≤ 61 ∧
    (∀ w, Ints w ao n Z → Calls Try.prog 28 #[lv W H (.slice ao n cap), .int .i64 t] w (RvTo k X e w)) ∧
    (∀ w, Ints w ao n Z → Calls Try.prog 29 #[lv W H (.slice ao n cap), .int .i64 t] w (RvTo k X e w)) := by
  rcases tile_cases W H n Z t with ⟨e, he⟩ | ⟨W', H', u, rfl, rfl, rfl, hg, hu⟩
  · refine ⟨0, fun _ => 0, e, by omega, fun w hI => ?_, fun w hI => ?_⟩
    · refine (river_no W H ao n cap Z hn t w hI e he).mono ?_
      rintro r w' ⟨rfl, hb⟩
      exact ⟨none, 0, rfl, Ints.nil _ _, hb⟩
    · refine (refriver_no W H ao n cap Z hn t w hI e he).mono ?_
      rintro r w' ⟨rfl, hb⟩
      exact ⟨none, 0, rfl, Ints.nil _ _, hb⟩
  · obtain ⟨m, hm, hr⟩ := riv_ex hg hu
    refine ⟨m + 1, rvI W' H' Z u, 0, by omega, fun w hI => ?_, fun w hI => ?_⟩
    · exact (river_ok W' H' ao n cap Z hg u hu m hm hr w hI).mono fun r w' h => RvTo.of_row (by omega) h
    · exact (refriver_ok W' H' ao n cap Z hg u hu m hm hr w hI).mono fun r w' h => RvTo.of_row (by omega) h

set_option maxHeartbeats 1600000 in
theorem walk_rivers (W H : Int) (ao : Option Addr) (n cap : Nat) (Z : Nat → Int) (hn : n ≤ 9223372036854775807) (t : Int) (w : World) (hI : Ints w ao n Z) :
    Calls Try.prog 8 #[lv W H (.slice ao n cap), .int .i64 t] w fun r w' => r = .returned (.bool true) ∧ Below w.heap.size w w' := by
  obtain ⟨k, X, e, hk, hA, hB⟩ := both_river W H ao n cap Z hn t
  have HS := hid (And.intro hA hB)
  have HL := hid (lb_start (W := W) (H := H) (cap := cap) hI)
  clear hI hA hB
  by_cases h1 : 4000 < n
  · go_enter Try.func8, Try.ntmps8
    go_wp2_with fail
    refine (large0_yes W H ao n cap hn h1 _).mono ?_
    rintro r w1 ⟨rfl, hb1⟩
    have HL1 := hid (HL.out.stays hb1)
    clear hb1
    go_wp2_with fail
    refine (known_any _).mono ?_
    rintro r w2 ⟨rfl, hb2⟩
    go_wp2
    go_ret
    exact ⟨rfl, (HL1.out.stays hb2).below⟩
  · go_enter Try.func8, Try.ntmps8
    go_wp2_with fail
    refine (large0_no W H ao n cap (by omega) _).mono ?_
    rintro r w1 ⟨rfl, hb1⟩
    have HL1 := hid (HL.out.stays hb1)
    have c0 := HL1.out.c0
    have c1 := HL1.out.c1
    have c2 := HL1.out.c2
    clear hb1 HL
    go_wp2_with fail
    refine (HS.out.1 _ HL1.out.ints).mono ?_
    rintro r w2 ⟨ga, ca, rfl, hia, hb2⟩
    have HL2 := hid (HL1.out.stays hb2)
    have HIA := hid hia
    clear hb2 c0 c1 c2 HL1 hia
    have c0 := HL2.out.c0
    have c1 := HL2.out.c1
    have c2 := HL2.out.c2
    go_wp2_with fail
    refine (HS.out.2 _ HL2.out.ints).mono ?_
    rintro r w3 ⟨gb, cb, rfl, hib, hb3⟩
    have HL3 := hid (HL2.out.stays hb3)
    have HIA3 := hid (HIA.out.stays hb3)
    have HIB := hid hib
    clear hb3 c0 c1 c2 HL2 hib HIA
    go_wp2_with fail
    refine (list_same ga gb k ca cb X (by omega) _ HIA3.out HIB.out).mono ?_
    rintro r w4 ⟨rfl, q, rfl⟩
    have HL4 := hid (HL3.out.stays (Joins.below_draws _ _ q))
    go_wp2_with fail
    refine (known_any _).mono ?_
    rintro r w7 ⟨rfl, hb7⟩
    go_wp2
    go_ret
    exact ⟨rfl, (HL4.out.stays hb7).below⟩
end Go.Proofs.Ytngamphkehppfaa
