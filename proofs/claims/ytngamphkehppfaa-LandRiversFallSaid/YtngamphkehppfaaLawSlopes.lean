/-
  The walks of Water, and of the law on slopes.
-/
import Derived.Test.YtngamphkehppfaaWalkWater
namespace Go.Proofs.Ytngamphkehppfaa
open Go.RowKit

set_option maxHeartbeats 1600000 in
theorem water_no (W H : Int) (ao : Option Addr) (n cap : Nat) (Z : Nat → Int) (hn : n ≤ 9223372036854775807) (t : Int) (w : World) (hI : Ints w ao n Z) (e : Int) (hE : TErr W H n Z t e) :
    Calls Try.prog 26 #[lv W H (.slice ao n cap), .int .i64 t] w fun r w' => r = .returned (.tuple #[.bool false, .int .i64 e]) ∧ Below w.heap.size w w' := by
  have HL := hid (lb_start (W := W) (H := H) (cap := cap) hI)
  have HE := hid hE
  have g : (e != 0) = true := by simpa using hE.ne
  clear hI hE
  go_enter Try.func26, Try.ntmps26
  go_wp2_with fail
  refine (vt_no W H ao n cap Z hn t _ HL.out.ints e HE.out).mono ?_
  rintro r w1 ⟨rfl, hb1⟩
  go_wp2_with fail
  go_ret2
  exact ⟨rfl, (HL.out.stays hb1).below⟩
set_option maxHeartbeats 1600000 in
theorem water_ok (W H : Nat) (ao : Option Addr) (n cap : Nat) (Z : Nat → Int) (hg : Good W H n Z) (u : Nat) (hu : u < W * H) (w : World) (hI : Ints w ao n Z) :
    Calls Try.prog 26 #[lv W H (.slice ao n cap), .int .i64 u] w fun r w' => r = .returned (.tuple #[.bool (decide (top W Z u ≤ 2)), .int .i64 0]) ∧ Below w.heap.size w w' := by
  have HL := hid (lb_start (W := W) (H := H) (cap := cap) hI)
  have HG := hid hg
  have HU := hid hu
  obtain ⟨r, hr⟩ : ∃ r, r = decide (top W Z u ≤ 2) := ⟨_, rfl⟩
  rw [← hr]
  have HR := hid hr
  clear hI hg hu hr
  go_enter Try.func26, Try.ntmps26
  go_wp2_with fail
  refine (vt_ok W H ao n cap Z HG.out u HU.out _ HL.out.ints).mono ?_
  rintro r w1 ⟨rfl, hb1⟩
  have HL1 := hid (HL.out.stays hb1)
  have c0 := HL1.out.c0
  have c1 := HL1.out.c1
  have c2 := HL1.out.c2
  have hz := HL1.out.size
  clear hb1
  go_wp2_with (go_at_call 58; refine (wet_any W H ao n cap Z HG.out u HU.out _ HL1.out.ints).mono ?_; rw [← HR.out]; rintro e w4 ⟨rfl, hb4⟩)
  go_ret2
  exact ⟨rfl, (HL1.out.stays hb4).below⟩
set_option maxHeartbeats 1600000 in
theorem refwater_no (W H : Int) (ao : Option Addr) (n cap : Nat) (Z : Nat → Int) (hn : n ≤ 9223372036854775807) (t : Int) (w : World) (hI : Ints w ao n Z) (e : Int) (hE : TErr W H n Z t e) :
    Calls Try.prog 27 #[lv W H (.slice ao n cap), .int .i64 t] w fun r w' => r = .returned (.tuple #[.bool false, .int .i64 e]) ∧ Below w.heap.size w w' := by
  have HL := hid (lb_start (W := W) (H := H) (cap := cap) hI)
  clear hI
  rcases hE with ⟨h0, hE⟩ | ⟨rfl, W', H', rfl, rfl, hg, ht⟩
  · have HE := hid hE
    have g : (e != 0) = true := by simpa using h0
    clear hE
    go_enter Try.func27, Try.ntmps27
    go_wp2_with fail
    refine (refvalidate_any W H ao n cap Z hn _ HL.out.ints e HE.out).mono ?_
    rintro r w1 ⟨rfl, hb1⟩
    go_wp2_with fail
    go_ret2
    exact ⟨rfl, (HL.out.stays hb1).below⟩
  · have HE := hid hg.err
    have HT := hid ht
    obtain ⟨hW1, hW2, hH1, hH2⟩ := hg.side
    clear hg ht
    go_enter Try.func27, Try.ntmps27
    go_wp2_with fail
    refine (refvalidate_any W' H' ao n cap Z hn _ HL.out.ints 0 HE.out).mono ?_
    rintro r w1 ⟨rfl, hb1⟩
    have HL1 := hid (HL.out.stays hb1)
    have c0 := HL1.out.c0
    have c1 := HL1.out.c1
    have c2 := HL1.out.c2
    have hz := HL1.out.size
    clear hb1
    go_wp2_with (go_at_call 31; refine (is_any W' H' hW2 hH2 _ t _).mono ?_; rw [HT.out]; rintro e w' ⟨rfl, rfl⟩)
    go_ret2
    exact ⟨rfl, add HL1.out.below _⟩
set_option maxHeartbeats 1600000 in
theorem refwater_ok (W H : Nat) (ao : Option Addr) (n cap : Nat) (Z : Nat → Int) (hg : Good W H n Z) (u : Nat) (hu : u < W * H) (w : World) (hI : Ints w ao n Z) :
    Calls Try.prog 27 #[lv W H (.slice ao n cap), .int .i64 u] w fun r w' => r = .returned (.tuple #[.bool (decide (top W Z u ≤ 2)), .int .i64 0]) ∧ Below w.heap.size w w' := by
  have HL := hid (lb_start (W := W) (H := H) (cap := cap) hI)
  have HE := hid hg.err
  have HG := hid hg
  have HU := hid hu
  have HT := hid (tile_yes hu)
  obtain ⟨hW1, hW2, hH1, hH2⟩ := hg.side
  have hlb := hg.shaped.bound
  obtain ⟨r, hr⟩ : ∃ r, r = decide (top W Z u ≤ 2) := ⟨_, rfl⟩
  rw [← hr]
  have HR := hid hr
  clear hI hg hu hr
  go_enter Try.func27, Try.ntmps27
  go_wp2_with fail
  refine (refvalidate_any W H ao n cap Z (by omega) _ HL.out.ints 0 HE.out).mono ?_
  rintro r w1 ⟨rfl, hb1⟩
  have HL1 := hid (HL.out.stays hb1)
  have c0 := HL1.out.c0
  have c1 := HL1.out.c1
  have c2 := HL1.out.c2
  have hz := HL1.out.size
  have HL2 := hid (HL1.out.stays (Joins.below_alloc1 w1 (.cells #[.int .i64 W, .int .i64 H, .slice ao n cap] 24)))
  clear hb1
  go_wp2_with (first
    | (go_at_call 31; refine (is_any W H hW2 hH2 _ u _).mono ?_; rw [HT.out]; rintro e w' ⟨rfl, rfl⟩)
    | (go_at_call 59; refine (sea_any W H ao n cap Z HG.out u HU.out _ HL2.out.ints).mono ?_; rw [← HR.out]; rintro e w4 ⟨rfl, hb4⟩))
  go_ret2
  exact ⟨rfl, (HL2.out.stays hb4).below⟩

/-- What both answer of a tile's slope and water. -/
theorem slope_cases (W H : Int) (ao : Option Addr) (n cap : Nat) (Z : Nat → Int) (hn : n ≤ 9223372036854775807) (t : Int) : ∃ (a b e : Int) (x : Bool) (f : Int),
    (∀ w, Ints w ao n Z → Calls Try.prog 24 #[lv W H (.slice ao n cap), .int .i64 t] w fun r w' => r = .returned (.tuple #[.int .i64 a, .int .i64 b, .int .i64 e]) ∧ Below w.heap.size w w') ∧
    (∀ w, Ints w ao n Z → Calls Try.prog 25 #[lv W H (.slice ao n cap), .int .i64 t] w fun r w' => r = .returned (.tuple #[.int .i64 a, .int .i64 b, .int .i64 e]) ∧ Below w.heap.size w w') ∧
    (∀ w, Ints w ao n Z → Calls Try.prog 26 #[lv W H (.slice ao n cap), .int .i64 t] w fun r w' => r = .returned (.tuple #[.bool x, .int .i64 f]) ∧ Below w.heap.size w w') ∧
    (∀ w, Ints w ao n Z → Calls Try.prog 27 #[lv W H (.slice ao n cap), .int .i64 t] w fun r w' => r = .returned (.tuple #[.bool x, .int .i64 f]) ∧ Below w.heap.size w w') := by
  rcases tile_cases W H n Z t with ⟨e, he⟩ | ⟨W', H', u, rfl, rfl, rfl, hg, hu⟩
  · exact ⟨0, 0, e, false, e, fun w hI => slope_no W H ao n cap Z hn t w hI e he, fun w hI => refslope_no W H ao n cap Z hn t w hI e he, fun w hI => water_no W H ao n cap Z hn t w hI e he, fun w hI => refwater_no W H ao n cap Z hn t w hI e he⟩
  · exact ⟨_, _, 0, _, 0, fun w hI => slope_ok W' H' ao n cap Z hg u hu w hI, fun w hI => refslope_ok W' H' ao n cap Z hg u hu w hI, fun w hI => water_ok W' H' ao n cap Z hg u hu w hI, fun w hI => refwater_ok W' H' ao n cap Z hg u hu w hI⟩

set_option maxHeartbeats 1600000 in
theorem walk_slopes (W H : Int) (ao : Option Addr) (n cap : Nat) (Z : Nat → Int) (hn : n ≤ 9223372036854775807) (t : Int) (w : World) (hI : Ints w ao n Z) :
    Calls Try.prog 7 #[lv W H (.slice ao n cap), .int .i64 t] w fun r w' => r = .returned (.bool true) ∧ Below w.heap.size w w' := by
  obtain ⟨a, b, e, x, f, hA, hB, hC, hD⟩ := slope_cases W H ao n cap Z hn t
  have HS := hid (And.intro hA (And.intro hB (And.intro hC hD)))
  have HL := hid (lb_start (W := W) (H := H) (cap := cap) hI)
  clear hI hA hB hC hD
  by_cases h1 : 4000 < n
  · go_enter Try.func7, Try.ntmps7
    go_wp2_with fail
    refine (large0_yes W H ao n cap hn h1 _).mono ?_
    rintro r w1 ⟨rfl, hb1⟩
    have HL1 := hid (HL.out.stays hb1)
    clear hb1
    go_wp2_with fail
    refine (known_any _).mono ?_
    rintro r w2 ⟨rfl, hb2⟩
    go_wp2
    go_ret
    exact ⟨rfl, (HL1.out.stays hb2).below⟩
  · go_enter Try.func7, Try.ntmps7
    go_wp2_with fail
    refine (large0_no W H ao n cap (by omega) _).mono ?_
    rintro r w1 ⟨rfl, hb1⟩
    have HL1 := hid (HL.out.stays hb1)
    have c0 := HL1.out.c0
    have c1 := HL1.out.c1
    have c2 := HL1.out.c2
    clear hb1 HL
    go_wp2_with fail
    refine (HS.out.1 _ HL1.out.ints).mono ?_
    rintro r w2 ⟨rfl, hb2⟩
    have HL2 := hid (HL1.out.stays hb2)
    clear hb2 c0 c1 c2 HL1
    have c0 := HL2.out.c0
    have c1 := HL2.out.c1
    have c2 := HL2.out.c2
    go_wp2_with fail
    refine (HS.out.2.1 _ HL2.out.ints).mono ?_
    rintro r w3 ⟨rfl, hb3⟩
    have HL3 := hid (HL2.out.stays hb3)
    clear hb3 c0 c1 c2 HL2
    have c0 := HL3.out.c0
    have c1 := HL3.out.c1
    have c2 := HL3.out.c2
    go_wp2_with fail
    refine (HS.out.2.2.1 _ HL3.out.ints).mono ?_
    rintro r w4 ⟨rfl, hb4⟩
    have HL4 := hid (HL3.out.stays hb4)
    clear hb4 c0 c1 c2 HL3
    have c0 := HL4.out.c0
    have c1 := HL4.out.c1
    have c2 := HL4.out.c2
    go_wp2_with fail
    refine (HS.out.2.2.2 _ HL4.out.ints).mono ?_
    rintro r w5 ⟨rfl, hb5⟩
    have HL5 := hid (HL4.out.stays hb5)
    clear hb5 c0 c1 c2 HL4
    go_wp2_with fail
    refine (known_any _).mono ?_
    rintro r w6 ⟨rfl, hb6⟩
    go_wp2
    go_ret
    exact ⟨rfl, (HL5.out.stays hb6).below⟩
end Go.Proofs.Ytngamphkehppfaa
