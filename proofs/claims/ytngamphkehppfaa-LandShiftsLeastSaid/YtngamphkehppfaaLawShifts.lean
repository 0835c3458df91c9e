/-
  The walk of the law on raising and lowering a corner.
-/
import Derived.Test.YtngamphkehppfaaWalkRs2
namespace Go.Proofs.Ytngamphkehppfaa
open Go.RowKit

theorem large1 (W H : Int) (ao : Option Addr) (n cap : Nat) (hn : n ≤ 9223372036854775807) (bo : Option Addr) (m cap2 : Nat) (hm : m ≤ 9223372036854775807) (w : World) (b : Nat) (hb : b < w.heap.size) (hc : w.cell? ⟨b, 0, none⟩ = some (.slice bo m cap2)) :
    Calls Try.prog 15 #[lv W H (.slice ao n cap), .slice (some ⟨b, 0, none⟩) 1 1] w fun r w' => r = .returned (.bool (decide (4000 < max n m))) ∧ Below w.heap.size w w' := by
  refine (large_any W H ao n cap hn (some ⟨b, 0, none⟩) 1 1 (by omega) (fun _ => bo) (fun _ => m) (fun _ => cap2) (fun j hj => hm) w (fun j hj => ?_)).mono fun r w' h => h
  obtain rfl : j = 0 := by omega
  exact ⟨b, 0, rfl, hb, hc⟩

/-- What a shift hands back: a land, the changed corners, the cost, an error. -/
def ShTo (A B : Int) (N : Nat) (Y : Nat → Int) (V : Nat) (X : Nat → Int) (L : List Nat) (c e : Int) (w : World) (r : Ending) (w' : World) : Prop :=
  ∃ ao cap v, r = .returned (.tuple #[lv A B (.slice ao N cap), v, .int .i64 c, .int .i64 e]) ∧ Ints w' ao N Y ∧ w'.ownsRow 0 53 3 v L.length (encC V X L) ∧ Below w.heap.size w w'
theorem both_shift (W H : Int) (ao : Option Addr) (n cap : Nat) (Z : Nat → Int) (hn : n ≤ 9223372036854775807) (x y : Int) (up : Bool) (bo : Option Addr) (m cap2 : Nat) (hm : m ≤ 9223372036854775807) (T : Nat → Int) :
    ∃ (A B : Int) (N : Nat) (Y : Nat → Int) (V : Nat) (X : Nat → Int) (L : List Nat) (c e : Int), N ≤ 1089 ∧ L.length ≤ 1089 ∧
      (∀ w, Ints w ao n Z → Ints w bo m T → Calls Try.prog 34 #[lv W H (.slice ao n cap), .int .i64 x, .int .i64 y, .bool up, .slice bo m cap2] w (ShTo A B N Y V X L c e w)) ∧
      (∀ w, Ints w ao n Z → Ints w bo m T → Calls Try.prog 35 #[lv W H (.slice ao n cap), .int .i64 x, .int .i64 y, .bool up, .slice bo m cap2] w (ShTo A B N Y V X L c e w)) := by
  obtain ⟨s, hw⟩ : ∃ s, Way up s := by cases up; exact ⟨-1, .inr ⟨rfl, rfl⟩⟩; exact ⟨1, .inl ⟨rfl, rfl⟩⟩
  rcases shift_cases W H n Z x y s hw.s m T with ⟨e, he⟩ | ⟨W', H', x', y', z, L, X, rfl, rfl, rfl, rfl, hok⟩
  · refine ⟨0, 0, 0, fun _ => 0, 0, fun _ => 0, [], 0, e, by omega, by simp, fun w hI hT => ?_, fun w hI hT => ?_⟩
    · refine (shift_no W H ao n cap Z hn x y up s hw bo m cap2 hm T w hI hT e he).mono ?_
      rintro r w' ⟨rfl, hb⟩
      exact ⟨none, 0, .slice none 0 0, rfl, Ints.nil _ _, World.ownsRow_nil _ _ _ _, hb⟩
    · refine (refshift_no W H ao n cap Z hn x y up s hw bo m cap2 hm T w hI hT e he).mono ?_
      rintro r w' ⟨rfl, hb⟩
      exact ⟨none, 0, .slice none 0 0, rfl, Ints.nil _ _, World.ownsRow_nil _ _ _ _, hb⟩
  · have hnb := hok.good.shaped.bound
    have hl : L.length ≤ n := by rw [hok.hL]; exact chs_le _ _ _ _ _ _ _
    refine ⟨W', H', n, X, W', X, L, (L.length * 250 : Nat), 0, by omega, by omega, fun w hI hT => ?_, fun w hI hT => ?_⟩
    · refine (shift_ok W' H' ao n cap Z x' y' up s hw bo m cap2 hm T w hI hT hok).mono ?_
      rintro r w' ⟨g1, cap1, v, rfl, h1, h2, hb⟩
      exact ⟨_, cap1, v, rfl, ints_of_row h2, h1.mono' (Nat.zero_le _), hb⟩
    · refine (refshift_ok W' H' ao n cap Z x' y' up s hw bo m cap2 hm T w hI hT hok).mono ?_
      rintro r w' ⟨g1, cap1, v, rfl, h1, h2, hb⟩
      exact ⟨_, cap1, v, rfl, ints_of_row h2, h1.mono' (Nat.zero_le _), hb⟩

set_option maxRecDepth 4000 in
set_option maxHeartbeats 3200000 in
theorem walk_shifts (W H : Int) (ao : Option Addr) (n cap : Nat) (Z : Nat → Int) (hn : n ≤ 9223372036854775807) (x y : Int) (up : Bool) (bo : Option Addr) (m cap2 : Nat) (hm : m ≤ 9223372036854775807) (T : Nat → Int) (w : World) (hI : Ints w ao n Z) (hT : Ints w bo m T) :
    Calls Try.prog 10 #[lv W H (.slice ao n cap), .int .i64 x, .int .i64 y, .bool up, .slice bo m cap2] w fun r w' => r = .returned (.bool true) ∧ Below w.heap.size w w' := by
  obtain ⟨A, B, N, Y, V, X, L, c, e, hN, hLl, hA, hB⟩ := both_shift W H ao n cap Z hn x y up bo m cap2 hm T
  have HS := hid (And.intro hA hB)
  have HL := hid ((lb_start (W := W) (H := H) (cap := cap) hI).stays (Joins.below_alloc1 _ (.cells #[.slice bo m cap2] 22)))
  have HT := hid hT
  clear hI hT hA hB
  have hsz : (w.alloc (.cells #[.int .i64 W, .int .i64 H, .slice ao n cap] 24)).heap.size = w.heap.size + 1 := by simp
  by_cases h1 : 4000 < max n m
  · have H1 := hid (decide_eq_true h1)
    clear h1
    go_enter Try.func10, Try.ntmps10
    go_wp2_with fail
    refine (large1 W H ao n cap hn bo m cap2 hm _ (w.heap.size + 1) (by simp) (by simp)).mono ?_
    rw [H1.out]
    rintro r w1 ⟨rfl, hb1⟩
    have HL1 := hid (HL.out.stays hb1)
    clear hb1
    go_wp2_with fail
    refine (known_any _).mono ?_
    rintro r w2 ⟨rfl, hb2⟩
    go_wp2
    go_ret
    exact ⟨rfl, (HL1.out.stays hb2).below⟩
  · have H1 := hid (decide_eq_false h1)
    clear h1
    go_enter Try.func10, Try.ntmps10
    go_wp2_with fail
    refine (large1 W H ao n cap hn bo m cap2 hm _ (w.heap.size + 1) (by simp) (by simp)).mono ?_
    rw [H1.out]
    rintro r w1 ⟨rfl, hb1⟩
    have HL1 := hid (HL.out.stays hb1)
    have c0 := HL1.out.c0
    have c1 := HL1.out.c1
    have c2 := HL1.out.c2
    clear hb1 HL
    go_wp2_with fail
    refine (HS.out.1 _ HL1.out.ints (HT.out.stays HL1.out.below)).mono ?_
    rintro r w2 ⟨ga, ca, va, rfl, hia, hra, hb2⟩
    have ka := Joins.below_alloc1 w2 (.cells #[.int .i64 A, .int .i64 B, .slice ga N ca] 24)
    have HL2 := hid ((HL1.out.stays hb2).stays ka)
    have HIA := hid (hia.stays ka)
    have HRA := hid (row_stays hra ka)
    clear hb2 c0 c1 c2 HL1 hia hra ka
    have c0 := HL2.out.c0
    have c1 := HL2.out.c1
    have c2 := HL2.out.c2
    obtain ⟨b1, hb1⟩ : ∃ b, b = w2.heap.size := ⟨_, rfl⟩
    have a0 : (w2.alloc (.cells #[.int .i64 A, .int .i64 B, .slice ga N ca] 24)).cell? ⟨b1, 0, none⟩ = some (.int .i64 A) := by rw [hb1]; simp
    have a1 : (w2.alloc (.cells #[.int .i64 A, .int .i64 B, .slice ga N ca] 24)).cell? ⟨b1, 1, none⟩ = some (.int .i64 B) := by rw [hb1]; simp
    have a2 : (w2.alloc (.cells #[.int .i64 A, .int .i64 B, .slice ga N ca] 24)).cell? ⟨b1, 2, none⟩ = some (.slice ga N ca) := by rw [hb1]; simp
    have az : b1 < (w2.alloc (.cells #[.int .i64 A, .int .i64 B, .slice ga N ca] 24)).heap.size := by rw [hb1]; simp
    go_wp2_with fail
    simp only [← hb1]
    have HB1 := hid hb1
    clear hb1
    generalize w2.alloc (.cells #[.int .i64 A, .int .i64 B, .slice ga N ca] 24) = w3 at *
    refine (HS.out.2 _ HL2.out.ints (HT.out.stays HL2.out.below)).mono ?_
    rintro r w4 ⟨gb, cb, vb, rfl, hib, hrb, hb4⟩
    have kb := Joins.below_alloc1 w4 (.cells #[.int .i64 A, .int .i64 B, .slice gb N cb] 24)
    have k4 := hb4.trans (kb.mono hb4.size)
    have HL4 := hid (HL2.out.stays k4)
    have HIA4 := hid (HIA.out.stays k4)
    have HRA4 := hid (row_stays HRA.out k4)
    have HIB4 := hid (hib.stays kb)
    have HRB4 := hid (row_stays hrb kb)
    have a0' := (hb4.cell (p := ⟨b1, 0, none⟩) az).trans a0
    have a1' := (hb4.cell (p := ⟨b1, 1, none⟩) az).trans a1
    have a2' := (hb4.cell (p := ⟨b1, 2, none⟩) az).trans a2
    have az' : b1 < w4.heap.size := Nat.lt_of_lt_of_le az hb4.size
    clear hb4 c0 c1 c2 a0 a1 a2 HL2 HIA HRA hib hrb kb k4
    go_wp2_with fail
    refine (land_same A B ga gb N ca cb Y (by omega) _ HIA4.out HIB4.out).mono ?_
    rintro r w5 ⟨rfl, hb5⟩
    have HL5 := hid (HL4.out.stays hb5)
    have HRA5 := hid (row_stays HRA4.out hb5)
    have HRB5 := hid (row_stays HRB4.out hb5)
    clear hb5
    go_wp2_with fail
    refine (corners_same V X L 0 0 va vb _ (by omega) HRA5.out HRB5.out).mono ?_
    rintro r w6 ⟨rfl, q, rfl⟩
    have HL6 := hid (HL5.out.stays (Joins.below_draws _ _ q))
    go_wp2_with fail
    refine (known_any _).mono ?_
    rintro r w7 ⟨rfl, hb7⟩
    go_wp2
    go_ret
    exact ⟨rfl, (HL6.out.stays hb7).below⟩
end Go.Proofs.Ytngamphkehppfaa
