/-
  The walk of the law on how tiles are made flat.
-/
import Derived.Test.YtngamphkehppfaaWalkRLev
namespace Go.Proofs.Ytngamphkehppfaa
open Go.RowKit

theorem large2 (W H : Int) (ao : Option Addr) (n cap : Nat) (hn : n ≤ 9223372036854775807) (bo : Option Addr) (m cap2 : Nat) (hm : m ≤ 9223372036854775807) (co : Option Addr) (k cap3 : Nat) (hk : k ≤ 9223372036854775807) (w : World) (b : Nat) (hb : b < w.heap.size)
    (hc : w.cell? ⟨b, 0, none⟩ = some (.slice bo m cap2)) (hc1 : w.cell? ⟨b, 1, none⟩ = some (.slice co k cap3)) :
    Calls Try.prog 15 #[lv W H (.slice ao n cap), .slice (some ⟨b, 0, none⟩) 2 2] w fun r w' => r = .returned (.bool (decide (4000 < max (max n m) k))) ∧ Below w.heap.size w w' := by
  refine (large_any W H ao n cap hn (some ⟨b, 0, none⟩) 2 2 (by omega) (fun j => if j = 0 then bo else co) (fun j => if j = 0 then m else k) (fun j => if j = 0 then cap2 else cap3) (fun j hj => by show (if j = 0 then m else k) ≤ _; split <;> omega) w (fun j hj => ?_)).mono fun r w' h => h
  match j, hj with
  | 0, _ => exact ⟨b, 0, rfl, hb, hc⟩
  | 1, _ => exact ⟨b, 0, rfl, hb, hc1⟩
/-- What Level hands back: a land, the cost, an error. -/
def LvTo (A B : Int) (N : Nat) (Y : Nat → Int) (c e : Int) (w : World) (r : Ending) (w' : World) : Prop :=
  ∃ ao cap, r = .returned (.tuple #[lv A B (.slice ao N cap), .int .i64 c, .int .i64 e]) ∧ Ints w' ao N Y ∧ Below w.heap.size w w'
theorem LvTo.no {e : Int} {w w' : World} {r : Ending} (h : r = .returned (none3 e) ∧ Below w.heap.size w w') : LvTo 0 0 0 (fun _ => 0) 0 e w r w' := ⟨none, 0, h.1, Ints.nil _ _, h.2⟩
theorem both_level (W H : Int) (ao : Option Addr) (n cap : Nat) (Z : Nat → Int) (hn : n ≤ 9223372036854775807) (tl : Option Addr) (k capt : Nat) (hk : k ≤ 9223372036854775807) (T : Nat → Int) (h : Int) (fo : Option Addr) (m capf : Nat) (hm : m ≤ 9223372036854775807) (F : Nat → Int) :
    ∃ (A B : Int) (N : Nat) (Y : Nat → Int) (c e : Int), N ≤ 1089 ∧
      (∀ w, Ints w ao n Z → Ints w tl k T → Ints w fo m F → Calls Try.prog 37 #[lv W H (.slice ao n cap), .slice tl k capt, .int .i64 h, .slice fo m capf] w (LvTo A B N Y c e w)) ∧
      (∀ w, Ints w ao n Z → Ints w tl k T → Ints w fo m F → Calls Try.prog 38 #[lv W H (.slice ao n cap), .slice tl k capt, .int .i64 h, .slice fo m capf] w (LvTo A B N Y c e w)) := by
  rcases level_cases W H n Z k T h with ⟨e, he⟩ | ⟨W', H', rfl, rfl, hg, hh, hk2, hf⟩
  · refine ⟨0, 0, 0, fun _ => 0, 0, e, by omega, fun w hI hT hF => ?_, fun w hI hT hF => ?_⟩
    · rcases he with ⟨h0, hE⟩ | ⟨rfl, hV, ha⟩ | ⟨rfl, W', H', rfl, rfl, hg, hh, hk2, hf⟩
      · exact (level_bad W H ao n cap Z hn tl k capt h _ w hI e h0 hE).mono fun r w' q => LvTo.no q
      · exact (level_arg W H ao n cap Z hn tl k capt hk h _ w hI hV ha).mono fun r w' q => LvTo.no q
      · exact (level_none W' H' ao n cap Z hg tl k capt hk2 T h hh hf _ w hI hT).mono fun r w' q => LvTo.no q
    · rcases he with ⟨h0, hE⟩ | ⟨rfl, hV, ha⟩ | ⟨rfl, W', H', rfl, rfl, hg, hh, hk2, hf⟩
      · exact (reflevel_bad W H ao n cap Z hn tl k capt h _ w hI e h0 hE).mono fun r w' q => LvTo.no q
      · exact (reflevel_arg W H ao n cap Z hn tl k capt hk h _ w hI hV ha).mono fun r w' q => LvTo.no q
      · exact (reflevel_none W' H' ao n cap Z hg tl k capt hk2 T h hh hf _ w hI hT).mono fun r w' q => LvTo.no q
  · have hb := hg.shaped.bound
    cases hl : lev W' H' n m F h (plc W' T) Z (4 * k) with
    | none =>
      refine ⟨0, 0, 0, fun _ => 0, 0, 7, by omega, fun w hI hT hF => ?_, fun w hI hT hF => ?_⟩
      · refine (level_go W' H' ao n cap Z hg tl k capt hk2 T h hh hf fo m capf hm F w hI hT hF).mono ?_
        rintro r w' ⟨hb, ⟨_, rfl⟩ | ⟨C, X, ao', cap', hs, _⟩⟩
        · exact LvTo.no ⟨rfl, hb⟩
        · rw [hl] at hs; cases hs
      · refine (reflevel_go W' H' ao n cap Z hg tl k capt hk2 T h hh hf fo m capf hm F w hI hT hF).mono ?_
        rintro r w' ⟨hb, ⟨_, rfl⟩ | ⟨C, X, ao', cap', hs, _⟩⟩
        · exact LvTo.no ⟨rfl, hb⟩
        · rw [hl] at hs; cases hs
    | some s =>
      obtain ⟨C, X⟩ := s
      refine ⟨W', H', n, X, (C * 250 : Nat), 0, by omega, fun w hI hT hF => ?_, fun w hI hT hF => ?_⟩
      · refine (level_go W' H' ao n cap Z hg tl k capt hk2 T h hh hf fo m capf hm F w hI hT hF).mono ?_
        rintro r w' ⟨hb, ⟨hs, _⟩ | ⟨C', X', ao', cap', hs, rfl, hI'⟩⟩
        · rw [hl] at hs; cases hs
        · rw [hl] at hs; cases hs; exact ⟨ao', cap', rfl, hI', hb⟩
      · refine (reflevel_go W' H' ao n cap Z hg tl k capt hk2 T h hh hf fo m capf hm F w hI hT hF).mono ?_
        rintro r w' ⟨hb, ⟨hs, _⟩ | ⟨C', X', ao', cap', hs, rfl, hI'⟩⟩
        · rw [hl] at hs; cases hs
        · rw [hl] at hs; cases hs; exact ⟨ao', cap', rfl, hI', hb⟩

set_option maxRecDepth 4000 in
set_option maxHeartbeats 3200000 in
theorem walk_levels (W H : Int) (ao : Option Addr) (n cap : Nat) (Z : Nat → Int) (hn : n ≤ 9223372036854775807) (tl : Option Addr) (k capt : Nat) (hk : k ≤ 9223372036854775807) (T : Nat → Int) (h : Int) (fo : Option Addr) (m capf : Nat) (hm : m ≤ 9223372036854775807) (F : Nat → Int) (w : World)
    (hI : Ints w ao n Z) (hT : Ints w tl k T) (hF : Ints w fo m F) :
    Calls Try.prog 12 #[lv W H (.slice ao n cap), .slice tl k capt, .int .i64 h, .slice fo m capf] w fun r w' => r = .returned (.bool true) ∧ Below w.heap.size w w' := by
  obtain ⟨A, B, N, Y, c, e, hN, hA, hB⟩ := both_level W H ao n cap Z hn tl k capt hk T h fo m capf hm F
  have HS := hid (And.intro hA hB)
  have HL := hid ((lb_start (W := W) (H := H) (cap := cap) hI).stays (Joins.below_alloc1 _ (.cells #[.slice tl k capt, .slice fo m capf] 22)))
  have HT := hid hT
  have HF := hid hF
  clear hI hT hF hA hB
  have hsz : (w.alloc (.cells #[.int .i64 W, .int .i64 H, .slice ao n cap] 24)).heap.size = w.heap.size + 1 := by simp
  by_cases h1 : 4000 < max (max n k) m
  · have H1 := hid (decide_eq_true h1)
    clear h1
    go_enter Try.func12, Try.ntmps12
    go_wp2_with fail
    refine (large2 W H ao n cap hn tl k capt hk fo m capf hm _ (w.heap.size + 1) (by simp) (by simp) (by simp)).mono ?_
    rw [H1.out]
    rintro r w1 ⟨rfl, hb1⟩
    have HL1 := hid (HL.out.stays hb1)
    clear hb1
    go_wp2_with fail
    refine (known_any _).mono ?_
    rintro r w2 ⟨rfl, hb2⟩
    go_wp2
    go_ret
    exact ⟨rfl, (HL1.out.stays hb2).below⟩
  · have H1 := hid (decide_eq_false h1)
    clear h1
    go_enter Try.func12, Try.ntmps12
    go_wp2_with fail
    refine (large2 W H ao n cap hn tl k capt hk fo m capf hm _ (w.heap.size + 1) (by simp) (by simp) (by simp)).mono ?_
    rw [H1.out]
    rintro r w1 ⟨rfl, hb1⟩
    have HL1 := hid (HL.out.stays hb1)
    have c0 := HL1.out.c0
    have c1 := HL1.out.c1
    have c2 := HL1.out.c2
    clear hb1 HL
    go_wp2_with fail
    refine (HS.out.1 _ HL1.out.ints (HT.out.stays HL1.out.below) (HF.out.stays HL1.out.below)).mono ?_
    rintro r w2 ⟨ga, ca, rfl, hia, hb2⟩
    have ka := Joins.below_alloc1 w2 (.cells #[.int .i64 A, .int .i64 B, .slice ga N ca] 24)
    have HL2 := hid ((HL1.out.stays hb2).stays ka)
    have HIA := hid (hia.stays ka)
    clear hb2 c0 c1 c2 HL1 hia ka
    have c0 := HL2.out.c0
    have c1 := HL2.out.c1
    have c2 := HL2.out.c2
    obtain ⟨b1, hb1⟩ : ∃ b, b = w2.heap.size := ⟨_, rfl⟩
    have a0 : (w2.alloc (.cells #[.int .i64 A, .int .i64 B, .slice ga N ca] 24)).cell? ⟨b1, 0, none⟩ = some (.int .i64 A) := by rw [hb1]; simp
    have a1 : (w2.alloc (.cells #[.int .i64 A, .int .i64 B, .slice ga N ca] 24)).cell? ⟨b1, 1, none⟩ = some (.int .i64 B) := by rw [hb1]; simp
    have a2 : (w2.alloc (.cells #[.int .i64 A, .int .i64 B, .slice ga N ca] 24)).cell? ⟨b1, 2, none⟩ = some (.slice ga N ca) := by rw [hb1]; simp
    have az : b1 < (w2.alloc (.cells #[.int .i64 A, .int .i64 B, .slice ga N ca] 24)).heap.size := by rw [hb1]; simp
    go_wp2_with fail
    simp only [← hb1]
    have HB1 := hid hb1
    clear hb1
    generalize w2.alloc (.cells #[.int .i64 A, .int .i64 B, .slice ga N ca] 24) = w3 at *
    refine (HS.out.2 _ HL2.out.ints (HT.out.stays HL2.out.below) (HF.out.stays HL2.out.below)).mono ?_
    rintro r w4 ⟨gb, cb, rfl, hib, hb4⟩
    have kb := Joins.below_alloc1 w4 (.cells #[.int .i64 A, .int .i64 B, .slice gb N cb] 24)
    have k4 := hb4.trans (kb.mono hb4.size)
    have HL4 := hid (HL2.out.stays k4)
    have HIA4 := hid (HIA.out.stays k4)
    have HIB4 := hid (hib.stays kb)
    have a0' := (hb4.cell (p := ⟨b1, 0, none⟩) az).trans a0
    have a1' := (hb4.cell (p := ⟨b1, 1, none⟩) az).trans a1
    have a2' := (hb4.cell (p := ⟨b1, 2, none⟩) az).trans a2
    have az' : b1 < w4.heap.size := Nat.lt_of_lt_of_le az hb4.size
    clear hb4 c0 c1 c2 a0 a1 a2 HL2 HIA hib kb k4
    go_wp2_with fail
    refine (land_same A B ga gb N ca cb Y (by omega) _ HIA4.out HIB4.out).mono ?_
    rintro r w5 ⟨rfl, hb5⟩
    have HL5 := hid (HL4.out.stays hb5)
    clear hb5
    go_wp2_with fail
    refine (known_any _).mono ?_
    rintro r w7 ⟨rfl, hb7⟩
    go_wp2
    go_ret
    exact ⟨rfl, (HL5.out.stays hb7).below⟩
end Go.Proofs.Ytngamphkehppfaa
