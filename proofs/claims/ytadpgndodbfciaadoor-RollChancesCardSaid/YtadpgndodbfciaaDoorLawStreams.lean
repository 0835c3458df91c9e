/-
  The walk of the law on streams.
-/
import Derived.Test.YtadpgndodbfciaaDoorLawSkips
namespace Go.Proofs.YtadpgndodbfciaaDoor
open Go.RowKit

theorem at_to (a n v : Int) (h : mix (md (a + md (n * stride))) = v) (w : World) :
    Calls Tryd.prog 17 #[.agg #[.int .u64 a], .int .u64 n] w fun e w' => e = .returned (.int .u64 v) ∧ Below w.heap.size w w' := by
  subst h; exact at_any a n w
theorem new_to (a v : Int) (s : ByteArray) (hs : s.size ≤ maxLen) (h : hashTo a s.data.toList = v) (w : World) :
    Calls Tryd.prog 14 #[.int .u64 a, .string s] w fun e w' => e = .returned (.agg #[.int .u64 v]) ∧ Below w.heap.size w w' := by
  subst h; exact new_any a s hs w
theorem refnew_to (a v : Int) (s : ByteArray) (hs : s.size ≤ maxLen) (h : hashTo a s.data.toList = v) (w : World) :
    Calls Tryd.prog 15 #[.int .u64 a, .string s] w fun e w' => e = .returned (.agg #[.int .u64 v]) ∧ Below w.heap.size w w' := by
  subst h; exact refnew_any a s hs w

/-- One cell of the call's own that is held through calls which only make new blocks. -/
theorem held1 {B x : Nat} {v : Value} {w w' w'' : World} (hB : B ≤ x)
    (h : Below B w w' ∧ x < w'.heap.size ∧ w'.cell? ⟨x, 0, none⟩ = some v ∧ w'.frozen? ⟨x, 0, none⟩ = false)
    (hb : Below w'.heap.size w' w'') :
    Below B w w'' ∧ x < w''.heap.size ∧ w''.cell? ⟨x, 0, none⟩ = some v ∧ w''.frozen? ⟨x, 0, none⟩ = false := by
  obtain ⟨k, kn, k1, k2⟩ := h
  have hs := hb.size
  exact ⟨k.trans (hb.mono (by omega)), by omega, (hb.cell (p := ⟨x, 0, none⟩) kn).trans k1, (hb.frozen (p := ⟨x, 0, none⟩) kn).trans k2⟩

set_option maxHeartbeats 4000000 in
set_option maxRecDepth 100000 in
theorem walk_streams (a : Int) (ha0 : 0 ≤ a) (ha1 : a < 18446744073709551616) (s : ByteArray) (hs : s.size ≤ maxLen) (w : World) (hT : Tab w) :
    Calls Tryd.prog 3 #[.int .u64 a, .string s] w fun e w' => e = .returned (.bool true) ∧ Below w.heap.size w w' := by
  have hs' : s.size ≤ 9223372036854775807 := by unfold maxLen at hs; omega
  by_cases hl : 4000 < (s.size : Int)
  · go_enter Tryd.func3, Tryd.ntmps3
    go_wp2_with fail
    refine (known_any _ hT).mono ?_
    rintro e w1 ⟨rfl, hb1⟩
    go_wp2
    go_ret
    exact ⟨rfl, hb1⟩
  · obtain ⟨h, hh⟩ : ∃ h, h = hashTo a s.data.toList := ⟨_, rfl⟩
    have HH := hid hh.symm
    have h0 := hid (show skipTo h 0 = h by rw [hh]; exact skip_none _ (hash_bd _ a ha0 ha1).1 (hash_bd _ a ha0 ha1).2)
    clear ha0 ha1
    have HS := hid hs
    clear hh hs
    go_enter Tryd.func3, Tryd.ntmps3
    go_wp2_with fail
    refine (new_to a h s HS.out HH.out _).mono ?_
    rintro e w1 ⟨rfl, hb1⟩
    go_wp2_with fail
    obtain ⟨b, hb⟩ : ∃ b, b = w1.heap.size := ⟨_, rfl⟩
    have hbw : w.heap.size ≤ b := by have := hb1.size; omega
    have HI : Hid (Below w.heap.size w (w1.alloc (.cells #[.int .u64 h] 25)).drew ∧ b < (w1.alloc (.cells #[.int .u64 h] 25)).drew.heap.size ∧ (w1.alloc (.cells #[.int .u64 h] 25)).drew.cell? ⟨b, 0, none⟩ = some (.int .u64 h) ∧ (w1.alloc (.cells #[.int .u64 h] 25)).drew.frozen? ⟨b, 0, none⟩ = false) :=
      ⟨(add hb1 _).drew, by simp [hb], by simp [hb], by simp [hb]⟩
    simp only [← hb]
    clear hb1 hb
    go_region_held3 (fun w' => Below w.heap.size w w' ∧ b < w'.heap.size ∧ w'.cell? ⟨b, 0, none⟩ = some (.int .u64 h) ∧ w'.frozen? ⟨b, 0, none⟩ = false)
      (first | exact HI.out | exact held1 hbw (by assumption) hb | assumption)
      (first
        | (go_at_call 15; refine (refnew_to a h s HS.out HH.out _).mono ?_; rintro e w' ⟨rfl, hb⟩)
        | fail)
    go_wp2
    obtain ⟨hB1, hz1, c1, f1⟩ : Below w.heap.size w w' ∧ b < w'.heap.size ∧ w'.cell? ⟨b, 0, none⟩ = some (.int .u64 h) ∧ w'.frozen? ⟨b, 0, none⟩ = false := by assumption
    clear hb HI
    go_loopw [6] (fun k wr => ∃ j : Nat, 1 ≤ j ∧ j ≤ 5 ∧ k = .int .u64 j ∧ Below w.heap.size w wr ∧ b < wr.heap.size ∧ wr.cell? ⟨b, 0, none⟩ = some (.int .u64 (skipTo h ((j : Int) - 1))) ∧ wr.frozen? ⟨b, 0, none⟩ = false) (fun k _ => 5 - (intOf k).toNat)
    case atStart => exact ⟨1, by omega, by omega, rfl, hB1, hz1, by rw [c1]; simp [h0.out], f1⟩
    case round =>
      obtain ⟨j, hj1, hj2, rfl, hBr, hzr, cr, fr⟩ := hrel
      clear hB1 hz1 c1 f1
      obtain ⟨v, hv⟩ : ∃ v, v = skipTo h ((j : Int) - 1) := ⟨_, rfl⟩
      rw [← hv] at cr
      by_cases hlt : j < 5
      · obtain ⟨v', hv'⟩ : ∃ v', v' = skipTo h (j : Int) := ⟨_, rfl⟩
        obtain ⟨x, hx⟩ : ∃ x, x = mix v' := ⟨_, rfl⟩
        have e1 : md (v + stride) = v' := by rw [hv, hv', skip_one, skip_skip, skipTo_eq]; congr 3; omega
        have Q1 := hid e1
        have Q2 : Hid (mix (md (v + stride)) = x) := hid (by rw [e1, hx])
        have Q3 : Hid (mix (md (h + md ((j : Int) * stride))) = x) := hid (by rw [md_add, ← skipTo_eq, ← hv', hx])
        have HV := hid hv'
        have hB := hid hBr
        clear e1 hv hv' hx hBr
        go_wp2_with fail
        refine (next_to _ x v' Q1.out Q2.out _).mono ?_
        rintro e w2 ⟨rfl, hb2⟩
        obtain ⟨hB2, hz2, c2, f2⟩ := held1 hbw ⟨hB.out, hzr, cr, fr⟩ hb2
        clear hb2 cr fr
        go_wp2_with fail
        refine (refnew_to a h s HS.out HH.out _).mono ?_
        rintro e w3 ⟨rfl, hb3⟩
        obtain ⟨hz3, c3', hb3'⟩ := after hb3
        have d3 : w3.cell? ⟨w2.heap.size, 0, none⟩ = some (.int .u64 v') := c3' 0
        obtain ⟨hB3, hz3', c3, f3⟩ := held1 hbw ⟨hB2, hz2, c2, f2⟩ hb3'
        clear hb3 hb3' c3' hB2 c2 f2
        go_wp2_with fail
        refine (at_to _ _ x Q3.out _).mono ?_
        rintro e w4 ⟨rfl, hb4⟩
        have d4 : w4.cell? ⟨w2.heap.size, 0, none⟩ = some (.int .u64 v') := (hb4.cell (p := ⟨w2.heap.size, 0, none⟩) hz3).trans d3
        obtain ⟨hB4, hz4, c4, f4⟩ := held1 hbw ⟨hB3, hz3', c3, f3⟩ hb4
        have HB4 := hid hB4
        clear hb4 d3 hB3 c3 f3 hz3 hz3' hB4
        go_wp2
        go_roundw
        case rel => exact ⟨j + 1, by omega, by omega, by go_num, HB4.out.setCell hbw _, by simpa using hz4, by have := HV.out; rw [World.cell?_setCell_same _ _ _ c4]; simp [this], by simpa using f4⟩
        case measure => simp [intOf]; omega
      · obtain rfl : j = 5 := by omega
        have HB := hid hBr
        have Q4 : Hid (skipTo h 4 = v) := hid hv.symm
        clear hv hBr
        go_wp2_with fail
        go_region_held3 (fun w' => Below w.heap.size w w' ∧ b < w'.heap.size ∧ w'.cell? ⟨b, 0, none⟩ = some (.int .u64 v) ∧ w'.frozen? ⟨b, 0, none⟩ = false)
          (first | exact ⟨HB.out.drew, hzr, cr, fr⟩ | exact held1 hbw (by assumption) hb | assumption)
          (first
            | (go_at_call 15; refine (refnew_to a h s HS.out HH.out _).mono ?_; rintro e w' ⟨rfl, hb⟩)
            | (go_at_call 18; refine (refskip_to _ _ v Q4.out _).mono ?_; rintro e w' ⟨rfl, hb⟩)
            | (go_at_call 13; refine (known_any _ (hT.stays (And.left (by assumption)))).mono ?_; rintro e w' ⟨rfl, hb⟩))
        go_wp2
        go_ret
        exact ⟨rfl, And.left (by assumption)⟩
end Go.Proofs.YtadpgndodbfciaaDoor
