/-
  The walk of validatePlace; what laying and lifting a piece gives, in plain numbers.
-/
import Derived.Test.YtbfpcolkbfljoaaDoorRWalkLies
import Derived.Test.YtbfpcolkbfljoaaDoorRBox
namespace Go.Proofs.YtbfpcolkbfljoaaDoor
open Go.RowKit

/-- The error of a place: rails that are wrong, no piece, no tile. -/
def PErr (W H : Int) (n m : Nat) (Z : Nat → Int) (B : Nat → Bool) (t p e : Int) : Prop :=
  (e = 1 ∧ ¬ Right W H n m Z B) ∨ (e = 1 ∧ Right W H n m Z B ∧ ¬ (0 ≤ p ∧ p ≤ 5)) ∨ (e = 2 ∧ Right W H n m Z B ∧ (0 ≤ p ∧ p ≤ 5) ∧ ¬ (0 ≤ t ∧ t < n)) ∨
    (e = 0 ∧ Right W H n m Z B ∧ (0 ≤ p ∧ p ≤ 5) ∧ 0 ≤ t ∧ t < n)
theorem verr_ok {W H : Int} {n m : Nat} {Z : Nat → Int} {B : Nat → Bool} (h : Right W H n m Z B) : VErr W H n m Z B 0 := .inl ⟨rfl, h⟩
theorem verr_no {W H : Int} {n m : Nat} {Z : Nat → Int} {B : Nat → Bool} (h : ¬ Right W H n m Z B) : VErr W H n m Z B 1 := .inr ⟨rfl, h⟩

set_option maxHeartbeats 1600000 in
theorem place_to (W H : Int) (ao : Option Addr) (n cap : Nat) (Z : Nat → Int) (bo : Option Addr) (m bcap : Nat) (B : Nat → Bool) (hn : n ≤ 9223372036854775807) (hm : m ≤ 9223372036854775807) (t p e : Int) (h : PErr W H n m Z B t p e) (w : World) (hI : Ints w ao n Z) (hB : Bools w bo m B) :
    Calls Tryd.prog 114 #[rv W H (.slice ao n cap) (.slice bo m bcap), .int .i64 t, .int .i64 p] w fun r w' => r = .returned (.int .i64 e) ∧ Below w.heap.size w w' := by
  have hW := Joins.below_alloc1 w (.cells #[.int .i64 W, .int .i64 H, .slice ao n cap, .slice bo m bcap] 25)
  have HI := hid (hI.stays hW)
  have HB := hid (hB.stays hW)
  have HW := hid hW
  clear hI hB hW
  rcases h with ⟨rfl, hr⟩ | ⟨rfl, hr, hp⟩ | ⟨rfl, hr, hp, ht⟩ | ⟨rfl, hr, hp, ht⟩
  · have HV := hid (verr_no hr)
    clear hr
    go_enter Tryd.func114, Tryd.ntmps114
    go_wp2_with fail
    refine (validate_any W H ao n cap Z bo m bcap B hn hm _ HI.out HB.out 1 HV.out).mono ?_
    rintro r w1 ⟨rfl, hb1⟩
    have H1 := hid (step HW.out hb1)
    clear hb1
    go_wp2_with fail
    go_ret
    exact ⟨rfl, H1.out⟩
  · have HV := hid (verr_ok hr)
    have HP := hid hp
    clear hr hp
    go_enter Tryd.func114, Tryd.ntmps114
    go_wp2_with fail
    refine (validate_any W H ao n cap Z bo m bcap B hn hm _ HI.out HB.out 0 HV.out).mono ?_
    rintro r w1 ⟨rfl, hb1⟩
    have H1 := hid (step HW.out hb1)
    clear hb1
    go_wp2_with (go_at_call 127; refine (isPiece_no HP.out _).mono ?_; rintro e w' ⟨rfl, rfl⟩)
    go_ret
    exact ⟨rfl, H1.out⟩
  · have HV := hid (verr_ok hr)
    have HP := hid hp
    have HS := hid hr.sized
    have HT : Hid (decide (0 ≤ t ∧ t < W * H) = false) := hid (by have := hr.sets; exact decide_eq_false (by omega))
    clear hr hp ht
    go_enter Tryd.func114, Tryd.ntmps114
    go_wp2_with fail
    refine (validate_any W H ao n cap Z bo m bcap B hn hm _ HI.out HB.out 0 HV.out).mono ?_
    rintro r w1 ⟨rfl, hb1⟩
    obtain ⟨hz1, hc1, hb1'⟩ := after hb1
    have H1 := hid hb1'
    have c0 := hc1 0
    have c1 := hc1 1
    have c2 := hc1 2
    have c3 := hc1 3
    simp only [List.getElem?_toArray, List.getElem?_cons_zero, List.getElem?_cons_succ] at c0 c1 c2 c3
    clear hb1 hc1 hb1'
    go_wp2_with (first | (go_at_call 127; refine (isPiece_yes HP.out _).mono ?_; rintro e w' ⟨rfl, rfl⟩) | (go_at_call 128; refine (isTile_any W H HS.out _ _ t false HT.out _).mono ?_; rintro e w2 ⟨rfl, hb2⟩; have H2 := hid (step H1.out hb2); clear hb2))
    go_ret
    exact ⟨rfl, H2.out⟩
  · have HV := hid (verr_ok hr)
    have HP := hid hp
    have HS := hid hr.sized
    have HT : Hid (decide (0 ≤ t ∧ t < W * H) = true) := hid (by have := hr.sets; exact decide_eq_true (by omega))
    clear hr hp ht
    go_enter Tryd.func114, Tryd.ntmps114
    go_wp2_with fail
    refine (validate_any W H ao n cap Z bo m bcap B hn hm _ HI.out HB.out 0 HV.out).mono ?_
    rintro r w1 ⟨rfl, hb1⟩
    obtain ⟨hz1, hc1, hb1'⟩ := after hb1
    have H1 := hid hb1'
    have c0 := hc1 0
    have c1 := hc1 1
    have c2 := hc1 2
    have c3 := hc1 3
    simp only [List.getElem?_toArray, List.getElem?_cons_zero, List.getElem?_cons_succ] at c0 c1 c2 c3
    clear hb1 hc1 hb1'
    go_wp2_with (first | (go_at_call 127; refine (isPiece_yes HP.out _).mono ?_; rintro e w' ⟨rfl, rfl⟩) | (go_at_call 128; refine (isTile_any W H HS.out _ _ t true HT.out _).mono ?_; rintro e w2 ⟨rfl, hb2⟩; have H2 := hid (step H1.out hb2); clear hb2))
    go_ret
    exact ⟨rfl, H2.out⟩
end Go.Proofs.YtbfpcolkbfljoaaDoor
