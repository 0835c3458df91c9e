/-
  The walks of what tells lists of numbers and streets alike, of equal ones.
-/
import Derived.Test.YtaepiegbpgkciaaWalkVal
namespace Go.Proofs.Ytaepiegbpgkciaa
open Go.RowKit

set_option maxHeartbeats 1600000 in
theorem ints_same (ao bo : Option Addr) (n c1 c2 : Nat) (Z : Nat → Int) (hn : n ≤ 9223372036854775807) (w : World) (h : Ints w ao n Z) (h' : Ints w bo n Z) :
    Calls Try.prog 26 #[.slice ao n c1, .slice bo n c2] w fun e w' => e = .returned (.bool true) ∧ ∃ m, w' = w.drewN m := by
  have H := hid h
  have H' := hid h'
  clear h h'
  go_enter Try.func26, Try.ntmps26
  go_wp2
  go_loopw [5] (fun iv wr => ∃ (j k : Nat), j ≤ n ∧ iv = .int .i64 j ∧ wr = w.drewN k) (fun iv _ => n - (intOf iv).toNat)
  case atStart => exact ⟨0, 0, Nat.zero_le _, rfl, rfl⟩
  case round =>
    obtain ⟨j, k, hj, rfl, rfl⟩ := hrel
    by_cases hlt : j < n
    · obtain ⟨g, o, rfl, hz, hc⟩ := ints_cell H.out hlt
      obtain ⟨g', o', rfl, hz', hc'⟩ := ints_cell H'.out hlt
      obtain ⟨x, hx⟩ : ∃ x, x = Z j := ⟨_, rfl⟩
      rw [← hx] at hc hc'
      have b1 : (j : Int) < (n : Int) := by omega
      have b2 : (0 : Int) ≤ (j : Int) := by omega
      clear hx
      go_wp2
      go_quiet (fail)
      go_wp2
      go_roundw
      case rel => exact ⟨j + 1, _, by omega, by go_num, rfl⟩
      case measure => simp [intOf]; omega
    · go_wp2
      go_ret
      exact ⟨rfl, _, rfl⟩
set_option maxHeartbeats 1600000 in
theorem streets_same (W H : Int) (ao bo ao' bo' : Option Addr) (n m c1 c2 c3 c4 : Nat) (Z Y : Nat → Int) (hn : n ≤ 9223372036854775807) (hm : m ≤ 9223372036854775807) (w : World) (h : Ints w ao n Z) (h' : Ints w ao' n Z) (k : Ints w bo m Y) (k' : Ints w bo' m Y) :
    Calls Try.prog 23 #[rv W H (.slice ao n c1) (.slice bo m c2), rv W H (.slice ao' n c3) (.slice bo' m c4)] w fun e w' => e = .returned (.bool true) ∧ Below w.heap.size w w' := by
  have hb := Joins.below_alloc2 w (.cells #[.int .i64 W, .int .i64 H, .slice ao n c1, .slice bo m c2] 24) (.cells #[.int .i64 W, .int .i64 H, .slice ao' n c3, .slice bo' m c4] 24)
  have HB := hid hb
  have HA := hid (h.stays hb)
  have HA' := hid (h'.stays hb)
  have HC' := hid (k'.stays hb)
  have HC := hid (k.stays hb)
  clear h h' k k' hb
  go_enter Try.func23, Try.ntmps23
  go_wp2_with fail
  refine (ints_same ao ao' n c1 c3 Z hn _ HA.out HA'.out).mono ?_
  rintro e w' ⟨rfl, m1, rfl⟩
  go_wp2_with fail
  refine (ints_same bo bo' m c2 c4 Y hm _ (HC.out.stays (Joins.below_draws _ _ _)) (HC'.out.stays (Joins.below_draws _ _ _))).mono ?_
  rintro e w' ⟨rfl, m2, rfl⟩
  go_wp2_with fail
  go_ret
  exact ⟨rfl, HB.out.trans (Joins.below_draws _ _ _)⟩
end Go.Proofs.Ytaepiegbpgkciaa
