/-
  The walks of what tells lists and lands alike, of equal ones.
-/
import Derived.Test.YtngamphkehppfaaLawVal
namespace Go.Proofs.Ytngamphkehppfaa
open Go.RowKit

set_option maxHeartbeats 1600000 in
theorem list_same (ao bo : Option Addr) (n c1 c2 : Nat) (Z : Nat → Int) (hn : n ≤ 9223372036854775807) (w : World) (h : Ints w ao n Z) (h' : Ints w bo n Z) :
    Calls Try.prog 30 #[.slice ao n c1, .slice bo n c2] w fun e w' => e = .returned (.bool true) ∧ ∃ m, w' = w.drewN m := by
  have H := hid h
  have H' := hid h'
  clear h h'
  go_enter Try.func30, Try.ntmps30
  go_wp2
  go_loopw [5] (fun iv wr => ∃ (j k : Nat), j ≤ n ∧ iv = .int .i64 j ∧ wr = w.drewN k) (fun iv _ => n - (intOf iv).toNat)
  case atStart => exact ⟨0, 0, Nat.zero_le _, rfl, rfl⟩
  case round =>
    obtain ⟨j, k, hj, rfl, rfl⟩ := hrel
    by_cases hlt : j < n
    · obtain ⟨g, o, rfl, hz, hc⟩ := H.out j hlt
      obtain ⟨g', o', rfl, hz', hc'⟩ := H'.out j hlt
      obtain ⟨x, hx⟩ : ∃ x, x = Z j := ⟨_, rfl⟩
      rw [← hx] at hc hc'
      have b1 : (j : Int) < (n : Int) := by omega
      have b2 : (0 : Int) ≤ (j : Int) := by omega
      clear hx
      go_wp2
      go_quiet (fail)
      go_wp2
      go_roundw
      case rel => exact ⟨j + 1, _, by omega, by go_num, rfl⟩
      case measure => simp [intOf]; omega
    · go_wp2
      go_ret
      exact ⟨rfl, _, rfl⟩

set_option maxHeartbeats 1600000 in
theorem land_same (W H : Int) (ao bo : Option Addr) (n c1 c2 : Nat) (Z : Nat → Int) (hn : n ≤ 9223372036854775807) (w : World) (h : Ints w ao n Z) (h' : Ints w bo n Z) :
    Calls Try.prog 21 #[lv W H (.slice ao n c1), lv W H (.slice bo n c2)] w fun e w' => e = .returned (.bool true) ∧ Below w.heap.size w w' := by
  have hb := Joins.below_alloc2 w (.cells #[.int .i64 W, .int .i64 H, .slice ao n c1] 24) (.cells #[.int .i64 W, .int .i64 H, .slice bo n c2] 24)
  have HB := hid hb
  have HA := hid (h.stays hb)
  have HA' := hid (h'.stays hb)
  clear h h' hb
  go_enter Try.func21, Try.ntmps21
  go_wp2_with fail
  refine (list_same ao bo n c1 c2 Z hn _ HA.out HA'.out).mono ?_
  rintro e w' ⟨rfl, m, rfl⟩
  go_wp2
  go_ret
  exact ⟨rfl, HB.out.trans (Joins.below_draws _ _ _)⟩

theorem row_slice {w : World} {B : Nat} {e : TypeId} {size n : Nat} {v : Value} {xs : List Value} (h : w.ownsRow B e size v n xs) : ∃ ao cap, v = .slice ao n cap := by
  rcases h.2 with ⟨rfl, rfl⟩ | ⟨g, cap, _, rfl, _⟩
  · exact ⟨none, 0, rfl⟩
  · exact ⟨_, _, rfl⟩
set_option maxHeartbeats 1600000 in
theorem corners_same (W : Nat) (X : Nat → Int) (L : List Nat) (B B' : Nat) (v v' : Value) (w : World) (hl : L.length ≤ 100000) (h : w.ownsRow B 53 3 v L.length (encC W X L)) (h' : w.ownsRow B' 53 3 v' L.length (encC W X L)) :
    Calls Try.prog 36 #[v, v'] w fun e w' => e = .returned (.bool true) ∧ ∃ m, w' = w.drewN m := by
  by_cases h0 : L.length = 0
  · obtain ⟨ao, cap, rfl⟩ := row_slice h
    obtain ⟨bo, cap', rfl⟩ := row_slice h'
    rw [h0]
    clear h h'
    go_enter Try.func36, Try.ntmps36
    go_wp2
    refine wp_loop_rounds 1 ?_
    rw [rounds_succ]
    go_wp2
    go_ret
    exact ⟨rfl, 0, rfl⟩
  · obtain ⟨g, cap, rfl, hg, hg'⟩ := h.form (by omega)
    obtain ⟨k, cap', rfl, hk, hk'⟩ := h'.form (by omega)
    have H := hid h
    have H' := hid h'
    clear h h'
    go_enter Try.func36, Try.ntmps36
    go_wp2
    go_loopw [5] (fun iv wr => ∃ (j k : Nat), j ≤ L.length ∧ iv = .int .i64 j ∧ wr = w.drewN k) (fun iv _ => L.length - (intOf iv).toNat)
    case atStart => exact ⟨0, 0, Nat.zero_le _, rfl, rfl⟩
    case round =>
      obtain ⟨j, q, hj, rfl, rfl⟩ := hrel
      by_cases hlt : j < L.length
      · have e3 := encC_get (W := W) (Y := X) hlt
        have c0 := (H.out.cellAt (j * 3) (by omega)).trans e3.1
        have c1 := (H.out.cellAt (j * 3 + 1) (by omega)).trans e3.2.1
        have c2 := (H.out.cellAt (j * 3 + 2) (by omega)).trans e3.2.2
        have d0 := (H'.out.cellAt (j * 3) (by omega)).trans e3.1
        have d1 := (H'.out.cellAt (j * 3 + 1) (by omega)).trans e3.2.1
        have d2 := (H'.out.cellAt (j * 3 + 2) (by omega)).trans e3.2.2
        generalize ((L.getD j 0 % (W + 1) : Nat) : Int) = x0 at c0 d0
        generalize ((L.getD j 0 / (W + 1) : Nat) : Int) = x1 at c1 d1
        generalize X (L.getD j 0) = x2 at c2 d2
        have b1 : (j : Int) < (L.length : Int) := by omega
        have b2 : (0 : Int) ≤ (j : Int) := by omega
        clear e3
        go_wp2
        go_quiet (fail)
        go_wp2
        go_roundw
        case rel => exact ⟨j + 1, _, by omega, by go_num, rfl⟩
        case measure => simp [intOf]; omega
      · go_wp2
        go_ret
        exact ⟨rfl, _, rfl⟩
end Go.Proofs.Ytngamphkehppfaa
