/-
  The walks of lies and isTile of the program, of Lies of the reference.
-/
import Derived.Test.YtbfpcolkbfljoaaDoorRLawVal
namespace Go.Proofs.YtbfpcolkbfljoaaDoor
open Go.RowKit

theorem fin6 {p : Int} (h : 0 ≤ p ∧ p ≤ 5) : ∃ k : Fin 6, p = ((k : Nat) : Int) := ⟨⟨p.toNat, by omega⟩, by simp; omega⟩
theorem fin64 {z : Int} (h : 0 ≤ z ∧ z ≤ 63) : ∃ k : Fin 64, z = ((k : Nat) : Int) := ⟨⟨z.toNat, by omega⟩, by simp; omega⟩
theorem and_bit {z p : Int} (hz : 0 ≤ z ∧ z ≤ 63) (hp : 0 ≤ p ∧ p ≤ 5) : (bits .and .i64 z (wrap64 (2 ^ p.toNat)) != 0) = has z p := by
  obtain ⟨k, rfl⟩ := fin64 hz
  obtain ⟨q, rfl⟩ := fin6 hp
  clear hz hp
  revert k q
  decide +kernel
theorem shr_bit {z p : Int} (hz : 0 ≤ z ∧ z ≤ 63) (hp : 0 ≤ p ∧ p ≤ 5) : (bits .and .i64 (z / 2 ^ p.toNat) 1 == 1) = has z p := by
  obtain ⟨k, rfl⟩ := fin64 hz
  obtain ⟨q, rfl⟩ := fin6 hp
  clear hz hp
  revert k q
  decide +kernel

set_option maxHeartbeats 1600000 in
theorem lies_any (W H : Int) (ao : Option Addr) (n cap : Nat) (Z : Nat → Int) (s : Value) (t : Nat) (p : Int) (hp : 0 ≤ p ∧ p ≤ 5) (ht : t < n) (h0 : 0 ≤ Z t) (h1 : Z t ≤ 63) (b : Bool) (hb : has (Z t) p = b) (w : World) (hI : Ints w ao n Z) :
    Calls Tryd.prog 115 #[rv W H (.slice ao n cap) s, .int .i64 t, .int .i64 p] w fun r w' => r = .returned (.bool b) ∧ Below w.heap.size w w' := by
  have hW := Joins.below_alloc1 w (.cells #[.int .i64 W, .int .i64 H, .slice ao n cap, s] 25)
  obtain ⟨g, off, rfl, hz, hc⟩ := ints_cell (hI.stays hW) ht
  have HW := hid hW
  obtain ⟨z, hz'⟩ : ∃ z, z = Z t := ⟨_, rfl⟩
  rw [← hz'] at hc h0 h1
  have HB := hid hb
  have HZ := hid hz'
  have k1 : (0 : Int) ≤ (t : Int) := by omega
  have k2 : (t : Int) < (n : Int) := by omega
  clear hb hz' hW hI
  obtain ⟨p1, p2⟩ := hp
  go_enter Tryd.func115, Tryd.ntmps115
  go_wp2_with fail
  go_quiet (fail)
  go_wp2_with fail
  go_ret
  exact ⟨ret_bool (by rw [← HB.out, ← HZ.out]; exact and_bit ⟨h0, h1⟩ ⟨p1, p2⟩), HW.out.trans (Joins.below_draws _ _ _)⟩

set_option maxHeartbeats 1600000 in
theorem isTile_any (W H : Int) (hs : Sized W H) (s s' : Value) (t : Int) (b : Bool) (hb : decide (0 ≤ t ∧ t < W * H) = b) (w : World) :
    Calls Tryd.prog 128 #[rv W H s s', .int .i64 t] w fun r w' => r = .returned (.bool b) ∧ Below w.heap.size w w' := by
  have HW := hid (Joins.below_alloc1 w (.cells #[.int .i64 W, .int .i64 H, s, s'] 25))
  obtain ⟨b1, b2⟩ := hs.bound
  have HB := hid hb
  clear hb hs
  go_enter Tryd.func128, Tryd.ntmps128
  go_wp2_with fail
  all_goals go_ret
  all_goals (refine ⟨ret_bool ?_, HW.out⟩; rw [← HB.out, Bool.eq_iff_iff]; simp; try omega)

/-- Whether a piece lies on a tile. -/
def Lie (n : Nat) (Z : Nat → Int) (t p : Int) : Bool := decide (0 ≤ t ∧ t < n ∧ 0 ≤ p ∧ p < 6) && has (Z t.toNat) p
theorem lie_in {n : Nat} {Z : Nat → Int} {t p : Int} (h : Lie n Z t p = true) : (0 ≤ t ∧ t < n ∧ 0 ≤ p ∧ p ≤ 5) ∧ has (Z t.toNat) p = true := by
  unfold Lie at h
  simp at h
  exact ⟨⟨h.1.1, h.1.2.1, h.1.2.2.1, by omega⟩, h.2⟩
theorem lie_of {n : Nat} {Z : Nat → Int} {t p : Int} (h : 0 ≤ t ∧ t < n ∧ 0 ≤ p ∧ p ≤ 5) : Lie n Z t p = has (Z t.toNat) p := by
  unfold Lie
  rw [decide_eq_true (by omega)]; rfl
set_option maxHeartbeats 1600000 in
theorem reflies_any (W H : Int) (ao : Option Addr) (n cap : Nat) (Z : Nat → Int) (s : Value) (t p : Int) (hz : ∀ i, i < n → 0 ≤ Z i ∧ Z i ≤ 63) (b : Bool) (hb : Lie n Z t p = b) (w : World) (hI : Ints w ao n Z) :
    Calls Tryd.prog 30 #[rv W H (.slice ao n cap) s, .int .i64 t, .int .i64 p] w fun r w' => r = .returned (.bool b) ∧ Below w.heap.size w w' := by
  have hW := Joins.below_alloc1 w (.cells #[.int .i64 W, .int .i64 H, .slice ao n cap, s] 25)
  have hI' := hI.stays hW
  have HW := hid hW
  have HB := hid hb
  clear hb hI hW
  by_cases hin : 0 ≤ t ∧ t < n ∧ 0 ≤ p ∧ p ≤ 5
  · obtain ⟨k1, k2, p1, p2⟩ := id hin
    obtain ⟨t, rfl⟩ := Int.eq_ofNat_of_zero_le k1
    have ht : t < n := by omega
    obtain ⟨g, off, rfl, hg, hc⟩ := ints_cell hI' ht
    have hzt := hz t ht
    obtain ⟨z, hz'⟩ : ∃ z, z = Z t := ⟨_, rfl⟩
    rw [← hz'] at hc hzt
    have HZ := hid hz'
    have HE := hid (lie_of (Z := Z) hin)
    obtain ⟨h0, h1⟩ := hzt
    have p3 : p < 6 := by omega
    clear hz hz' hI' hin
    go_enter Tryd.func30, Tryd.ntmps30
    go_wp2_with fail
    go_ret
    refine ⟨ret_bool ?_, HW.out⟩
    rw [← HB.out, HE.out, Int.toNat_natCast, ← HZ.out]
    exact shr_bit ⟨h0, h1⟩ ⟨p1, p2⟩
  · have HE : Hid (Lie n Z t p = false) := hid (by unfold Lie; rw [decide_eq_false (by omega)]; rfl)
    rw [← HB.out, HE.out]
    clear hz hI' HB
    by_cases h1 : 0 ≤ t
    · by_cases h2 : t < n
      · by_cases h3 : 0 ≤ p
        · have h4 : 6 ≤ p := by omega
          clear hin
          go_enter Tryd.func30, Tryd.ntmps30
          go_wp2_with fail
          go_ret
          exact ⟨rfl, HW.out⟩
        · have h4 : p < 0 := by omega
          clear hin
          go_enter Tryd.func30, Tryd.ntmps30
          go_wp2_with fail
          go_ret
          exact ⟨rfl, HW.out⟩
      · have h4 : (n : Int) ≤ t := by omega
        clear hin
        go_enter Tryd.func30, Tryd.ntmps30
        go_wp2_with fail
        go_ret
        exact ⟨rfl, HW.out⟩
    · have h4 : t < 0 := by omega
      clear hin
      go_enter Tryd.func30, Tryd.ntmps30
      go_wp2_with fail
      go_ret
      exact ⟨rfl, HW.out⟩
end Go.Proofs.YtbfpcolkbfljoaaDoor
