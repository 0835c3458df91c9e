/-
  The walk of the law on which place is chosen by weights.
-/
import Derived.Test.YtadpgndodbfciaaDoorWalkPick
namespace Go.Proofs.YtadpgndodbfciaaDoor
open Go.RowKit

/-- Two picks from equal arguments agree; and what is picked is a place with a weight above 0, or none. -/
def PickTo (p v : Int) (w : World) (e : Ending) (w' : World) : Prop := e = .returned (.tuple #[.int .i64 p, .agg #[.int .u64 v]]) ∧ Below w.heap.size w w'
theorem pick_both (s : Int) (Z : List Int) (hZ : Z.length ≤ 1000) : ∃ p v : Int, (p = -1 ∨ ∃ j : Nat, j < Z.length ∧ p = j ∧ 0 < Z.getD j 0) ∧ ∀ w e w', PickIs s Z w e w' → PickTo p v w e w' := by
  have hsb := sumW_bd Z
  by_cases h0 : sumW Z = 0
  · refine ⟨-1, s, Or.inl rfl, fun w e w' h => ?_⟩
    rcases h with ⟨_, he, hb⟩ | ⟨h1, _⟩
    · exact ⟨he, hb⟩
    · omega
  · obtain ⟨k, hk⟩ := found_ex s (n := sumW Z) (by omega) (by omega)
    have hx := Int.emod_nonneg (numAt s k) (show sumW Z ≠ 0 from h0)
    refine ⟨place Z (numAt s k % sumW Z) 0, skipTo s k, ?_, fun w e w' h => ?_⟩
    · rcases place_found (l := Z) (i := 0) hx with h | ⟨j, h1, h2, h3⟩
      · exact Or.inl h
      · exact Or.inr ⟨j, h1, by rw [h2]; omega, h3⟩
    · rcases h with ⟨h1, _⟩ | ⟨_, k', hk', he, hb⟩
      · omega
      · obtain rfl := found_one hk hk'
        exact ⟨he, hb⟩

set_option maxHeartbeats 1600000 in
theorem walk_picks (s : Int) (ao : Option Addr) (Z : List Int) (cap : Nat) (hl : Z.length ≤ 9223372036854775807) (w : World) (hI : Ints w ao Z) (hT : Tab w) :
    Calls Tryd.prog 7 #[.agg #[.int .u64 s], .slice ao Z.length cap] w fun e w' => e = .returned (.bool true) ∧ Below w.heap.size w w' := by
  have HI := hid hI
  clear hI
  have hT1 := hT.stays (Joins.below_alloc1 w (.cells #[.int .u64 s] 25))
  by_cases h1 : 4000 < Z.length
  · go_enter Tryd.func7, Tryd.ntmps7
    go_wp2_with fail
    refine (known_any _ hT1).mono ?_
    rintro e w4 ⟨rfl, hb4⟩
    go_wp2
    go_ret
    exact ⟨rfl, step (Joins.below_alloc1 _ _) hb4⟩
  · by_cases h2 : 1000 < Z.length
    · go_enter Tryd.func7, Tryd.ntmps7
      go_wp2_with fail
      refine (refpick_long s ao _ cap h2 (by omega) _).mono ?_
      rintro e w1 ⟨rfl, hb1⟩
      obtain ⟨hz1, hc1, hb1'⟩ := after hb1
      have c1 : w1.cell? ⟨w.heap.size, 0, none⟩ = some (.int .u64 s) := hc1 0
      clear hc1 hb1
      go_wp2_with fail
      refine (pick_long s ao _ cap h2 (by omega) _).mono ?_
      rintro e w2 ⟨rfl, hb2⟩
      obtain ⟨hz2, hc2, hb2'⟩ := after hb2
      have d2 : w2.cell? ⟨w1.heap.size, 0, none⟩ = some (.int .u64 s) := hc2 0
      have HB2 := hid (step hb1' hb2')
      have hT2 := hT.stays (add HB2.out (.cells #[.int .u64 s] 25))
      clear hc2 hb2 hb1' hb2' c1 hz1 hT hT1
      go_wp2_with fail
      refine (known_any _ hT2).mono ?_
      rintro e w4 ⟨rfl, hb4⟩
      go_wp2
      go_ret
      exact ⟨rfl, step (add HB2.out _) hb4⟩
    · obtain ⟨p, v, hp, hall⟩ := pick_both s Z (by omega)
      have HP := hid hp
      have HA := hid hall
      clear hp hall
      go_enter Tryd.func7, Tryd.ntmps7
      go_wp2_with fail
      refine (refpick_any s ao Z cap (by omega) _ (HI.out.stays (Joins.below_alloc1 w _))).mono ?_
      rintro e w1 h
      obtain ⟨rfl, hb1⟩ := HA.out _ _ _ h
      clear h
      obtain ⟨hz1, hc1, hb1'⟩ := after hb1
      have c1 : w1.cell? ⟨w.heap.size, 0, none⟩ = some (.int .u64 s) := hc1 0
      clear hc1 hb1
      go_wp2_with fail
      refine (pick_any s ao Z cap (by omega) _ (HI.out.stays (add hb1' _))).mono ?_
      rintro e w2 h
      obtain ⟨rfl, hb2⟩ := HA.out _ _ _ h
      clear h
      obtain ⟨hz2, hc2, hb2'⟩ := after hb2
      have d2 : w2.cell? ⟨w1.heap.size, 0, none⟩ = some (.int .u64 v) := hc2 0
      have HB2 := hid (step hb1' hb2')
      have hT2 := hT.stays (add HB2.out (.cells #[.int .u64 v] 25))
      have HI2 := hid (HI.out.stays (add HB2.out (.cells #[.int .u64 v] 25)))
      clear hc2 hb2 hb1' hb2' c1 hz1 hT hT1
      rcases HP.out with rfl | ⟨j, hj, rfl, hpos⟩
      · go_wp2_with fail
        refine (known_any _ hT2).mono ?_
        rintro e w4 ⟨rfl, hb4⟩
        go_wp2
        go_ret
        exact ⟨rfl, step (add HB2.out _) hb4⟩
      · obtain ⟨b, off, rfl, hz, hc⟩ := HI2.out j hj
        obtain ⟨z, hz'⟩ : ∃ z, z = Z.getD j 0 := ⟨_, rfl⟩
        rw [← hz'] at hc hpos
        clear hz'
        have g1 : ((j : Int) == -1) = false := by rw [beq_eq_false_iff_ne]; omega
        go_wp2_with fail
        refine (known_any _ hT2).mono ?_
        rintro e w4 ⟨rfl, hb4⟩
        go_wp2
        go_ret
        exact ⟨rfl, step (add HB2.out _) hb4⟩
end Go.Proofs.YtadpgndodbfciaaDoor
