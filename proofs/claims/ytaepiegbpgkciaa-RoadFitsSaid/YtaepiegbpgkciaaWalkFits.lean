/-
  The walks of Fits, of the program and of the reference, and of the law on it.
-/
import Derived.Test.YtaepiegbpgkciaaKnown
namespace Go.Proofs.Ytaepiegbpgkciaa
open Go.RowKit

def pop6 (z : Int) : Int := z % 2 + z / 2 % 2 + z / 4 % 2 + z / 8 % 2 + z / 16 % 2 + z / 32 % 2
theorem as_fin64 {z : Int} (h0 : 0 ≤ z) (h1 : z ≤ 63) : ∃ k : Fin 64, z = ((k : Nat) : Int) := ⟨⟨z.toNat, by omega⟩, by simp; omega⟩
set_option maxHeartbeats 1600000 in
theorem ones64x (z : Int) (h0 : 0 ≤ z) (h1 : z ≤ 63) (w : World) : Calls Try.prog 73 #[.int .u64 z] w fun e w' => e = .returned (.int .i64 (pop6 z)) ∧ w = w' := by
  go_enter Try.func73, Try.ntmps73
  go_wp2
  go_ret
  refine ⟨ret_int ?_, rfl⟩
  obtain ⟨k, rfl⟩ := as_fin64 h0 h1
  clear h0 h1
  revert k
  decide +kernel
set_option maxHeartbeats 1600000 in
theorem onesx (z : Int) (h0 : 0 ≤ z) (h1 : z ≤ 63) (w : World) : Calls Try.prog 64 #[.int .u64 z] w fun e w' => e = .returned (.int .i64 (pop6 z)) ∧ w = w' := by
  have e : IntKind.u64.wrap z = z := by rw [IntKind.wrap_u64]; omega
  go_enter Try.func64, Try.ntmps64
  go_wp2_with (go_at_call 73; refine (ones64x z h0 h1 _).mono ?_; rintro e w' ⟨rfl, rfl⟩)
  go_ret
  exact ⟨rfl, rfl⟩
set_option maxHeartbeats 400000 in
theorem isSet_any (a : Int) (w : World) : Calls Try.prog 63 #[.int .i64 a] w fun e w' => e = .returned (.bool (decide (0 ≤ a) && decide (a < 64))) ∧ w = w' := by
  go_enter Try.func63, Try.ntmps63
  go_wp2
  all_goals go_ret
  all_goals exact ⟨ret_bool (by rw [Bool.eq_iff_iff]; simp; try omega), rfl⟩
theorem isSet_yes {a : Int} (h : 0 ≤ a ∧ a ≤ 63) (w : World) : Calls Try.prog 63 #[.int .i64 a] w fun e w' => e = .returned (.bool true) ∧ w = w' := by
  refine (isSet_any a w).mono fun e w' h' => ⟨h'.1.trans (ret_bool ?_), h'.2⟩
  simp; omega
theorem isSet_no {a : Int} (h : ¬ (0 ≤ a ∧ a ≤ 63)) (w : World) : Calls Try.prog 63 #[.int .i64 a] w fun e w' => e = .returned (.bool false) ∧ w = w' := by
  refine (isSet_any a w).mono fun e w' h' => ⟨h'.1.trans (ret_bool ?_), h'.2⟩
  rw [Bool.eq_false_iff]; intro k; apply h; simp at k; omega
set_option maxHeartbeats 1600000 in
theorem cost_ok (z : Int) (h : 0 ≤ z ∧ z ≤ 63) (w : World) : Calls Try.prog 44 #[.int .i64 0, .int .i64 z] w fun e w' => (∃ c, e = .returned (.tuple #[.int .i64 c, .int .i64 0])) ∧ w = w' := by
  have HS := hid h
  obtain ⟨h0, h1⟩ := h
  by_cases hz : z = 0
  · subst hz
    go_enter Try.func44, Try.ntmps44
    go_wp2_with (go_at_call 63; refine (isSet_yes HS.out _).mono ?_; rintro e w' ⟨rfl, rfl⟩)
    go_ret2
    exact ⟨⟨_, rfl⟩, rfl⟩
  · have g0 : (z == 0) = false := by simpa using hz
    have ew : IntKind.u64.wrap z = z := by rw [IntKind.wrap_u64]; omega
    have ea : bits .and .i64 0 16 = 0 := by decide
    obtain ⟨p, hp⟩ : ∃ p, p = pop6 z := ⟨_, rfl⟩
    have hpb : 0 ≤ p ∧ p ≤ 6 := by rw [hp]; unfold pop6; omega
    obtain ⟨p0, p1⟩ := hpb
    have HP := hid hp
    clear hz hp
    go_enter Try.func44, Try.ntmps44
    go_wp2_with (first | (go_at_call 63; refine (isSet_yes HS.out _).mono ?_; rintro e w' ⟨rfl, rfl⟩) | (go_at_call 64; refine (onesx z h0 h1 _).mono ?_; rintro e w' ⟨rfl, rfl⟩; rw [← HP.out]))
    go_ret2
    exact ⟨⟨_, rfl⟩, rfl⟩
set_option maxHeartbeats 1600000 in
theorem cost_no (z : Int) (h : ¬ (0 ≤ z ∧ z ≤ 63)) (w : World) : Calls Try.prog 44 #[.int .i64 0, .int .i64 z] w fun e w' => e = .returned (.tuple #[.int .i64 0, .int .i64 1]) ∧ w = w' := by
  have HS := hid h
  clear h
  go_enter Try.func44, Try.ntmps44
  go_wp2_with (go_at_call 63; refine (isSet_no HS.out _).mono ?_; rintro e w' ⟨rfl, rfl⟩)
  go_ret2
  exact ⟨rfl, rfl⟩
theorem ret_bi {x y : Bool} {a b : Int} (h' : x = y) (h : a = b) : Ending.returned (.tuple #[.bool x, .int .i64 a]) = .returned (.tuple #[.bool y, .int .i64 b]) := by rw [h, h']
/-- Whether arms and tracks may lie on one tile. -/
def fit (a s : Int) : Bool := decide (a = 0 ∨ s = 0 ∨ a = 10 ∧ s = 1 ∨ a = 5 ∧ s = 2)
theorem fit_iff (a s : Int) : fit a s = true ↔ (a = 0 ∨ s = 0 ∨ a = 10 ∧ s = 1 ∨ a = 5 ∧ s = 2) := by unfold fit; simp
def FIs (a s : Int) (b : Bool) (e : Int) : Prop := (e = 1 ∧ b = false ∧ ¬ ((0 ≤ a ∧ a ≤ 15) ∧ 0 ≤ s ∧ s ≤ 63)) ∨ (e = 0 ∧ b = fit a s ∧ (0 ≤ a ∧ a ≤ 15) ∧ 0 ≤ s ∧ s ≤ 63)
theorem FIs.ex (a s : Int) : ∃ b e, FIs a s b e := by
  by_cases h : (0 ≤ a ∧ a ≤ 15) ∧ 0 ≤ s ∧ s ≤ 63
  · exact ⟨_, 0, .inr ⟨rfl, rfl, h⟩⟩
  · exact ⟨_, 1, .inl ⟨rfl, rfl, h⟩⟩
set_option maxHeartbeats 1600000 in
theorem crosses_any (a s : Int) (w : World) : Calls Try.prog 45 #[.int .i64 a, .int .i64 s] w fun e w' => e = .returned (.bool (decide (a = 10 ∧ s = 1 ∨ a = 5 ∧ s = 2))) ∧ w = w' := by
  go_enter Try.func45, Try.ntmps45
  go_wp2
  all_goals go_ret
  all_goals (refine ⟨ret_bool ?_, rfl⟩; rw [Bool.eq_iff_iff]; simp_all)
set_option maxHeartbeats 3200000 in
theorem fits_to (a s : Int) (b : Bool) (e : Int) (h : FIs a s b e) (w : World) : Calls Try.prog 19 #[.int .i64 a, .int .i64 s] w fun r w' => r = .returned (.tuple #[.bool b, .int .i64 e]) ∧ w = w' := by
  rcases h with ⟨rfl, rfl, h⟩ | ⟨rfl, rfl, ha, hs⟩
  · by_cases ha : 0 ≤ a ∧ a ≤ 15
    · have HA := hid ha
      have HS : Hid (¬ (0 ≤ s ∧ s ≤ 63)) := hid fun k => h ⟨ha, k⟩
      clear h ha
      go_enter Try.func19, Try.ntmps19
      go_wp2_with (first | (go_at_call 39; refine (isArms_yes HA.out _).mono ?_; rintro e w' ⟨rfl, rfl⟩) | (go_at_call 44; refine (cost_no s HS.out _).mono ?_; rintro e w' ⟨rfl, rfl⟩))
      go_ret2
      exact ⟨rfl, rfl⟩
    · have HA := hid ha
      clear h ha
      go_enter Try.func19, Try.ntmps19
      go_wp2_with (go_at_call 39; refine (isArms_no HA.out _).mono ?_; rintro e w' ⟨rfl, rfl⟩)
      go_ret2
      exact ⟨rfl, rfl⟩
  · have HA := hid ha
    have HS := hid hs
    have HF := hid (fit_iff a s)
    clear ha hs
    go_enter Try.func19, Try.ntmps19
    go_wp2_with (first | (go_at_call 39; refine (isArms_yes HA.out _).mono ?_; rintro e w' ⟨rfl, rfl⟩) | (go_at_call 44; refine (cost_ok s HS.out _).mono ?_; rintro e w' ⟨⟨c, rfl⟩, rfl⟩) | (go_at_call 45; refine (crosses_any a s _).mono ?_; rintro e w' ⟨rfl, rfl⟩))
    all_goals go_ret2
    all_goals (refine ⟨ret_bi ?_ rfl, rfl⟩; rw [Bool.eq_iff_iff, HF.out]; first | omega | (simp; omega) | simp_all | (simp at *; omega))
set_option maxHeartbeats 3200000 in
theorem reffits_to (a s : Int) (b : Bool) (e : Int) (h : FIs a s b e) (w : World) : Calls Try.prog 20 #[.int .i64 a, .int .i64 s] w fun r w' => r = .returned (.tuple #[.bool b, .int .i64 e]) ∧ w = w' := by
  rcases h with ⟨rfl, rfl, h⟩ | ⟨rfl, rfl, ha, hs⟩
  · by_cases h0 : a < 0
    · clear h
      go_enter Try.func20, Try.ntmps20
      go_wp2
      go_ret2
      exact ⟨rfl, rfl⟩
    · by_cases h1 : 15 < a
      · clear h
        go_enter Try.func20, Try.ntmps20
        go_wp2
        go_ret2
        exact ⟨rfl, rfl⟩
      · by_cases h2 : s < 0
        · clear h
          go_enter Try.func20, Try.ntmps20
          go_wp2
          go_ret2
          exact ⟨rfl, rfl⟩
        · have h3 : 63 < s := by omega
          clear h
          go_enter Try.func20, Try.ntmps20
          go_wp2
          go_ret2
          exact ⟨rfl, rfl⟩
  · have HF := hid (fit_iff a s)
    obtain ⟨a0, a1⟩ := ha
    obtain ⟨s0, s1⟩ := hs
    go_enter Try.func20, Try.ntmps20
    go_wp2
    all_goals go_ret2
    all_goals (refine ⟨ret_bi ?_ rfl, rfl⟩; rw [Bool.eq_iff_iff, HF.out]; first | omega | (simp; omega) | simp_all | (simp at *; omega))
set_option maxHeartbeats 1600000 in
theorem walk_fits (a s : Int) (w : World) : Calls Try.prog 4 #[.int .i64 a, .int .i64 s] w fun r w' => r = .returned (.bool true) ∧ Below w.heap.size w w' := by
  obtain ⟨b, e, h⟩ := FIs.ex a s
  have H := hid h
  clear h
  go_enter Try.func4, Try.ntmps4
  go_wp2_with fail
  refine (fits_to a s b e H.out _).mono ?_
  rintro r w1 ⟨rfl, rfl⟩
  go_wp2_with fail
  refine (reffits_to a s b e H.out _).mono ?_
  rintro r w1 ⟨rfl, rfl⟩
  go_wp2_with fail
  refine (known_any _).mono ?_
  rintro r w1 ⟨rfl, hb⟩
  go_wp2_with fail
  go_ret
  exact ⟨rfl, hb⟩
end Go.Proofs.Ytaepiegbpgkciaa
