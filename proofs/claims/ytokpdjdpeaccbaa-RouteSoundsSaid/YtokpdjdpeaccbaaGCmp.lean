/-
  The walks of what compares two ways: rank, end, Compare of numbers and of lists of three numbers, better.
-/
import Derived.Test.YtokpdjdpeaccbaaGKit
namespace Go.Proofs.Ytokpdjdpeaccbaa
open Go.RowKit

theorem isNaN_any (x : Int) (w : World) : Calls Try.prog 89 #[.int .i64 x] w fun e w' => e = .returned (.bool false) ∧ w = w' := by
  go_enter Try.func89, Try.ntmps89
  go_wp2
  all_goals
    first
    | go_ret
      exact ⟨by simp, rfl⟩
    | (exfalso; simp_all)
/-- How two numbers compare. -/
def sgn (x y : Int) : Int := if x < y then -1 else if y < x then 1 else 0
theorem cmpN_any (x y : Int) (w : World) : Calls Try.prog 83 #[.int .i64 x, .int .i64 y] w fun e w' => e = .returned (.int .i64 (sgn x y)) ∧ w = w' := by
  unfold sgn
  go_enter Try.func83, Try.ntmps83
  by_cases h1 : x < y
  · go_wp2_with (go_at_call 89; refine (isNaN_any _ _).mono ?_; rintro e w' ⟨rfl, rfl⟩)
    go_ret
    exact ⟨by first | rfl | simp, rfl⟩
  · by_cases h2 : y < x
    · have h3 : y ≤ x := by omega
      go_wp2_with (go_at_call 89; refine (isNaN_any _ _).mono ?_; rintro e w' ⟨rfl, rfl⟩)
      go_ret
      exact ⟨by first | rfl | simp, rfl⟩
    · have h3 : y ≤ x := by omega
      have h4 : x ≤ y := by omega
      go_wp2_with (go_at_call 89; refine (isNaN_any _ _).mono ?_; rintro e w' ⟨rfl, rfl⟩)
      go_ret
      exact ⟨by first | rfl | simp, rfl⟩
theorem end_any (a : Wy) (w : World) : Calls Try.prog 105 #[wv a] w fun e w' => e = .returned (.int .i64 a.nd) ∧ Below w.heap.size w w' := by
  go_enter Try.func105, Try.ntmps105
  go_wp2
  go_ret
  exact ⟨rfl, (Below.refl _ _).alloc (Nat.le_refl _) _⟩
theorem run_rank (a : Wy) (w : World) : (method 242 68 (wv a) "hinterland/route.rank").run Try.prog w = .ok (106, wv a) w := by kernel_rfl
theorem run_end (a : Wy) (w : World) : (method 242 68 (wv a) "hinterland/route.end").run Try.prog w = .ok (105, wv a) w := by kernel_rfl
/-- A way's rank as a value. -/
abbrev kv (a : Wy) : Value := .agg #[.int .i64 a.co, .int .i64 a.ns, .int .i64 a.nx]
theorem rank_any (a : Wy) (w : World) : Calls Try.prog 106 #[wv a] w fun e w' => e = .returned (kv a) ∧ Below w.heap.size w w' := by
  go_enter Try.func106, Try.ntmps106
  go_wp2
  refine bodyPost_ret (v := kv a) (by simp [results, Try.results106, go_sem]) rfl ⟨rfl, ?_⟩
  exact Joins.below_alloc2 _ _ _

theorem sgn_ne (x y : Int) (h : x ≠ y) : ((sgn x y) == 0) = false := by unfold sgn; by_cases h1 : x < y <;> by_cases h2 : y < x <;> simp [h1, h2] <;> omega
theorem sgn_eq (x y : Int) (h : x = y) : ((sgn x y) == 0) = true := by subst h; unfold sgn; simp
/-- How two lists of three numbers compare. -/
def CmpIs (X Y : Nat → Int) (r : Int) : Prop := (∃ k, k < 3 ∧ (∀ j, j < k → X j = Y j) ∧ X k ≠ Y k ∧ r = sgn (X k) (Y k)) ∨ ((∀ j, j < 3 → X j = Y j) ∧ r = 0)
def CmpPost (X Y : Nat → Int) (w : World) (e : Ending) (w' : World) : Prop := ∃ r, CmpIs X Y r ∧ e = .returned (.int .i64 r) ∧ w = w'
set_option maxHeartbeats 1600000 in
theorem compare_any (b b' : Nat) (X Y : Nat → Int) (w : World) (h : ∀ j, j < 3 → w.cell? ⟨b, j, none⟩ = some (.int .i64 (X j))) (h' : ∀ j, j < 3 → w.cell? ⟨b', j, none⟩ = some (.int .i64 (Y j))) :
    Calls Try.prog 68 #[.slice (some ⟨b, 0, none⟩) 3 3, .slice (some ⟨b', 0, none⟩) 3 3] w (CmpPost X Y w) := by
  have H := hid h
  have H' := hid h'
  clear h h'
  go_enter Try.func68, Try.ntmps68
  go_wp2
  go_loop [11] (fun i => ∃ k : Nat, k ≤ 3 ∧ i = .int .i64 k ∧ Hid (∀ j, j < k → X j = Y j)) (fun i => (3 - intOf i).toNat)
  case atStart => exact ⟨0, by omega, rfl, hid (fun j hj => by omega)⟩
  case round =>
    obtain ⟨k, hk, rfl, hE⟩ := hrel
    by_cases hlt : k < 3
    · have c := H.out k hlt
      have c' := H'.out k hlt
      have ge : ¬ (3 : Int) ≤ (k : Int) := by omega
      obtain ⟨s, hs⟩ : ∃ s, s = sgn (X k) (Y k) := ⟨_, rfl⟩
      have HS := hid hs
      clear hk
      by_cases e : X k = Y k
      · have hn : ((s : Int) == 0) = true := by rw [hs]; exact sgn_eq _ _ e
        have HX := hid e
        clear hs e
        go_wp2_with (go_at_call 83; refine (cmpN_any _ _ _).mono ?_; rw [← HS.out]; rintro e w' ⟨rfl, rfl⟩)
        go_round
        case rel => exact ⟨k + 1, by omega, by go_num, hid (fun j hj => by
          by_cases e : j = k
          · subst e; exact HX.out
          · exact hE.out j (by omega))⟩
        case measure => simp [intOf]; omega
      · have hn : ((s : Int) == 0) = false := by rw [hs]; exact sgn_ne _ _ e
        have HX := hid e
        clear hs e
        go_wp2_with (go_at_call 83; refine (cmpN_any _ _ _).mono ?_; rw [← HS.out]; rintro e w' ⟨rfl, rfl⟩)
        go_ret
        exact ⟨s, .inl ⟨k, hlt, hE.out, HX.out, HS.out⟩, rfl, rfl⟩
    · obtain rfl : k = 3 := by omega
      go_wp2
      go_ret
      exact ⟨0, .inr ⟨hE.out, rfl⟩, rfl, rfl⟩
end Go.Proofs.Ytokpdjdpeaccbaa
