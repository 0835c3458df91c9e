/-
  The walks of what looks at parcels: within, isParcel, Out, the reference's less, markOf, Compare of numbers and of lists of four.
-/
import Derived.Test.YtnfcibcpmaehoaaQPur
namespace Go.Proofs.Ytnfcibcpmaehoaa
open Go.RowKit

theorem isNaN_any (x : Int) (w : World) : Calls Try.prog 88 #[.int .i64 x] w fun e w' => e = .returned (.bool false) ∧ w = w' := by
  go_enter Try.func88, Try.ntmps88
  go_wp2
  all_goals
    first
    | go_ret
      exact ⟨by simp, rfl⟩
    | (exfalso; simp_all)
/-- How two numbers compare. -/
def sgn (x y : Int) : Int := if x < y then -1 else if y < x then 1 else 0
theorem cmpN_any (x y : Int) (w : World) : Calls Try.prog 80 #[.int .i64 x, .int .i64 y] w fun e w' => e = .returned (.int .i64 (sgn x y)) ∧ w = w' := by
  unfold sgn
  go_enter Try.func80, Try.ntmps80
  by_cases h1 : x < y
  · go_wp2_with (go_at_call 88; refine (isNaN_any _ _).mono ?_; rintro e w' ⟨rfl, rfl⟩)
    go_ret
    exact ⟨by first | rfl | simp, rfl⟩
  · by_cases h2 : y < x
    · have h3 : y ≤ x := by omega
      go_wp2_with (go_at_call 88; refine (isNaN_any _ _).mono ?_; rintro e w' ⟨rfl, rfl⟩)
      go_ret
      exact ⟨by first | rfl | simp, rfl⟩
    · have h3 : y ≤ x := by omega
      have h4 : x ≤ y := by omega
      go_wp2_with (go_at_call 88; refine (isNaN_any _ _).mono ?_; rintro e w' ⟨rfl, rfl⟩)
      go_ret
      exact ⟨by first | rfl | simp, rfl⟩
theorem sgn_ne (x y : Int) (h : x ≠ y) : ((sgn x y) == 0) = false := by unfold sgn; by_cases h1 : x < y <;> by_cases h2 : y < x <;> simp [h1, h2] <;> omega
theorem sgn_eq (x y : Int) (h : x = y) : ((sgn x y) == 0) = true := by subst h; unfold sgn; simp
/-- How two lists of four numbers compare. -/
def CmpIs (X Y : Nat → Int) (r : Int) : Prop := (∃ k, k < 4 ∧ (∀ j, j < k → X j = Y j) ∧ X k ≠ Y k ∧ r = sgn (X k) (Y k)) ∨ ((∀ j, j < 4 → X j = Y j) ∧ r = 0)
def CmpPost (X Y : Nat → Int) (w : World) (e : Ending) (w' : World) : Prop := ∃ r, CmpIs X Y r ∧ e = .returned (.int .i64 r) ∧ w = w'
set_option maxHeartbeats 1600000 in
theorem compare_any (b b' : Nat) (X Y : Nat → Int) (w : World) (h : ∀ j, j < 4 → w.cell? ⟨b, j, none⟩ = some (.int .i64 (X j))) (h' : ∀ j, j < 4 → w.cell? ⟨b', j, none⟩ = some (.int .i64 (Y j))) :
    Calls Try.prog 70 #[.slice (some ⟨b, 0, none⟩) 4 4, .slice (some ⟨b', 0, none⟩) 4 4] w (CmpPost X Y w) := by
  have H := hid h
  have H' := hid h'
  clear h h'
  go_enter Try.func70, Try.ntmps70
  go_wp2
  go_loop [11] (fun i => ∃ k : Nat, k ≤ 4 ∧ i = .int .i64 k ∧ Hid (∀ j, j < k → X j = Y j)) (fun i => (4 - intOf i).toNat)
  case atStart => exact ⟨0, by omega, rfl, hid (fun j hj => by omega)⟩
  case round =>
    obtain ⟨k, hk, rfl, hE⟩ := hrel
    by_cases hlt : k < 4
    · have c := H.out k hlt
      have c' := H'.out k hlt
      have ge : ¬ (4 : Int) ≤ (k : Int) := by omega
      obtain ⟨s, hs⟩ : ∃ s, s = sgn (X k) (Y k) := ⟨_, rfl⟩
      have HS := hid hs
      clear hk
      by_cases e : X k = Y k
      · have hn : ((s : Int) == 0) = true := by rw [hs]; exact sgn_eq _ _ e
        have HX := hid e
        clear hs e
        go_wp2_with (go_at_call 80; refine (cmpN_any _ _ _).mono ?_; rw [← HS.out]; rintro e w' ⟨rfl, rfl⟩)
        go_round
        case rel => exact ⟨k + 1, by omega, by go_num, hid (fun j hj => by
          by_cases e : j = k
          · subst e; exact HX.out
          · exact hE.out j (by omega))⟩
        case measure => simp [intOf]; omega
      · have hn : ((s : Int) == 0) = false := by rw [hs]; exact sgn_ne _ _ e
        have HX := hid e
        clear hs e
        go_wp2_with (go_at_call 80; refine (cmpN_any _ _ _).mono ?_; rw [← HS.out]; rintro e w' ⟨rfl, rfl⟩)
        go_ret
        exact ⟨s, .inl ⟨k, hlt, hE.out, HX.out, HS.out⟩, rfl, rfl⟩
    · obtain rfl : k = 4 := by omega
      go_wp2
      go_ret
      exact ⟨0, .inr ⟨hE.out, rfl⟩, rfl, rfl⟩

theorem within_any (a n b : Int) (q : Bool) (h : (decide (a ≤ n) && decide (n ≤ b)) = q) (w : World) : Calls Try.prog 63 #[.int .i64 a, .int .i64 n, .int .i64 b] w fun e w' => e = .returned (.bool q) ∧ w = w' := by
  have HH := hid h
  clear h
  by_cases h : a ≤ n
  · go_enter Try.func63, Try.ntmps63
    go_wp2_with fail
    go_ret
    exact ⟨ret_bool (a := decide (n ≤ b)) (by rw [← HH.out, decide_eq_true h]; rfl), rfl⟩
  · have HQ : Hid (q = false) := hid (by rw [← HH.out, decide_eq_false h]; rfl)
    go_enter Try.func63, Try.ntmps63
    go_wp2_with fail
    go_ret
    exact ⟨by rw [HQ.out]; rfl, rfl⟩
theorem out_any (n l : Int) (q : Bool) (h : (decide (0 ≤ n) && decide (n ≤ l)) = q) (w : World) : Calls Try.prog 43 #[.int .i64 n, .int .i64 l] w fun e w' => e = .returned (.bool (!q)) ∧ w = w' := by
  obtain ⟨r, hr⟩ : ∃ r, (!q) = r := ⟨_, rfl⟩
  rw [hr]
  by_cases h1 : n < 0
  · have HQ : Hid (r = true) := hid (by rw [← hr, ← h, decide_eq_false (show ¬ 0 ≤ n by omega)]; rfl)
    clear hr h
    go_enter Try.func43, Try.ntmps43
    go_wp2_with fail
    go_ret
    exact ⟨by rw [HQ.out]; rfl, rfl⟩
  · have HQ : Hid (decide (l < n) = r) := hid (by
      rw [← hr, ← h, decide_eq_true (show 0 ≤ n by omega), Bool.true_and]
      by_cases h2 : l < n
      · rw [decide_eq_true h2, decide_eq_false (show ¬ n ≤ l by omega)]; rfl
      · rw [decide_eq_false h2, decide_eq_true (show n ≤ l by omega)]; rfl)
    clear hr h
    go_enter Try.func43, Try.ntmps43
    go_wp2_with fail
    go_ret
    exact ⟨ret_bool (a := decide (l < n)) HQ.out, rfl⟩
set_option maxHeartbeats 1600000 in
theorem isparcel_any (p : Par) (w : World) : Calls Try.prog 44 #[pv p] w fun e w' => e = .returned (.bool (isP p)) ∧ Below w.heap.size w w' := by
  obtain ⟨k, f, t, a, c, s⟩ := p
  have HB := hid (Joins.below_alloc1 w (.cells #[.int .i64 k, .int .i64 f, .int .i64 t, .int .i64 a, .int .i64 c, .int .i64 s] 36))
  obtain ⟨r, hr⟩ : ∃ r, isP ⟨k, f, t, a, c, s⟩ = r := ⟨_, rfl⟩
  rw [hr]
  have HR := hid hr
  clear hr
  cases q0 : (decide ((1 : Int) ≤ c) && decide (c ≤ 1000000))
  · have h0 := hid q0
    have HQ : Hid (r = false) := hid (by rw [← HR.out]; simp only [isP, q0, Bool.false_and])
    clear q0
    go_enter Try.func44, Try.ntmps44
    go_wp2_with (go_at_call 63; (first | (with_reducible refine (within_any 1 c 1000000 false h0.out _).mono ?_)); rintro e w' ⟨rfl, rfl⟩)
    go_ret
    exact ⟨by rw [HQ.out]; rfl, HB.out⟩
  · have h0 := hid q0
    cases q1 : (decide ((0 : Int) ≤ a) && decide (a ≤ 255))
    · have h1 := hid q1
      have HQ : Hid (r = false) := hid (by rw [← HR.out]; simp only [isP, q0, q1, Bool.false_and, Bool.and_false])
      clear q0 q1
      go_enter Try.func44, Try.ntmps44
      go_wp2_with (go_at_call 63; (first | (with_reducible refine (within_any 1 c 1000000 true h0.out _).mono ?_) | (with_reducible refine (within_any 0 a 255 false h1.out _).mono ?_)); rintro e w' ⟨rfl, rfl⟩)
      go_ret
      exact ⟨by rw [HQ.out]; rfl, HB.out⟩
    · have h1 := hid q1
      cases q2 : (decide ((0 : Int) ≤ s) && decide (s ≤ 1000000000000))
      · have h2 := hid q2
        have HQ : Hid (r = false) := hid (by rw [← HR.out]; simp only [isP, q0, q1, q2, Bool.false_and, Bool.and_false])
        clear q0 q1 q2
        go_enter Try.func44, Try.ntmps44
        go_wp2_with (go_at_call 63; (first | (with_reducible refine (within_any 1 c 1000000 true h0.out _).mono ?_) | (with_reducible refine (within_any 0 a 255 true h1.out _).mono ?_) | (with_reducible refine (within_any 0 s 1000000000000 false h2.out _).mono ?_)); rintro e w' ⟨rfl, rfl⟩)
        go_ret
        exact ⟨by rw [HQ.out]; rfl, HB.out⟩
      · have h2 := hid q2
        cases q3 : (decide ((0 : Int) ≤ k) && decide (k ≤ 1000000))
        · have h3 := hid q3
          have HQ : Hid (r = false) := hid (by rw [← HR.out]; simp only [isP, q0, q1, q2, q3, Bool.false_and, Bool.and_false])
          clear q0 q1 q2 q3
          go_enter Try.func44, Try.ntmps44
          go_wp2_with (go_at_call 63; (first | (with_reducible refine (within_any 1 c 1000000 true h0.out _).mono ?_) | (with_reducible refine (within_any 0 a 255 true h1.out _).mono ?_) | (with_reducible refine (within_any 0 s 1000000000000 true h2.out _).mono ?_) | (with_reducible refine (within_any 0 k 1000000 false h3.out _).mono ?_)); rintro e w' ⟨rfl, rfl⟩)
          go_ret
          exact ⟨by rw [HQ.out]; rfl, HB.out⟩
        · have h3 := hid q3
          cases q4 : (decide ((0 : Int) ≤ f) && decide (f ≤ 1000000))
          · have h4 := hid q4
            have HQ : Hid (r = false) := hid (by rw [← HR.out]; simp only [isP, q0, q1, q2, q3, q4, Bool.false_and, Bool.and_false])
            clear q0 q1 q2 q3 q4
            go_enter Try.func44, Try.ntmps44
            go_wp2_with (go_at_call 63; (first | (with_reducible refine (within_any 1 c 1000000 true h0.out _).mono ?_) | (with_reducible refine (within_any 0 a 255 true h1.out _).mono ?_) | (with_reducible refine (within_any 0 s 1000000000000 true h2.out _).mono ?_) | (with_reducible refine (within_any 0 k 1000000 true h3.out _).mono ?_) | (with_reducible refine (within_any 0 f 1000000 false h4.out _).mono ?_)); rintro e w' ⟨rfl, rfl⟩)
            go_ret
            exact ⟨by rw [HQ.out]; rfl, HB.out⟩
          · have h4 := hid q4
            cases q5 : (decide ((0 : Int) ≤ t) && decide (t ≤ 1000000))
            · have h5 := hid q5
              have HQ : Hid (r = false) := hid (by rw [← HR.out]; simp only [isP, q0, q1, q2, q3, q4, q5, Bool.and_false])
              clear q0 q1 q2 q3 q4 q5
              go_enter Try.func44, Try.ntmps44
              go_wp2_with (go_at_call 63; (first | (with_reducible refine (within_any 1 c 1000000 true h0.out _).mono ?_) | (with_reducible refine (within_any 0 a 255 true h1.out _).mono ?_) | (with_reducible refine (within_any 0 s 1000000000000 true h2.out _).mono ?_) | (with_reducible refine (within_any 0 k 1000000 true h3.out _).mono ?_) | (with_reducible refine (within_any 0 f 1000000 true h4.out _).mono ?_) | (with_reducible refine (within_any 0 t 1000000 false h5.out _).mono ?_)); rintro e w' ⟨rfl, rfl⟩)
              go_ret
              exact ⟨by rw [HQ.out]; rfl, HB.out⟩
            · have h5 := hid q5
              have HQ : Hid (r = true) := hid (by rw [← HR.out]; simp only [isP, q0, q1, q2, q3, q4, q5, Bool.and_true])
              clear q0 q1 q2 q3 q4 q5
              go_enter Try.func44, Try.ntmps44
              go_wp2_with (go_at_call 63; (first | (with_reducible refine (within_any 1 c 1000000 true h0.out _).mono ?_) | (with_reducible refine (within_any 0 a 255 true h1.out _).mono ?_) | (with_reducible refine (within_any 0 s 1000000000000 true h2.out _).mono ?_) | (with_reducible refine (within_any 0 k 1000000 true h3.out _).mono ?_) | (with_reducible refine (within_any 0 f 1000000 true h4.out _).mono ?_) | (with_reducible refine (within_any 0 t 1000000 true h5.out _).mono ?_)); rintro e w' ⟨rfl, rfl⟩)
              go_ret
              exact ⟨by rw [HQ.out]; rfl, HB.out⟩
set_option maxHeartbeats 1600000 in
theorem less_any (p q : Par) (b : Bool) (h : decide (lt4 p q) = b) (w : World) : Calls Try.prog 42 #[pv p, pv q] w fun e w' => e = .returned (.bool b) ∧ Below w.heap.size w w' := by
  have HH := hid h
  clear h
  obtain ⟨k, f, t, a, c, s⟩ := p
  obtain ⟨k', f', t', a', c', s'⟩ := q
  have HB := hid (Joins.below_alloc2 w (.cells #[.int .i64 k, .int .i64 f, .int .i64 t, .int .i64 a, .int .i64 c, .int .i64 s] 36) (.cells #[.int .i64 k', .int .i64 f', .int .i64 t', .int .i64 a', .int .i64 c', .int .i64 s'] 36))
  by_cases hk : k = k'
  · subst hk
    by_cases hf : f = f'
    · subst hf
      by_cases ht : t = t'
      · subst ht
        go_enter Try.func42, Try.ntmps42
        go_wp2_with fail
        go_ret
        exact ⟨ret_bool (a := decide (a < a')) (by rw [← HH.out]; exact decide_eq_decide.2 (by unfold lt4; dsimp only; omega)), HB.out⟩
      · have hb : (t == t') = false := by simpa using ht
        go_enter Try.func42, Try.ntmps42
        go_wp2_with fail
        go_ret
        exact ⟨ret_bool (a := decide (t < t')) (by rw [← HH.out]; exact decide_eq_decide.2 (by unfold lt4; dsimp only; omega)), HB.out⟩
    · have hb : (f == f') = false := by simpa using hf
      go_enter Try.func42, Try.ntmps42
      go_wp2_with fail
      go_ret
      exact ⟨ret_bool (a := decide (f < f')) (by rw [← HH.out]; exact decide_eq_decide.2 (by unfold lt4; dsimp only; omega)), HB.out⟩
  · have hb : (k == k') = false := by simpa using hk
    go_enter Try.func42, Try.ntmps42
    go_wp2_with fail
    go_ret
    exact ⟨ret_bool (a := decide (k < k')) (by rw [← HH.out]; exact decide_eq_decide.2 (by unfold lt4; dsimp only; omega)), HB.out⟩
/-- A mark as a value. -/
abbrev mv (p : Par) : Value := .agg #[.int .i64 p.k, .int .i64 p.f, .int .i64 p.t, .int .i64 p.a]
theorem mark_any (p : Par) (w : World) : Calls Try.prog 69 #[pv p] w fun e w' => e = .returned (mv p) ∧ Below w.heap.size w w' := by
  go_enter Try.func69, Try.ntmps69
  go_wp2
  refine bodyPost_ret (v := mv p) (by simp [results, Try.results69, go_sem]) rfl ⟨rfl, ?_⟩
  exact Joins.below_alloc2 _ _ _
end Go.Proofs.Ytnfcibcpmaehoaa
