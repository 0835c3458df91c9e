/-
  The walks of what is paid for units by the program: isCargo, pay, Pay; and of known.
-/
import Derived.Test.YtnfcibcpmaehoaaQNam
namespace Go.Proofs.Ytnfcibcpmaehoaa
open Go.RowKit

set_option maxHeartbeats 1600000 in
theorem iscargo_any (c : Cg) (hs : c.n.size ≤ maxLen) (r : Bool) (hr : isC c = r) (w : World) : Calls Try.prog 48 #[cv c] w fun e w' => e = .returned (.bool r) ∧ Below w.heap.size w w' := by
  have HB := hid (Joins.below_alloc1 w (.cells #[.string c.n, .int .i64 c.r, .int .i64 c.f, .int .i64 c.l] 49))
  have HR := hid hr
  have HS := hid (fun W => isname_any c.n hs W)
  clear hr hs
  cases qn : isNm c.n
  · skip
    have HQ : Hid (r = false) := hid (by rw [← HR.out]; simp only [isC, qn, Bool.false_and])
    have HN := hid qn
    clear qn
    go_enter Try.func48, Try.ntmps48
    go_wp2_with ((go_at_call 71; refine (HS.out _).mono ?_; rw [HN.out]; rintro e w' ⟨rfl, rfl⟩))
    go_ret
    exact ⟨by rw [HQ.out]; rfl, HB.out⟩
  · skip
    cases q0 : (decide ((0 : Int) ≤ c.r) && decide (c.r ≤ 1000))
    · have h0 := hid q0
      have HQ : Hid (r = false) := hid (by rw [← HR.out]; simp only [isC, qn, q0, Bool.false_and, Bool.and_false])
      have HN := hid qn
      clear qn q0
      go_enter Try.func48, Try.ntmps48
      go_wp2_with (first
        | (go_at_call 71; refine (HS.out _).mono ?_; rw [HN.out]; rintro e w' ⟨rfl, rfl⟩)
        | (go_at_call 63; (first | (with_reducible refine (within_any 0 c.r 1000 false h0.out _).mono ?_)); rintro e w' ⟨rfl, rfl⟩))
      go_ret
      exact ⟨by rw [HQ.out]; rfl, HB.out⟩
    · have h0 := hid q0
      cases q1 : (decide ((0 : Int) ≤ c.f) && decide (c.f ≤ 255))
      · have h1 := hid q1
        have HQ : Hid (r = false) := hid (by rw [← HR.out]; simp only [isC, qn, q0, q1, Bool.false_and, Bool.and_false])
        have HN := hid qn
        clear qn q0 q1
        go_enter Try.func48, Try.ntmps48
        go_wp2_with (first
          | (go_at_call 71; refine (HS.out _).mono ?_; rw [HN.out]; rintro e w' ⟨rfl, rfl⟩)
          | (go_at_call 63; (first | (with_reducible refine (within_any 0 c.r 1000 true h0.out _).mono ?_) | (with_reducible refine (within_any 0 c.f 255 false h1.out _).mono ?_)); rintro e w' ⟨rfl, rfl⟩))
        go_ret
        exact ⟨by rw [HQ.out]; rfl, HB.out⟩
      · have h1 := hid q1
        cases q2 : (decide ((0 : Int) ≤ c.l) && decide (c.l ≤ 255))
        · have h2 := hid q2
          have HQ : Hid (r = false) := hid (by rw [← HR.out]; simp only [isC, qn, q0, q1, q2, Bool.and_false])
          have HN := hid qn
          clear qn q0 q1 q2
          go_enter Try.func48, Try.ntmps48
          go_wp2_with (first
            | (go_at_call 71; refine (HS.out _).mono ?_; rw [HN.out]; rintro e w' ⟨rfl, rfl⟩)
            | (go_at_call 63; (first | (with_reducible refine (within_any 0 c.r 1000 true h0.out _).mono ?_) | (with_reducible refine (within_any 0 c.f 255 true h1.out _).mono ?_) | (with_reducible refine (within_any 0 c.l 255 false h2.out _).mono ?_)); rintro e w' ⟨rfl, rfl⟩))
          go_ret
          exact ⟨by rw [HQ.out]; rfl, HB.out⟩
        · have h2 := hid q2
          have HQ : Hid (r = true) := hid (by rw [← HR.out]; simp only [isC, qn, q0, q1, q2, Bool.and_true])
          have HN := hid qn
          clear qn q0 q1 q2
          go_enter Try.func48, Try.ntmps48
          go_wp2_with (first
            | (go_at_call 71; refine (HS.out _).mono ?_; rw [HN.out]; rintro e w' ⟨rfl, rfl⟩)
            | (go_at_call 63; (first | (with_reducible refine (within_any 0 c.r 1000 true h0.out _).mono ?_) | (with_reducible refine (within_any 0 c.f 255 true h1.out _).mono ?_) | (with_reducible refine (within_any 0 c.l 255 true h2.out _).mono ?_)); rintro e w' ⟨rfl, rfl⟩))
          go_ret
          exact ⟨by rw [HQ.out]; rfl, HB.out⟩
theorem run_max2 (w : World) (ts : Array TypeId) (t : TypeId) (a b : Int) : (Builtin.max_ ts t #[.int .i64 a, .int .i64 b]).run Try.prog w = .ok (.int .i64 (max a b)) w := by
  simp [Builtin.max_, Builtin.max2]
  first
    | rfl
    | ((repeat' split) <;> first | rfl | omega)
theorem run_min2 (w : World) (ts : Array TypeId) (t : TypeId) (a b : Int) : (Builtin.min_ ts t #[.int .i64 a, .int .i64 b]).run Try.prog w = .ok (.int .i64 (min a b)) w := by
  simp [Builtin.min_, Builtin.min2]
  first
    | rfl
    | ((repeat' split) <;> first | rfl | omega)
/-- The greater, the lesser of two as letters. -/
abbrev MaxIs (a b m : Int) : Prop := ∀ (w : World) (ts : Array TypeId) (t : TypeId), (Builtin.max_ ts t #[.int .i64 a, .int .i64 b]).run Try.prog w = .ok (.int .i64 m) w
abbrev MinIs (a b m : Int) : Prop := ∀ (w : World) (ts : Array TypeId) (t : TypeId), (Builtin.min_ ts t #[.int .i64 a, .int .i64 b]).run Try.prog w = .ok (.int .i64 m) w
theorem max_is {a b m : Int} (h : max a b = m) : MaxIs a b m := fun w ts t => by rw [← h]; exact run_max2 w ts t a b
theorem min_is {a b m : Int} (h : min a b = m) : MinIs a b m := fun w ts t => by rw [← h]; exact run_min2 w ts t a b
set_option maxHeartbeats 1600000 in
theorem pay_any (c : Cg) (hc : okC c) (n far d : Int) (n1 : 0 ≤ n) (n2 : n ≤ 1000000) (f1 : 0 ≤ far) (f2 : far ≤ 1000000) (d1 : 0 ≤ d) (d2 : d ≤ 255) (v : Int) (hv : payV c n far d = v) (w : World) :
    Calls Try.prog 64 #[cv c, .int .i64 n, .int .i64 far, .int .i64 d] w fun e w' => e = .returned (.int .i64 v) ∧ Below w.heap.size w w' := by
  have HB := hid (Joins.below_alloc1 w (.cells #[.string c.n, .int .i64 c.r, .int .i64 c.f, .int .i64 c.l] 49))
  obtain ⟨x1, x2, y1, y2, z1, z2, hpv⟩ := pay_bd hc (d := d) n1 n2 f1 f2
  rw [hv] at hpv
  have hF : max (255 - max 0 (d - c.f) - max 0 (d - c.f - c.l)) 31 = frs c d := rfl
  obtain ⟨_, r1, r2, a1, a2, l1, l2⟩ := hc
  obtain ⟨nm, cr, cf, cl⟩ := c
  dsimp only at *
  clear hv
  obtain ⟨x, hx⟩ : ∃ x, cr * n = x := ⟨_, rfl⟩
  rw [hx] at x1 x2 y1 y2 z1 z2 hpv
  obtain ⟨y, hy⟩ : ∃ y, x * far = y := ⟨_, rfl⟩
  rw [hy] at y1 y2 z1 z2 hpv
  obtain ⟨F, hF'⟩ : ∃ F, frs ⟨nm, cr, cf, cl⟩ d = F := ⟨_, rfl⟩
  rw [hF'] at z1 z2 hpv hF
  obtain ⟨z, hz⟩ : ∃ z, y * F = z := ⟨_, rfl⟩
  rw [hz] at z1 z2 hpv
  obtain ⟨q, hq⟩ : ∃ q, Int.tdiv z 4096 = q := ⟨_, rfl⟩
  rw [hq] at hpv
  obtain ⟨m1, hm1⟩ : ∃ m, max 0 (d - cf) = m := ⟨_, rfl⟩
  obtain ⟨m2, hm2⟩ : ∃ m, max 0 (d - cf - cl) = m := ⟨_, rfl⟩
  rw [hm1, hm2] at hF
  have k1 := max_is hm1
  have k2 := max_is hm2
  have k3 := max_is hF
  have k4 := min_is hpv.symm
  have e1 : IntKind.i64.wrap (d - cf) = d - cf := by rw [IntKind.wrap_i64]; omega
  have e2 : IntKind.i64.wrap (d - cf - cl) = d - cf - cl := by rw [IntKind.wrap_i64]; omega
  have e3 : IntKind.i64.wrap (255 - m1) = 255 - m1 := by rw [IntKind.wrap_i64]; omega
  have e4 : IntKind.i64.wrap (255 - m1 - m2) = 255 - m1 - m2 := by rw [IntKind.wrap_i64]; omega
  have e5 : IntKind.i64.wrap (cr * n) = x := by rw [hx, IntKind.wrap_i64]; omega
  have e6 : IntKind.i64.wrap (x * far) = y := by rw [hy, IntKind.wrap_i64]; omega
  have e7 : IntKind.i64.wrap (y * F) = z := by rw [hz, IntKind.wrap_i64]; omega
  have e8 : IntKind.i64.wrap (Int.tdiv z 4096) = q := by rw [hq, IntKind.wrap_i64]; rw [Int.tdiv_eq_ediv_of_nonneg z1] at hq; omega
  clear hx hy hF' hz hq hm1 hm2 hF hpv
  go_enter Try.func64, Try.ntmps64
  go_wp2_with fail
  go_ret
  exact ⟨rfl, HB.out⟩
end Go.Proofs.Ytnfcibcpmaehoaa
