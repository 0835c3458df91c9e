/-
  The walks of the reference's MulDiv, pay and Pay, and of the law CargoPays.
-/
import Derived.Test.YtnfcibcpmaehoaaQCgo
import Derived.Test.YtnfcibcpmaehoaaQLSlo
namespace Go.Proofs.Ytnfcibcpmaehoaa
open Go.RowKit

set_option maxHeartbeats 1600000 in
theorem muldiv_any (a b z q : Int) (hz : IntKind.i64.wrap (a * b) = z) (hq : IntKind.i64.wrap (Int.tdiv z 4096) = q) (w : World) :
    Calls Try.prog 78 #[.int .i64 a, .int .i64 b, .int .i64 4096] w fun e w' => e = .returned (.int .i64 q) ∧ w = w' := by
  go_enter Try.func78, Try.ntmps78
  go_wp2_with fail
  go_ret
  exact ⟨rfl, rfl⟩
set_option maxHeartbeats 1600000 in
theorem rpay_any (c : Cg) (hc : okC c) (n far d : Int) (n1 : 0 ≤ n) (n2 : n ≤ 1000000) (f1 : 0 ≤ far) (f2 : far ≤ 1000000) (d1 : 0 ≤ d) (d2 : d ≤ 255) (v : Int) (hv : payV c n far d = v) (w : World) :
    Calls Try.prog 62 #[cv c, .int .i64 n, .int .i64 far, .int .i64 d] w fun e w' => e = .returned (.int .i64 v) ∧ Below w.heap.size w w' := by
  have HB := hid (Joins.below_alloc1 w (.cells #[.string c.n, .int .i64 c.r, .int .i64 c.f, .int .i64 c.l] 49))
  obtain ⟨x1, x2, y1, y2, z1, z2, hpv⟩ := rpay_bd hc (d := d) n1 n2 f1 f2
  rw [hv] at hpv
  have hF : max 31 (255 - max 0 (d - c.f) - max 0 (d - c.f - c.l)) = frs c d := by unfold frs; omega
  obtain ⟨_, r1, r2, a1, a2, l1, l2⟩ := hc
  obtain ⟨nm, cr, cf, cl⟩ := c
  dsimp only at *
  clear hv
  obtain ⟨F, hF'⟩ : ∃ F, frs ⟨nm, cr, cf, cl⟩ d = F := ⟨_, rfl⟩
  rw [hF'] at x1 x2 z1 z2 hpv hF
  obtain ⟨x, hx⟩ : ∃ x, cr * F = x := ⟨_, rfl⟩
  rw [hx] at x1 x2 z1 z2 hpv
  obtain ⟨y, hy⟩ : ∃ y, n * far = y := ⟨_, rfl⟩
  rw [hy] at y1 y2 z1 z2 hpv
  obtain ⟨z, hz⟩ : ∃ z, x * y = z := ⟨_, rfl⟩
  rw [hz] at z1 z2 hpv
  obtain ⟨q, hq⟩ : ∃ q, Int.tdiv z 4096 = q := ⟨_, rfl⟩
  rw [hq] at hpv
  obtain ⟨m1, hm1⟩ : ∃ m, max 0 (d - cf) = m := ⟨_, rfl⟩
  obtain ⟨m2, hm2⟩ : ∃ m, max 0 (d - cf - cl) = m := ⟨_, rfl⟩
  rw [hm1, hm2] at hF
  have k1 := max_is hm1
  have k2 := max_is hm2
  have k3 := max_is hF
  have k4 := min_is hpv.symm
  have e1 : IntKind.i64.wrap (d - cf) = d - cf := by rw [IntKind.wrap_i64]; omega
  have e2 : IntKind.i64.wrap (d - cf - cl) = d - cf - cl := by rw [IntKind.wrap_i64]; omega
  have e3 : IntKind.i64.wrap (255 - m1) = 255 - m1 := by rw [IntKind.wrap_i64]; omega
  have e4 : IntKind.i64.wrap (255 - m1 - m2) = 255 - m1 - m2 := by rw [IntKind.wrap_i64]; omega
  have e5 : IntKind.i64.wrap (cr * F) = x := by rw [hx, IntKind.wrap_i64]; omega
  have e6 : IntKind.i64.wrap (n * far) = y := by rw [hy, IntKind.wrap_i64]; omega
  have HM := hid (fun W => muldiv_any x y z q (by rw [hz, IntKind.wrap_i64]; omega) (by rw [hq, IntKind.wrap_i64]; rw [Int.tdiv_eq_ediv_of_nonneg z1] at hq; omega) W)
  clear hx hy hF' hz hq hm1 hm2 hF hpv
  go_enter Try.func62, Try.ntmps62
  go_wp2_with (go_at_call 78; refine (HM.out _).mono ?_; rintro e w' ⟨rfl, rfl⟩)
  go_ret
  exact ⟨rfl, HB.out⟩
theorem cerr_one (c : Cg) : CErr 1 (fun _ => c) = if isC c = true then 0 else 1 := by
  unfold CErr
  rw [if_neg (by decide)]
  cases h : isC c
  · rw [if_pos (anyP_yes (i := 0) (by omega) (by rw [h]; rfl))]; rfl
  · rw [if_neg (by rw [anyP_no (fun j _ => by rw [h]; rfl)]; simp), if_neg (by rw [anyP_no (p := dupC fun _ => c) (fun j hj => anyP_no (fun k hk => by omega))]; simp)]; rfl
theorem one_cg (c : Cg) (w : World) : Cgs (w.alloc (.cells #[.string c.n, .int .i64 c.r, .int .i64 c.f, .int .i64 c.l] 49)) (some ⟨w.heap.size, 0, none⟩) 1 (fun _ => c) := fun j hj => by
  obtain rfl : j = 0 := by omega
  exact ⟨w.heap.size, 0, rfl, by simp, cell_of_row _ _ 0 _ _ _ (heap_new w _), cell_of_row _ _ 1 _ _ _ (heap_new w _), cell_of_row _ _ 2 _ _ _ (heap_new w _), cell_of_row _ _ 3 _ _ _ (heap_new w _)⟩
set_option maxRecDepth 100000 in
set_option maxHeartbeats 3200000 in
theorem refpay_any (c : Cg) (hs : c.n.size ≤ maxLen) (n far d v e : Int) (hr : payR c n far d = (v, e)) (w : World) :
    Calls Try.prog 36 #[cv c, .int .i64 n, .int .i64 far, .int .i64 d] w fun r w' => r = .returned (.tuple #[.int .i64 v, .int .i64 e]) ∧ Below w.heap.size w w' := by
  have H0 := hid (cbox w c)
  obtain ⟨B, hB⟩ : ∃ B, w.heap.size = B := ⟨_, rfl⟩
  have HBW := hid hB
  have HR := hid hr
  have HCE := hid (fun W (hW : Cgs W (some ⟨B + 1, 0, none⟩) 1 (fun _ => c)) => rvcargoes_any (some ⟨B + 1, 0, none⟩) 1 1 (fun _ => c) (fun _ _ => hs) W hW)
  rw [cerr_one] at HCE
  have hcg := one_cg c (w.alloc (.cells #[.string c.n, .int .i64 c.r, .int .i64 c.f, .int .i64 c.l] 49))
  rw [World.size_alloc, hB] at hcg
  have HCG := hid hcg
  have H1 := hid (H0.out.stays (Joins.below_alloc1 _ (.cells #[.string c.n, .int .i64 c.r, .int .i64 c.f, .int .i64 c.l] 49)))
  rw [hB] at H0 H1 ⊢
  clear hr hs hcg hB
  have hBB := HBW.out
  cases qn : isC c
  · skip
    have HQ : Hid (v = 0 ∧ e = 1) := hid (by have h := HR.out; unfold payR at h; rw [if_neg (by simp only [payOk, qn, Bool.false_and]; simp)] at h; cases h; exact ⟨rfl, rfl⟩)
    have HC : Hid (∀ W, Cgs W (some ⟨B + 1, 0, none⟩) 1 (fun _ => c) → Calls Try.prog 20 #[.slice (some ⟨B + 1, 0, none⟩) 1 1] W fun e w' => e = .returned (.int .i64 1) ∧ Below W.heap.size W w') := hid (fun W hW => by have := HCE.out W hW; rw [qn] at this; exact this)
    clear qn HCE
    go_enter Try.func36, Try.ntmps36
    go_wp2_with ((go_at_call 20; refine (HC.out _ HCG.out).mono ?_; rintro e w' ⟨rfl, hb'⟩))
    go_ret2
    exact ⟨by rw [HQ.out.1, HQ.out.2]; rfl, (H1.out.stays hb').b⟩
  · skip
    cases q0 : (decide ((0 : Int) ≤ n) && decide (n ≤ 1000000))
    · have h0 := hid q0
      have HQ : Hid (v = 0 ∧ e = 1) := hid (by have h := HR.out; unfold payR at h; rw [if_neg (by simp only [payOk, qn, q0, Bool.false_and, Bool.and_false]; simp)] at h; cases h; exact ⟨rfl, rfl⟩)
      have HC : Hid (∀ W, Cgs W (some ⟨B + 1, 0, none⟩) 1 (fun _ => c) → Calls Try.prog 20 #[.slice (some ⟨B + 1, 0, none⟩) 1 1] W fun e w' => e = .returned (.int .i64 0) ∧ Below W.heap.size W w') := hid (fun W hW => by have := HCE.out W hW; rw [qn] at this; exact this)
      clear qn q0 HCE
      go_enter Try.func36, Try.ntmps36
      go_wp2_with (first
        | (go_at_call 20; refine (HC.out _ HCG.out).mono ?_; rintro e w' ⟨rfl, hb'⟩)
        | (go_at_call 43; (first | (with_reducible refine (out_any n 1000000 false h0.out _).mono ?_)); rintro e w' ⟨rfl, rfl⟩))
      go_ret2
      exact ⟨by rw [HQ.out.1, HQ.out.2]; rfl, (H1.out.stays hb').b⟩
    · have h0 := hid q0
      cases q1 : (decide ((0 : Int) ≤ far) && decide (far ≤ 1000000))
      · have h1 := hid q1
        have HQ : Hid (v = 0 ∧ e = 1) := hid (by have h := HR.out; unfold payR at h; rw [if_neg (by simp only [payOk, qn, q0, q1, Bool.false_and, Bool.and_false]; simp)] at h; cases h; exact ⟨rfl, rfl⟩)
        have HC : Hid (∀ W, Cgs W (some ⟨B + 1, 0, none⟩) 1 (fun _ => c) → Calls Try.prog 20 #[.slice (some ⟨B + 1, 0, none⟩) 1 1] W fun e w' => e = .returned (.int .i64 0) ∧ Below W.heap.size W w') := hid (fun W hW => by have := HCE.out W hW; rw [qn] at this; exact this)
        clear qn q0 q1 HCE
        go_enter Try.func36, Try.ntmps36
        go_wp2_with (first
          | (go_at_call 20; refine (HC.out _ HCG.out).mono ?_; rintro e w' ⟨rfl, hb'⟩)
          | (go_at_call 43; (first | (with_reducible refine (out_any n 1000000 true h0.out _).mono ?_) | (with_reducible refine (out_any far 1000000 false h1.out _).mono ?_)); rintro e w' ⟨rfl, rfl⟩))
        go_ret2
        exact ⟨by rw [HQ.out.1, HQ.out.2]; rfl, (H1.out.stays hb').b⟩
      · have h1 := hid q1
        cases q2 : (decide ((0 : Int) ≤ d) && decide (d ≤ 255))
        · have h2 := hid q2
          have HQ : Hid (v = 0 ∧ e = 1) := hid (by have h := HR.out; unfold payR at h; rw [if_neg (by simp only [payOk, qn, q0, q1, q2, Bool.and_false]; simp)] at h; cases h; exact ⟨rfl, rfl⟩)
          have HC : Hid (∀ W, Cgs W (some ⟨B + 1, 0, none⟩) 1 (fun _ => c) → Calls Try.prog 20 #[.slice (some ⟨B + 1, 0, none⟩) 1 1] W fun e w' => e = .returned (.int .i64 0) ∧ Below W.heap.size W w') := hid (fun W hW => by have := HCE.out W hW; rw [qn] at this; exact this)
          clear qn q0 q1 q2 HCE
          go_enter Try.func36, Try.ntmps36
          go_wp2_with (first
            | (go_at_call 20; refine (HC.out _ HCG.out).mono ?_; rintro e w' ⟨rfl, hb'⟩)
            | (go_at_call 43; (first | (with_reducible refine (out_any n 1000000 true h0.out _).mono ?_) | (with_reducible refine (out_any far 1000000 true h1.out _).mono ?_) | (with_reducible refine (out_any d 255 false h2.out _).mono ?_)); rintro e w' ⟨rfl, rfl⟩))
          go_ret2
          exact ⟨by rw [HQ.out.1, HQ.out.2]; rfl, (H1.out.stays hb').b⟩
        · have h2 := hid q2
          have HQ : Hid (payV c n far d = v ∧ e = 0) := hid (by have h := HR.out; unfold payR at h; rw [if_pos (by simp only [payOk, qn, q0, q1, q2]; rfl)] at h; cases h; exact ⟨rfl, rfl⟩)
          have HC : Hid (∀ W, Cgs W (some ⟨B + 1, 0, none⟩) 1 (fun _ => c) → Calls Try.prog 20 #[.slice (some ⟨B + 1, 0, none⟩) 1 1] W fun e w' => e = .returned (.int .i64 0) ∧ Below W.heap.size W w') := hid (fun W hW => by have := HCE.out W hW; rw [qn] at this; exact this)
          have HP := hid (fun W => rpay_any c (isC_iff.1 qn) n far d (by simp only [Bool.and_eq_true, decide_eq_true_eq] at q0; omega) (by simp only [Bool.and_eq_true, decide_eq_true_eq] at q0; omega) (by simp only [Bool.and_eq_true, decide_eq_true_eq] at q1; omega) (by simp only [Bool.and_eq_true, decide_eq_true_eq] at q1; omega) (by simp only [Bool.and_eq_true, decide_eq_true_eq] at q2; omega) (by simp only [Bool.and_eq_true, decide_eq_true_eq] at q2; omega) v HQ.out.1 W)
          clear qn q0 q1 q2 HCE
          go_enter Try.func36, Try.ntmps36
          go_wp2_with (first
            | (go_at_call 20; refine (HC.out _ HCG.out).mono ?_; rintro e w' ⟨rfl, hb'⟩; have HC2 := hid (H1.out.stays hb'); have d0 := HC2.out.c0; have d1 := HC2.out.c1; have d2 := HC2.out.c2; have d3 := HC2.out.c3)
            | (go_at_call 62; refine (HP.out _).mono ?_; rintro e w'' ⟨rfl, hb''⟩)
            | (go_at_call 43; (first | (with_reducible refine (out_any n 1000000 true h0.out _).mono ?_) | (with_reducible refine (out_any far 1000000 true h1.out _).mono ?_) | (with_reducible refine (out_any d 255 true h2.out _).mono ?_)); rintro e w' ⟨rfl, rfl⟩))
          go_ret2
          exact ⟨by rw [HQ.out.2]; rfl, (HC2.out.stays hb'').b⟩
set_option maxRecDepth 100000 in
set_option maxHeartbeats 3200000 in
theorem walk_pays (c : Cg) (hs : c.n.size ≤ maxLen) (n far d : Int) (w : World) :
    Calls Try.prog 12 #[cv c, .int .i64 n, .int .i64 far, .int .i64 d] w fun e w' => e = .returned (.bool true) ∧ Below w.heap.size w w' := by
  have H0 := hid (cbox w c)
  obtain ⟨B, hB⟩ : ∃ B, w.heap.size = B := ⟨_, rfl⟩
  rw [hB] at H0 ⊢
  obtain ⟨⟨v, e⟩, hr⟩ : ∃ x, payR c n far d = x := ⟨_, rfl⟩
  have HP1 := hid (fun W => refpay_any c hs n far d v e hr W)
  have HP2 := hid (fun W => progpay_any c hs n far d v e hr W)
  clear hr hs
  go_enter Try.func12, Try.ntmps12
  go_wp2_with fail
  refine (HP1.out _).mono ?_
  rintro e w2 ⟨rfl, hb2⟩
  have HC2 := hid (H0.out.stays hb2)
  have c0 := HC2.out.c0
  have c1 := HC2.out.c1
  have c2 := HC2.out.c2
  have c3 := HC2.out.c3
  clear hb2 H0
  go_wp2_with fail
  refine (HP2.out _).mono ?_
  rintro e w3 ⟨rfl, hb3⟩
  have HC3 := hid (HC2.out.stays hb3)
  clear hb3 HC2 c0 c1 c2 c3
  go_wp2_with fail
  refine (known_any _).mono ?_
  rintro e w4 ⟨rfl, hb4⟩
  have HC4 := hid (HC3.out.stays hb4)
  clear hb4 HC3
  go_wp2_with fail
  go_ret
  exact ⟨rfl, HC4.out.b⟩
end Go.Proofs.Ytnfcibcpmaehoaa
