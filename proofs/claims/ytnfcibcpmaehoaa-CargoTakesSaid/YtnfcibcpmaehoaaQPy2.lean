/-
  The walks of Pay of the program, of known, and of the reference's pay.
-/
import Derived.Test.YtnfcibcpmaehoaaQPay
namespace Go.Proofs.Ytnfcibcpmaehoaa
open Go.RowKit

/-- What Pay answers. -/
def payOk (c : Cg) (n far d : Int) : Bool := isC c && (decide (0 ≤ n) && decide (n ≤ 1000000)) && (decide (0 ≤ far) && decide (far ≤ 1000000)) && (decide (0 ≤ d) && decide (d ≤ 255))
def payR (c : Cg) (n far d : Int) : Int × Int := if payOk c n far d = true then (payV c n far d, 0) else (0, 1)
set_option maxHeartbeats 1600000 in
theorem progpay_any (c : Cg) (hs : c.n.size ≤ maxLen) (n far d v e : Int) (hr : payR c n far d = (v, e)) (w : World) :
    Calls Try.prog 37 #[cv c, .int .i64 n, .int .i64 far, .int .i64 d] w fun r w' => r = .returned (.tuple #[.int .i64 v, .int .i64 e]) ∧ Below w.heap.size w w' := by
  have HB := hid (Joins.below_alloc1 w (.cells #[.string c.n, .int .i64 c.r, .int .i64 c.f, .int .i64 c.l] 49))
  have HR := hid hr
  have HS := hid (fun q (hq : isC c = q) W => iscargo_any c hs q hq W)
  clear hr hs
  cases qn : isC c
  · skip
    have HQ : Hid (v = 0 ∧ e = 1) := hid (by have h := HR.out; unfold payR at h; rw [if_neg (by simp only [payOk, qn, Bool.false_and]; simp)] at h; cases h; exact ⟨rfl, rfl⟩)
    have HC := hid (fun W => HS.out false qn W)
    clear qn
    go_enter Try.func37, Try.ntmps37
    go_wp2_with ((go_at_call 48; refine (HC.out _).mono ?_; rintro e w' ⟨rfl, hb'⟩))
    go_ret2
    exact ⟨by rw [HQ.out.1, HQ.out.2]; rfl, HB.out.trans (hb'.mono (by rw [World.size_alloc]; omega))⟩
  · skip
    cases q0 : (decide ((0 : Int) ≤ n) && decide (n ≤ 1000000))
    · have h0 := hid q0
      have HQ : Hid (v = 0 ∧ e = 1) := hid (by have h := HR.out; unfold payR at h; rw [if_neg (by simp only [payOk, qn, q0, Bool.false_and, Bool.and_false]; simp)] at h; cases h; exact ⟨rfl, rfl⟩)
      have HC := hid (fun W => HS.out true qn W)
      clear qn q0
      go_enter Try.func37, Try.ntmps37
      go_wp2_with (first
        | (go_at_call 48; refine (HC.out _).mono ?_; rintro e w' ⟨rfl, hb'⟩)
        | (go_at_call 63; (first | (with_reducible refine (within_any 0 n 1000000 false h0.out _).mono ?_)); rintro e w' ⟨rfl, rfl⟩))
      go_ret2
      exact ⟨by rw [HQ.out.1, HQ.out.2]; rfl, HB.out.trans (hb'.mono (by rw [World.size_alloc]; omega))⟩
    · have h0 := hid q0
      cases q1 : (decide ((0 : Int) ≤ far) && decide (far ≤ 1000000))
      · have h1 := hid q1
        have HQ : Hid (v = 0 ∧ e = 1) := hid (by have h := HR.out; unfold payR at h; rw [if_neg (by simp only [payOk, qn, q0, q1, Bool.false_and, Bool.and_false]; simp)] at h; cases h; exact ⟨rfl, rfl⟩)
        have HC := hid (fun W => HS.out true qn W)
        clear qn q0 q1
        go_enter Try.func37, Try.ntmps37
        go_wp2_with (first
          | (go_at_call 48; refine (HC.out _).mono ?_; rintro e w' ⟨rfl, hb'⟩)
          | (go_at_call 63; (first | (with_reducible refine (within_any 0 n 1000000 true h0.out _).mono ?_) | (with_reducible refine (within_any 0 far 1000000 false h1.out _).mono ?_)); rintro e w' ⟨rfl, rfl⟩))
        go_ret2
        exact ⟨by rw [HQ.out.1, HQ.out.2]; rfl, HB.out.trans (hb'.mono (by rw [World.size_alloc]; omega))⟩
      · have h1 := hid q1
        cases q2 : (decide ((0 : Int) ≤ d) && decide (d ≤ 255))
        · have h2 := hid q2
          have HQ : Hid (v = 0 ∧ e = 1) := hid (by have h := HR.out; unfold payR at h; rw [if_neg (by simp only [payOk, qn, q0, q1, q2, Bool.and_false]; simp)] at h; cases h; exact ⟨rfl, rfl⟩)
          have HC := hid (fun W => HS.out true qn W)
          clear qn q0 q1 q2
          go_enter Try.func37, Try.ntmps37
          go_wp2_with (first
            | (go_at_call 48; refine (HC.out _).mono ?_; rintro e w' ⟨rfl, hb'⟩)
            | (go_at_call 63; (first | (with_reducible refine (within_any 0 n 1000000 true h0.out _).mono ?_) | (with_reducible refine (within_any 0 far 1000000 true h1.out _).mono ?_) | (with_reducible refine (within_any 0 d 255 false h2.out _).mono ?_)); rintro e w' ⟨rfl, rfl⟩))
          go_ret2
          exact ⟨by rw [HQ.out.1, HQ.out.2]; rfl, HB.out.trans (hb'.mono (by rw [World.size_alloc]; omega))⟩
        · have h2 := hid q2
          have HQ : Hid (payV c n far d = v ∧ e = 0) := hid (by have h := HR.out; unfold payR at h; rw [if_pos (by simp only [payOk, qn, q0, q1, q2]; rfl)] at h; cases h; exact ⟨rfl, rfl⟩)
          have HC := hid (fun W => HS.out true qn W)
          have HP := hid (fun W => pay_any c (isC_iff.1 qn) n far d (by simp only [Bool.and_eq_true, decide_eq_true_eq] at q0; omega) (by simp only [Bool.and_eq_true, decide_eq_true_eq] at q0; omega) (by simp only [Bool.and_eq_true, decide_eq_true_eq] at q1; omega) (by simp only [Bool.and_eq_true, decide_eq_true_eq] at q1; omega) (by simp only [Bool.and_eq_true, decide_eq_true_eq] at q2; omega) (by simp only [Bool.and_eq_true, decide_eq_true_eq] at q2; omega) v HQ.out.1 W)
          clear qn q0 q1 q2
          have h0c := cell_of_row _ w.heap.size 0 _ _ _ (heap_new w (.cells #[.string c.n, .int .i64 c.r, .int .i64 c.f, .int .i64 c.l] 49))
          have h1c := cell_of_row _ w.heap.size 1 _ _ _ (heap_new w (.cells #[.string c.n, .int .i64 c.r, .int .i64 c.f, .int .i64 c.l] 49))
          have h2c := cell_of_row _ w.heap.size 2 _ _ _ (heap_new w (.cells #[.string c.n, .int .i64 c.r, .int .i64 c.f, .int .i64 c.l] 49))
          have h3c := cell_of_row _ w.heap.size 3 _ _ _ (heap_new w (.cells #[.string c.n, .int .i64 c.r, .int .i64 c.f, .int .i64 c.l] 49))
          simp only [List.getElem?_toArray, List.getElem?_cons_zero, List.getElem?_cons_succ] at h0c h1c h2c h3c
          have H0 := hid h0c
          have H1 := hid h1c
          have H2 := hid h2c
          have H3 := hid h3c
          have HL : Hid (w.heap.size < (w.alloc (.cells #[.string c.n, .int .i64 c.r, .int .i64 c.f, .int .i64 c.l] 49)).heap.size) := hid (by simp)
          clear h0c h1c h2c h3c
          go_enter Try.func37, Try.ntmps37
          go_wp2_with (first
            | (go_at_call 48; refine (HC.out _).mono ?_; rintro e w' ⟨rfl, hb'⟩; have d0 := (hb'.cell (p := ⟨w.heap.size, 0, none⟩) HL.out).trans H0.out; have d1 := (hb'.cell (p := ⟨w.heap.size, 1, none⟩) HL.out).trans H1.out; have d2 := (hb'.cell (p := ⟨w.heap.size, 2, none⟩) HL.out).trans H2.out; have d3 := (hb'.cell (p := ⟨w.heap.size, 3, none⟩) HL.out).trans H3.out)
            | (go_at_call 64; refine (HP.out _).mono ?_; rintro e w'' ⟨rfl, hb''⟩)
            | (go_at_call 63; (first | (with_reducible refine (within_any 0 n 1000000 true h0.out _).mono ?_) | (with_reducible refine (within_any 0 far 1000000 true h1.out _).mono ?_) | (with_reducible refine (within_any 0 d 255 true h2.out _).mono ?_)); rintro e w' ⟨rfl, rfl⟩))
          go_ret2
          exact ⟨by rw [HQ.out.2]; rfl, (HB.out.trans (hb'.mono (by rw [World.size_alloc]; omega))).trans (hb''.mono (by have := hb'.size; rw [World.size_alloc] at this; omega))⟩
theorem kc_pay : payR ⟨⟨#[97]⟩, 16, 10, 5⟩ 10 8 12 = (79, 0) := by decide
set_option maxHeartbeats 1600000 in
theorem known_any (w : World) : Calls Try.prog 17 #[] w fun e w' => e = .returned (.bool true) ∧ Below w.heap.size w w' := by
  have HK := hid (fun W => progpay_any ⟨⟨#[97]⟩, 16, 10, 5⟩ (by decide) 10 8 12 79 0 kc_pay W)
  go_enter Try.func17, Try.ntmps17
  go_wp2_with (go_at_call 37; refine (HK.out _).mono ?_; rintro e w' ⟨rfl, hb'⟩)
  go_ret
  exact ⟨rfl, hb'⟩
end Go.Proofs.Ytnfcibcpmaehoaa
