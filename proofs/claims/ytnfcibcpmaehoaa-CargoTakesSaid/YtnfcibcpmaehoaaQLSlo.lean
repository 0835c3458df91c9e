/-
  The walk of the law CargoSlower.
-/
import Derived.Test.YtnfcibcpmaehoaaQPy2
namespace Go.Proofs.Ytnfcibcpmaehoaa
open Go.RowKit

/-- Behind calls that began with a cargo's new box: what the box holds, and that nothing below has turned. -/
structure CBox (B : Nat) (c : Cg) (w w' : World) : Prop where
  b : Below B w w'
  s : B < w'.heap.size
  c0 : w'.cell? ⟨B, 0, none⟩ = some (.string c.n)
  c1 : w'.cell? ⟨B, 1, none⟩ = some (.int .i64 c.r)
  c2 : w'.cell? ⟨B, 2, none⟩ = some (.int .i64 c.f)
  c3 : w'.cell? ⟨B, 3, none⟩ = some (.int .i64 c.l)
theorem CBox.stays {B : Nat} {c : Cg} {w w' w2 : World} (h : CBox B c w w') (k : Below w'.heap.size w' w2) : CBox B c w w2 :=
  ⟨h.b.trans (k.mono (Nat.le_of_lt h.s)), Nat.lt_of_lt_of_le h.s k.size, (k.cell (p := ⟨B, 0, none⟩) h.s).trans h.c0, (k.cell (p := ⟨B, 1, none⟩) h.s).trans h.c1, (k.cell (p := ⟨B, 2, none⟩) h.s).trans h.c2, (k.cell (p := ⟨B, 3, none⟩) h.s).trans h.c3⟩
theorem cbox (w : World) (c : Cg) : CBox w.heap.size c w (w.alloc (.cells #[.string c.n, .int .i64 c.r, .int .i64 c.f, .int .i64 c.l] 49)) :=
  ⟨(Below.refl _ _).alloc (Nat.le_refl _) _, by simp, cell_of_row _ _ 0 _ _ _ (heap_new w _), cell_of_row _ _ 1 _ _ _ (heap_new w _), cell_of_row _ _ 2 _ _ _ (heap_new w _), cell_of_row _ _ 3 _ _ _ (heap_new w _)⟩
theorem payR_cases (c : Cg) (n far d : Int) : payR c n far d = (0, 1) ∨ (payR c n far d = (payV c n far d, 0) ∧ okC c ∧ 0 ≤ n ∧ n ≤ 1000000 ∧ 0 ≤ far ∧ far ≤ 1000000 ∧ 0 ≤ d ∧ d ≤ 255) := by
  unfold payR
  cases h : payOk c n far d
  · exact .inl (by simp)
  · refine .inr ⟨by simp, ?_⟩
    simp only [payOk, Bool.and_eq_true, decide_eq_true_eq] at h
    exact ⟨isC_iff.1 h.1.1.1, h.1.1.2.1, h.1.1.2.2, h.1.2.1, h.1.2.2, h.2.1, h.2.2⟩
set_option maxRecDepth 100000 in
set_option maxHeartbeats 3200000 in
theorem walk_slower (c : Cg) (hs : c.n.size ≤ maxLen) (n far d n' far' d' : Int) (w : World) :
    Calls Try.prog 13 #[cv c, .int .i64 n, .int .i64 far, .int .i64 d, .int .i64 n', .int .i64 far', .int .i64 d'] w fun e w' => e = .returned (.bool true) ∧ Below w.heap.size w w' := by
  have H0 := hid (cbox w c)
  obtain ⟨B, hB⟩ : ∃ B, w.heap.size = B := ⟨_, rfl⟩
  rw [hB] at H0 ⊢
  rcases payR_cases c n far d with h1 | ⟨h1, hc, n1, n2, f1, f2, d1, d2⟩
  · rcases payR_cases c n' far' d' with h2 | ⟨h2, _⟩
    all_goals
      have HP1 := hid (fun W => progpay_any c hs n far d _ _ h1 W)
      have HP2 := hid (fun W => progpay_any c hs n' far' d' _ _ h2 W)
      clear h1 h2 hs
      go_enter Try.func13, Try.ntmps13
      go_wp2_with fail
      refine (HP1.out _).mono ?_
      rintro e w2 ⟨rfl, hb2⟩
      have HC2 := hid (H0.out.stays hb2)
      have c0 := HC2.out.c0
      have c1 := HC2.out.c1
      have c2 := HC2.out.c2
      have c3 := HC2.out.c3
      clear hb2 H0
      go_wp2_with fail
      refine (HP2.out _).mono ?_
      rintro e w3 ⟨rfl, hb3⟩
      have HC3 := hid (HC2.out.stays hb3)
      clear hb3 HC2 c0 c1 c2 c3
      go_wp2_with fail
      refine (known_any _).mono ?_
      rintro e w4 ⟨rfl, hb4⟩
      have HC4 := hid (HC3.out.stays hb4)
      clear hb4 HC3
      go_wp2_with fail
      go_ret
      exact ⟨rfl, HC4.out.b⟩
  · rcases payR_cases c n' far' d' with h2 | ⟨h2, _, m1, m2, g1, g2, e1, e2⟩
    · have HP1 := hid (fun W => progpay_any c hs n far d _ _ h1 W)
      have HP2 := hid (fun W => progpay_any c hs n' far' d' _ _ h2 W)
      obtain ⟨v, hv⟩ : ∃ v, payV c n far d = v := ⟨_, rfl⟩
      rw [hv] at HP1
      clear h1 h2 hs hc n1 n2 f1 f2 d1 d2 hv
      go_enter Try.func13, Try.ntmps13
      go_wp2_with fail
      refine (HP1.out _).mono ?_
      rintro e w2 ⟨rfl, hb2⟩
      have HC2 := hid (H0.out.stays hb2)
      have c0 := HC2.out.c0
      have c1 := HC2.out.c1
      have c2 := HC2.out.c2
      have c3 := HC2.out.c3
      clear hb2 H0
      go_wp2_with fail
      refine (HP2.out _).mono ?_
      rintro e w3 ⟨rfl, hb3⟩
      have HC3 := hid (HC2.out.stays hb3)
      clear hb3 HC2 c0 c1 c2 c3
      go_wp2_with fail
      refine (known_any _).mono ?_
      rintro e w4 ⟨rfl, hb4⟩
      have HC4 := hid (HC3.out.stays hb4)
      clear hb4 HC3
      go_wp2_with fail
      go_ret
      exact ⟨rfl, HC4.out.b⟩
    · have HP1 := hid (fun W => progpay_any c hs n far d _ _ h1 W)
      have HP2 := hid (fun W => progpay_any c hs n' far' d' _ _ h2 W)
      obtain ⟨v, hv⟩ : ∃ v, payV c n far d = v := ⟨_, rfl⟩
      obtain ⟨v', hv'⟩ : ∃ v, payV c n' far' d' = v := ⟨_, rfl⟩
      have HM : Hid (n' ≤ n → far' ≤ far → d ≤ d' → v' ≤ v) := hid (fun a b k => by rw [← hv, ← hv']; exact payV_mono hc m1 a g1 b k)
      rw [hv] at HP1
      rw [hv'] at HP2
      clear h1 h2 hs hc n1 n2 f1 f2 d1 d2 hv hv' m1 m2 g1 g2 e1 e2
      by_cases q1 : n < n'
      · go_enter Try.func13, Try.ntmps13
        go_wp2_with fail
        refine (HP1.out _).mono ?_
        rintro e w2 ⟨rfl, hb2⟩
        have HC2 := hid (H0.out.stays hb2)
        have c0 := HC2.out.c0
        have c1 := HC2.out.c1
        have c2 := HC2.out.c2
        have c3 := HC2.out.c3
        clear hb2 H0
        go_wp2_with fail
        refine (HP2.out _).mono ?_
        rintro e w3 ⟨rfl, hb3⟩
        have HC3 := hid (HC2.out.stays hb3)
        clear hb3 HC2 c0 c1 c2 c3
        go_wp2_with fail
        refine (known_any _).mono ?_
        rintro e w4 ⟨rfl, hb4⟩
        have HC4 := hid (HC3.out.stays hb4)
        clear hb4 HC3
        go_wp2_with fail
        go_ret
        exact ⟨rfl, HC4.out.b⟩
      by_cases q2 : far < far'
      · go_enter Try.func13, Try.ntmps13
        go_wp2_with fail
        refine (HP1.out _).mono ?_
        rintro e w2 ⟨rfl, hb2⟩
        have HC2 := hid (H0.out.stays hb2)
        have c0 := HC2.out.c0
        have c1 := HC2.out.c1
        have c2 := HC2.out.c2
        have c3 := HC2.out.c3
        clear hb2 H0
        go_wp2_with fail
        refine (HP2.out _).mono ?_
        rintro e w3 ⟨rfl, hb3⟩
        have HC3 := hid (HC2.out.stays hb3)
        clear hb3 HC2 c0 c1 c2 c3
        go_wp2_with fail
        refine (known_any _).mono ?_
        rintro e w4 ⟨rfl, hb4⟩
        have HC4 := hid (HC3.out.stays hb4)
        clear hb4 HC3
        go_wp2_with fail
        go_ret
        exact ⟨rfl, HC4.out.b⟩
      by_cases q3 : d' < d
      · go_enter Try.func13, Try.ntmps13
        go_wp2_with fail
        refine (HP1.out _).mono ?_
        rintro e w2 ⟨rfl, hb2⟩
        have HC2 := hid (H0.out.stays hb2)
        have c0 := HC2.out.c0
        have c1 := HC2.out.c1
        have c2 := HC2.out.c2
        have c3 := HC2.out.c3
        clear hb2 H0
        go_wp2_with fail
        refine (HP2.out _).mono ?_
        rintro e w3 ⟨rfl, hb3⟩
        have HC3 := hid (HC2.out.stays hb3)
        clear hb3 HC2 c0 c1 c2 c3
        go_wp2_with fail
        refine (known_any _).mono ?_
        rintro e w4 ⟨rfl, hb4⟩
        have HC4 := hid (HC3.out.stays hb4)
        clear hb4 HC3
        go_wp2_with fail
        go_ret
        exact ⟨rfl, HC4.out.b⟩
      · have hle : v' ≤ v := HM.out (by omega) (by omega) (by omega)
        go_enter Try.func13, Try.ntmps13
        go_wp2_with fail
        refine (HP1.out _).mono ?_
        rintro e w2 ⟨rfl, hb2⟩
        have HC2 := hid (H0.out.stays hb2)
        have c0 := HC2.out.c0
        have c1 := HC2.out.c1
        have c2 := HC2.out.c2
        have c3 := HC2.out.c3
        clear hb2 H0
        go_wp2_with fail
        refine (HP2.out _).mono ?_
        rintro e w3 ⟨rfl, hb3⟩
        have HC3 := hid (HC2.out.stays hb3)
        clear hb3 HC2 c0 c1 c2 c3
        go_wp2_with fail
        refine (known_any _).mono ?_
        rintro e w4 ⟨rfl, hb4⟩
        have HC4 := hid (HC3.out.stays hb4)
        clear hb4 HC3
        go_wp2_with fail
        go_ret
        exact ⟨rfl, HC4.out.b⟩
end Go.Proofs.Ytnfcibcpmaehoaa
