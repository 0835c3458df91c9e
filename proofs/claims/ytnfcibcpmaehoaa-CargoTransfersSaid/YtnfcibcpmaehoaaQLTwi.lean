/-
  The walk of the law CargoTwice.
-/
import Derived.Test.YtnfcibcpmaehoaaQTra
import Derived.Test.YtnfcibcpmaehoaaQSame
namespace Go.Proofs.Ytnfcibcpmaehoaa
open Go.RowKit

theorem TErr.cerr {m : Nat} {C : Nat → Cg} {n : Nat} {P : Nat → Par} {W u : Int} (h : TErr m C n P W u = 0) : CErr m C = 0 := by
  by_cases h1 : CErr m C = 0
  · exact h1
  · rw [TErr.of1 h1] at h; exact absurd h h1
theorem okP_setS {x : Par} (h : okP x) {s : Int} (h1 : 0 ≤ s) (h2 : s ≤ 1000000000000) : okP (setS x s) := ⟨h.c1, h.c2, h.a1, h.a2, h1, h2, h.k1, h.k2, h.f1, h.f2, h.t1, h.t2⟩
theorem trS_bd {m : Nat} {C : Nat → Cg} {n : Nat} {P : Nat → Par} {W u : Int} (h : Trip m C n P W u) {i : Nat} (hi : i < n) : 0 ≤ trS C P W u i ∧ trS C P W u i ≤ 1000000000000 := by
  have h1 := h.pd hi
  have h2 := h.ld.ok i hi
  have h3 := h2.s1
  have h4 := h2.s2
  unfold trS
  omega
/-- Behind a transfer all is right again. -/
theorem TErr.again {m : Nat} {C : Nat → Cg} {n : Nat} {P : Nat → Par} {W u : Int} (h : TErr m C n P W u = 0) : TErr m C n (trP C P W u) W u = 0 := by
  have hT := TErr.trip h
  have hL : Load n (trP C P W u) := ⟨hT.ld.le, fun j hj => by have := trS_bd hT hj; exact okP_setS (hT.ld.ok j hj) this.1 this.2, fun j hj => hT.ld.asc j hj⟩
  rw [TErr.of4 (TErr.cerr h) hL.err (anyP_no (fun j hj => decide_eq_false (by have := hT.kd j hj; show ¬ (m : Int) ≤ (P j).k; omega))) (q := true) (by
    rw [decide_eq_true hT.w1, decide_eq_true hT.w2, decide_eq_true hT.u1, decide_eq_true hT.u2]; rfl)]
  rfl
theorem pdP_tr (C : Nat → Cg) (P : Nat → Par) (W u : Int) (i : Nat) : pdP C (trP C P W u) W u i = pdP C P W u i := rfl
theorem trP_tr (C : Nat → Cg) (P : Nat → Par) (W u : Int) (i : Nat) : trP C (trP C P W u) W u i = trP C P W u i := by
  have h : trS C (trP C P W u) W u i = trS C P W u i := by
    show max (trS C P W u i) (pdP C P W u i) = trS C P W u i
    unfold trS; omega
  show setS (trP C P W u i) (trS C (trP C P W u) W u i) = _
  rw [h]; rfl
theorem grS_tr (C : Nat → Cg) (P : Nat → Par) (W u : Int) : ∀ i, grS C (trP C P W u) W u i = 0
  | 0 => rfl
  | i + 1 => by
    show grS C (trP C P W u) W u i + (trS C (trP C P W u) W u i - (trP C P W u i).s) = 0
    have h : trS C (trP C P W u) W u i = trS C P W u i := by
      show max (trS C P W u i) (pdP C P W u i) = trS C P W u i
      unfold trS; omega
    rw [grS_tr C P W u i, h]
    show 0 + (trS C P W u i - trS C P W u i) = 0
    omega
/-- Which answers Transfer may give. -/
theorem trR_cases (m : Nat) (C : Nat → Cg) (n : Nat) (P : Nat → Par) (W u : Int) : (∃ x, x ≠ 0 ∧ trR m C n P W u = (0, 0, x)) ∨ (TErr m C n P W u = 0 ∧ grS C P W u n ≤ 1000000000000 ∧ trR m C n P W u = (n, grS C P W u n, 0)) := by
  unfold trR
  by_cases h : TErr m C n P W u = 0
  · rw [if_neg (by simpa using h)]
    by_cases h2 : 1000000000000 < grS C P W u n
    · rw [if_pos h2]; exact .inl ⟨10, by decide, rfl⟩
    · rw [if_neg h2]; exact .inr ⟨h, by omega, rfl⟩
  · rw [if_pos h]; exact .inl ⟨_, h, rfl⟩
set_option maxRecDepth 100000 in
set_option maxHeartbeats 3200000 in
theorem walk_twice (co : Option Addr) (m cc : Nat) (C : Nat → Cg) (hs : ∀ j, j < m → (C j).n.size ≤ maxLen) (po : Option Addr) (n pc : Nat) (P : Nat → Par) (W u : Int) (w : World) (hC : Cgs w co m C) (hP : Pars w po n P) :
    Calls Try.prog 16 #[.slice co m cc, .slice po n pc, .int .i64 W, .int .i64 u] w fun e w' => e = .returned (.bool true) ∧ Below w.heap.size w w' := by
  by_cases hm : 1000 < m
  · have hm' : (1000 : Int) < (m : Int) := by omega
    clear hP hC
    go_enter Try.func16, Try.ntmps16
    go_wp2_with fail
    refine (known_any _).mono ?_
    rintro e w2 ⟨rfl, hb2⟩
    go_wp2_with fail
    go_ret
    exact ⟨rfl, hb2⟩
  have hm' : ¬ (1000 : Int) < (m : Int) := by omega
  by_cases hn : 1000 < n
  · have hn' : (1000 : Int) < (n : Int) := by omega
    clear hP hC
    go_enter Try.func16, Try.ntmps16
    go_wp2_with fail
    refine (known_any _).mono ?_
    rintro e w2 ⟨rfl, hb2⟩
    go_wp2_with fail
    go_ret
    exact ⟨rfl, hb2⟩
  have hn' : ¬ (1000 : Int) < (n : Int) := by omega
  obtain ⟨B, hB⟩ : ∃ B, w.heap.size = B := ⟨_, rfl⟩
  have HBW := hid hB
  rcases trR_cases m C n P W u with ⟨x, hx, hr⟩ | ⟨hte, _, hr⟩
  · have hb : (x == 0) = false := by simpa using hx
    have H1 := hid (transfer_any co m cc C hs po n pc P W u 0 0 x hr w hC hP)
    clear hC hP hs hr hm hn hx hB
    go_enter Try.func16, Try.ntmps16
    go_wp2_with fail
    refine H1.out.mono ?_
    rintro e w2 ⟨vo, c, rfl, _, hb2⟩
    go_wp2_with fail
    refine (known_any _).mono ?_
    rintro e w3 ⟨rfl, hb3⟩
    have HB3 := hid (hb2.trans (hb3.mono hb2.size))
    clear hb2 hb3
    go_wp2_with fail
    go_ret
    exact ⟨rfl, HB3.out⟩
  · obtain ⟨gr, hg⟩ : ∃ g, grS C P W u n = g := ⟨_, rfl⟩
    rw [hg] at hr
    have hr2 : trR m C n (trP C P W u) W u = (n, 0, 0) := by
      unfold trR
      rw [TErr.again hte, if_neg (by simp), grS_tr, if_neg (by decide)]
    have H1 := hid (transfer_any co m cc C hs po n pc P W u n gr 0 hr w hC hP)
    have HC : Hid (∀ wr, Below B w wr → Cgs wr co m C) := hid (fun wr hb => hC.stays (by rw [hB]; exact hb))
    have H2 := hid (fun vo c w' (hb : Below B w w') (hrow : Pars w' vo n (trP C P W u)) => transfer_any co m cc C hs vo n c (trP C P W u) W u n 0 0 hr2 w' (HC.out w' hb) hrow)
    have HN : Hid (n ≤ 100000) := hid (by omega)
    rw [hB]
    clear hC hP hs hr hr2 hm hn hg hte hB
    go_enter Try.func16, Try.ntmps16
    go_wp2_with fail
    refine H1.out.mono ?_
    rintro e w2 ⟨vo, c, rfl, hrow, hb2⟩
    rw [HBW.out] at hb2 hrow
    have HB2 := hid hb2
    have HR2 := hid hrow
    clear hb2 hrow H1
    go_wp2_with fail
    refine (H2.out vo c w2 HB2.out (RowP.pars HR2.out)).mono ?_
    rintro e w3 ⟨vo', c', rfl, hrow3, hb3⟩
    have HB3 := hid (HB2.out.trans (hb3.mono (by rw [← HBW.out]; exact HB2.out.size)))
    have HR3 := hid (RowP.congr hrow3 (fun i _ => trP_tr C P W u i))
    have HR4 := hid (row_stays HR2.out hb3)
    clear hb3 hrow3 H2
    go_wp2_with fail
    refine (parcels_same n _ _ _ _ _ w3 HN.out HR4.out HR3.out).mono ?_
    rintro e w4 ⟨rfl, hb4⟩
    have HB4 := hid (HB3.out.trans (hb4.mono (by rw [← HBW.out]; exact HB3.out.size)))
    clear hb4
    go_wp2_with fail
    refine (known_any _).mono ?_
    rintro e w5 ⟨rfl, hb5⟩
    have HB5 := hid (HB4.out.trans (hb5.mono (by rw [← HBW.out]; exact HB4.out.size)))
    clear hb5
    go_wp2_with fail
    go_ret
    exact ⟨rfl, HB5.out⟩
end Go.Proofs.Ytnfcibcpmaehoaa
