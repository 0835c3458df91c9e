/-
  The walks of validateTrip of the program and of judge of the reference.
-/
import Derived.Test.YtnfcibcpmaehoaaQTr1
namespace Go.Proofs.Ytnfcibcpmaehoaa
open Go.RowKit

theorem unknown_any (b : Nat) (co : Option Addr) (m cc : Nat) (p : Par) (w : World) (hb : w.cell? ⟨b, 0, none⟩ = some (.slice co m cc)) :
    Calls Try.prog 84 #[pv p, .pointer (some ⟨b, 0, none⟩)] w fun e w' => e = .returned (.bool (decide ((m : Int) ≤ p.k))) ∧ Below w.heap.size w w' := by
  have HB := hid (Joins.below_alloc1 w (.cells #[.int .i64 p.k, .int .i64 p.f, .int .i64 p.t, .int .i64 p.a, .int .i64 p.c, .int .i64 p.s] 36))
  have hb' := (HB.out.cell (p := ⟨b, 0, none⟩) (lt_of_cell hb)).trans hb
  clear hb
  go_enter Try.func84, Try.ntmps84
  go_wp2_with fail
  go_ret
  exact ⟨rfl, HB.out⟩
theorem TErr.of1 {m : Nat} {C : Nat → Cg} {n : Nat} {P : Nat → Par} {W u : Int} (h : CErr m C ≠ 0) : TErr m C n P W u = CErr m C := by unfold TErr; rw [if_pos h]
theorem TErr.of2 {m : Nat} {C : Nat → Cg} {n : Nat} {P : Nat → Par} {W u : Int} (h1 : CErr m C = 0) (h : LErr n P ≠ 0) : TErr m C n P W u = LErr n P := by unfold TErr; rw [if_neg (by simpa using h1), if_pos h]
theorem TErr.of3 {m : Nat} {C : Nat → Cg} {n : Nat} {P : Nat → Par} {W u : Int} (h1 : CErr m C = 0) (h2 : LErr n P = 0) (h : anyP n (fun i => decide ((m : Int) ≤ (P i).k)) = true) : TErr m C n P W u = 2 := by
  unfold TErr; rw [if_neg (by simpa using h1), if_neg (by simpa using h2), if_pos h]
theorem TErr.of4 {m : Nat} {C : Nat → Cg} {n : Nat} {P : Nat → Par} {W u : Int} (h1 : CErr m C = 0) (h2 : LErr n P = 0) (h3 : anyP n (fun i => decide ((m : Int) ≤ (P i).k)) = false) {q : Bool} (h : ((decide (4 ≤ W) && decide (W ≤ 32)) && (decide (0 ≤ u) && decide (u ≤ 1000000))) = q) : TErr m C n P W u = if q = true then 0 else 1 := by
  unfold TErr; rw [if_neg (by simpa using h1), if_neg (by simpa using h2), if_neg (by rw [h3]; simp), h]
set_option maxRecDepth 100000 in
set_option maxHeartbeats 6400000 in
theorem vtrip_any (co : Option Addr) (m cc : Nat) (C : Nat → Cg) (hs : ∀ j, j < m → (C j).n.size ≤ maxLen) (po : Option Addr) (n pc : Nat) (P : Nat → Par) (W u : Int) (w : World) (hC : Cgs w co m C) (hP : Pars w po n P) :
    Calls Try.prog 67 #[.slice co m cc, .slice po n pc, .int .i64 W, .int .i64 u] w fun e w' => e = .returned (.int .i64 (TErr m C n P W u)) ∧ Below w.heap.size w w' := by
  obtain ⟨B, hB⟩ : ∃ B, w.heap.size = B := ⟨_, rfl⟩
  have HBW := hid hB
  have HP : Hid (∀ wr, Below B w wr → Pars wr po n P) := hid (fun wr hb => hP.stays (by rw [hB]; exact hb))
  have HC : Hid (∀ wr, Below B w wr → Cgs wr co m C) := hid (fun wr hb => hC.stays (by rw [hB]; exact hb))
  have HB1 := hid (Joins.below_alloc1 w (.cells #[.slice co m cc] 23))
  have HX : Hid ((w.alloc (.cells #[.slice co m cc] 23)).heap[B]? = some (.cells #[.slice co m cc] 23 (0, 0))) := hid (by rw [← hB]; exact heap_new _ _)
  rw [hB] at HB1
  have hx := cell_of_row _ B 0 _ _ _ HX.out
  simp only [List.getElem?_toArray, List.getElem?_cons_zero] at hx
  have HXC := hid hx
  have HXL : Hid (B < (w.alloc (.cells #[.slice co m cc] 23)).heap.size) := hid (heap_lt HX.out)
  have HV := hid (fun W (hb : Below B w W) => vcargoes_any co m cc C hs W (HC.out W hb))
  have HL := hid (fun W (hb : Below B w W) => validate_any po n pc P W (HP.out W hb))
  obtain ⟨ce, hce⟩ : ∃ x, CErr m C = x := ⟨_, rfl⟩
  obtain ⟨le, hle⟩ : ∃ x, LErr n P = x := ⟨_, rfl⟩
  obtain ⟨r, hr⟩ : ∃ x, TErr m C n P W u = x := ⟨_, rfl⟩
  rw [hce] at HV
  rw [hle] at HL
  rw [hr, hB]
  have HCE := hid hce
  have HLE := hid hle
  have HR := hid hr
  clear hce hle hr hB hx hC hP hs
  have hBB := HBW.out
  by_cases h1 : ce = 0
  · subst h1
    by_cases h2 : le = 0
    · subst h2
      have hm := (CErr.ok HCE.out).le
      have hn := (LErr.load HLE.out).le
      obtain ⟨q, hq⟩ : ∃ q, anyP n (fun i => decide ((m : Int) ≤ (P i).k)) = q := ⟨_, rfl⟩
      have HQ := hid hq
      have HCON : Hid (∀ W, Below B w W → B < W.heap.size → W.cell? ⟨B, 0, none⟩ = some (.slice co m cc) → Calls Try.prog 76 #[.slice po n pc, .func (.func 84) #[] #[.pointer (some ⟨B, 0, none⟩)]] W (AnyPost q W)) := hid (fun W hW hl hc => by
        rw [← hq]
        exact containsP_any 84 #[.pointer (some ⟨B, 0, none⟩)] (enters_of Try.func84 (by kernel_rfl) rfl) po n pc P (fun i => decide ((m : Int) ≤ (P i).k)) (by omega) W (HP.out W hW) (fun i hi W2 hW2 => unknown_any B co m cc (P i) W2 ((hW2.cell (p := ⟨B, 0, none⟩) hl).trans hc)))
      clear hq hm hn
      cases q
      · obtain ⟨q4, hq4⟩ : ∃ q, ((decide (4 ≤ W) && decide (W ≤ 32)) && (decide (0 ≤ u) && decide (u ≤ 1000000))) = q := ⟨_, rfl⟩
        have HR4 : Hid ((if q4 = true then (0 : Int) else 1) = r) := hid ((TErr.of4 HCE.out HLE.out HQ.out hq4).symm.trans HR.out)
        have hw4 : ∀ (a : Bool), (decide (4 ≤ W) && decide (W ≤ 32)) = a → ∀ b : Bool, (decide (0 ≤ u) && decide (u ≤ 1000000)) = b → (a && b) = q4 := fun a ha b hb => by rw [← ha, ← hb]; exact hq4
        have HW4 := hid hw4
        clear hq4 hw4
        cases qa : (decide (4 ≤ W) && decide (W ≤ 32))
        · have HA := hid qa
          have HRR : Hid (r = 1) := hid (by rw [← HR4.out, ← HW4.out false qa _ rfl]; rfl)
          clear qa
          go_enter Try.func67, Try.ntmps67
          go_wp2_with fail
          refine (HV.out _ HB1.out).mono ?_
          rintro e w2 ⟨rfl, hb2⟩
          have HB2 := hid (HB1.out.trans (hb2.mono (Nat.le_of_lt HXL.out)))
          have HX2 := hid ((hb2.cell (p := ⟨B, 0, none⟩) HXL.out).trans HXC.out)
          have HL2 := hid (Nat.lt_of_lt_of_le HXL.out hb2.size)
          clear hb2
          go_wp2_with fail
          refine (HL.out _ HB2.out).mono ?_
          rintro e w3 ⟨rfl, hb3⟩
          have HB3 := hid (HB2.out.trans (hb3.mono (Nat.le_of_lt HL2.out)))
          have HX3 := hid ((hb3.cell (p := ⟨B, 0, none⟩) HL2.out).trans HX2.out)
          have HL3 := hid (Nat.lt_of_lt_of_le HL2.out hb3.size)
          clear hb3
          go_wp2_with fail
          refine (HCON.out _ HB3.out HL3.out HX3.out).mono ?_
          rintro e w4 ⟨rfl, hb4⟩
          have HB5 := hid (HB3.out.trans (hb4.mono (Nat.le_of_lt HL3.out)))
          clear hb4
          go_wp2_with (go_at_call 63; refine (within_any 4 W 32 false HA.out _).mono ?_; rintro e w' ⟨rfl, rfl⟩)
          go_ret
          exact ⟨by rw [HRR.out]; rfl, HB5.out⟩
        · have HA := hid qa
          cases qb : (decide (0 ≤ u) && decide (u ≤ 1000000))
          · have HBB := hid qb
            have HRR : Hid (r = 1) := hid (by rw [← HR4.out, ← HW4.out true qa false qb]; rfl)
            clear qa qb
            go_enter Try.func67, Try.ntmps67
            go_wp2_with fail
            refine (HV.out _ HB1.out).mono ?_
            rintro e w2 ⟨rfl, hb2⟩
            have HB2 := hid (HB1.out.trans (hb2.mono (Nat.le_of_lt HXL.out)))
            have HX2 := hid ((hb2.cell (p := ⟨B, 0, none⟩) HXL.out).trans HXC.out)
            have HL2 := hid (Nat.lt_of_lt_of_le HXL.out hb2.size)
            clear hb2
            go_wp2_with fail
            refine (HL.out _ HB2.out).mono ?_
            rintro e w3 ⟨rfl, hb3⟩
            have HB3 := hid (HB2.out.trans (hb3.mono (Nat.le_of_lt HL2.out)))
            have HX3 := hid ((hb3.cell (p := ⟨B, 0, none⟩) HL2.out).trans HX2.out)
            have HL3 := hid (Nat.lt_of_lt_of_le HL2.out hb3.size)
            clear hb3
            go_wp2_with fail
            refine (HCON.out _ HB3.out HL3.out HX3.out).mono ?_
            rintro e w4 ⟨rfl, hb4⟩
            have HB5 := hid (HB3.out.trans (hb4.mono (Nat.le_of_lt HL3.out)))
            clear hb4
            go_wp2_with (go_at_call 63; (first | (with_reducible refine (within_any 4 W 32 true HA.out _).mono ?_) | (with_reducible refine (within_any 0 u 1000000 false HBB.out _).mono ?_)); rintro e w' ⟨rfl, rfl⟩)
            go_ret
            exact ⟨by rw [HRR.out]; rfl, HB5.out⟩
          · have HBB := hid qb
            have HRR : Hid (r = 0) := hid (by rw [← HR4.out, ← HW4.out true qa true qb]; rfl)
            clear qa qb
            go_enter Try.func67, Try.ntmps67
            go_wp2_with fail
            refine (HV.out _ HB1.out).mono ?_
            rintro e w2 ⟨rfl, hb2⟩
            have HB2 := hid (HB1.out.trans (hb2.mono (Nat.le_of_lt HXL.out)))
            have HX2 := hid ((hb2.cell (p := ⟨B, 0, none⟩) HXL.out).trans HXC.out)
            have HL2 := hid (Nat.lt_of_lt_of_le HXL.out hb2.size)
            clear hb2
            go_wp2_with fail
            refine (HL.out _ HB2.out).mono ?_
            rintro e w3 ⟨rfl, hb3⟩
            have HB3 := hid (HB2.out.trans (hb3.mono (Nat.le_of_lt HL2.out)))
            have HX3 := hid ((hb3.cell (p := ⟨B, 0, none⟩) HL2.out).trans HX2.out)
            have HL3 := hid (Nat.lt_of_lt_of_le HL2.out hb3.size)
            clear hb3
            go_wp2_with fail
            refine (HCON.out _ HB3.out HL3.out HX3.out).mono ?_
            rintro e w4 ⟨rfl, hb4⟩
            have HB5 := hid (HB3.out.trans (hb4.mono (Nat.le_of_lt HL3.out)))
            clear hb4
            go_wp2_with (go_at_call 63; (first | (with_reducible refine (within_any 4 W 32 true HA.out _).mono ?_) | (with_reducible refine (within_any 0 u 1000000 true HBB.out _).mono ?_)); rintro e w' ⟨rfl, rfl⟩)
            go_ret
            exact ⟨by rw [HRR.out]; rfl, HB5.out⟩
      · have HRR : Hid (r = 2) := hid (HR.out.symm.trans (TErr.of3 HCE.out HLE.out HQ.out))
        go_enter Try.func67, Try.ntmps67
        go_wp2_with fail
        refine (HV.out _ HB1.out).mono ?_
        rintro e w2 ⟨rfl, hb2⟩
        have HB2 := hid (HB1.out.trans (hb2.mono (Nat.le_of_lt HXL.out)))
        have HX2 := hid ((hb2.cell (p := ⟨B, 0, none⟩) HXL.out).trans HXC.out)
        have HL2 := hid (Nat.lt_of_lt_of_le HXL.out hb2.size)
        clear hb2
        go_wp2_with fail
        refine (HL.out _ HB2.out).mono ?_
        rintro e w3 ⟨rfl, hb3⟩
        have HB3 := hid (HB2.out.trans (hb3.mono (Nat.le_of_lt HL2.out)))
        have HX3 := hid ((hb3.cell (p := ⟨B, 0, none⟩) HL2.out).trans HX2.out)
        have HL3 := hid (Nat.lt_of_lt_of_le HL2.out hb3.size)
        clear hb3
        go_wp2_with fail
        refine (HCON.out _ HB3.out HL3.out HX3.out).mono ?_
        rintro e w4 ⟨rfl, hb4⟩
        have HB5 := hid (HB3.out.trans (hb4.mono (Nat.le_of_lt HL3.out)))
        clear hb4
        go_wp2_with fail
        go_ret
        exact ⟨by rw [HRR.out]; rfl, HB5.out⟩
    · have hb : (le == 0) = false := by simpa using h2
      have HRR : Hid (r = le) := hid (HR.out.symm.trans ((TErr.of2 HCE.out (by rw [HLE.out]; exact h2)).trans HLE.out))
      go_enter Try.func67, Try.ntmps67
      go_wp2_with fail
      refine (HV.out _ HB1.out).mono ?_
      rintro e w2 ⟨rfl, hb2⟩
      have HB2 := hid (HB1.out.trans (hb2.mono (Nat.le_of_lt HXL.out)))
      clear hb2
      go_wp2_with fail
      refine (HL.out _ HB2.out).mono ?_
      rintro e w3 ⟨rfl, hb3⟩
      have HB3 := hid (HB2.out.trans (hb3.mono (by rw [← HBW.out]; exact HB2.out.size)))
      clear hb3
      go_wp2_with fail
      go_ret
      exact ⟨by rw [HRR.out]; rfl, HB3.out⟩
  · have hb : (ce == 0) = false := by simpa using h1
    have HRR : Hid (r = ce) := hid (HR.out.symm.trans ((TErr.of1 (by rw [HCE.out]; exact h1)).trans HCE.out))
    go_enter Try.func67, Try.ntmps67
    go_wp2_with fail
    refine (HV.out _ HB1.out).mono ?_
    rintro e w2 ⟨rfl, hb2⟩
    have HB2 := hid (HB1.out.trans (hb2.mono (Nat.le_of_lt HXL.out)))
    clear hb2
    go_wp2_with fail
    go_ret
    exact ⟨by rw [HRR.out]; rfl, HB2.out⟩
set_option maxRecDepth 100000 in
set_option maxHeartbeats 6400000 in
theorem judge_any (co : Option Addr) (m cc : Nat) (C : Nat → Cg) (hs : ∀ j, j < m → (C j).n.size ≤ maxLen) (po : Option Addr) (n pc : Nat) (P : Nat → Par) (W u : Int) (w : World) (hC : Cgs w co m C) (hP : Pars w po n P) :
    Calls Try.prog 65 #[.slice co m cc, .slice po n pc, .int .i64 W, .int .i64 u] w fun e w' => e = .returned (.int .i64 (TErr m C n P W u)) ∧ Below w.heap.size w w' := by
  obtain ⟨B, hB⟩ : ∃ B, w.heap.size = B := ⟨_, rfl⟩
  have HBW := hid hB
  have HP : Hid (∀ wr, Below B w wr → Pars wr po n P) := hid (fun wr hb => hP.stays (by rw [hB]; exact hb))
  have HC : Hid (∀ wr, Below B w wr → Cgs wr co m C) := hid (fun wr hb => hC.stays (by rw [hB]; exact hb))
  have HV := hid (fun W (hb : Below B w W) => rvcargoes_any co m cc C hs W (HC.out W hb))
  have HL := hid (fun W (hb : Below B w W) => rvalidate_any po n pc P W (HP.out W hb))
  obtain ⟨ce, hce⟩ : ∃ x, CErr m C = x := ⟨_, rfl⟩
  obtain ⟨le, hle⟩ : ∃ x, LErr n P = x := ⟨_, rfl⟩
  obtain ⟨r, hr⟩ : ∃ x, TErr m C n P W u = x := ⟨_, rfl⟩
  rw [hce] at HV
  rw [hle] at HL
  rw [hr, hB]
  have HCE := hid hce
  have HLE := hid hle
  have HR := hid hr
  clear hce hle hr hB hC hP hs
  by_cases h1 : ce = 0
  · subst h1
    by_cases h2 : le = 0
    · subst h2
      have hm := (CErr.ok HCE.out).le
      have hn := (LErr.load HLE.out).le
      go_enter Try.func65, Try.ntmps65
      go_wp2_with fail
      refine (HV.out _ (Below.refl _ _)).mono ?_
      rintro e w2 ⟨rfl, hb2⟩
      rw [HBW.out] at hb2
      have HB2 := hid hb2
      clear hb2
      go_wp2_with fail
      refine (HL.out _ HB2.out).mono ?_
      rintro e w3 ⟨rfl, hb3⟩
      have HB3 := hid (HB2.out.trans (hb3.mono (by rw [← HBW.out]; exact HB2.out.size)))
      clear hb3
      go_wp2_with fail
      go_loop [11] (fun iv => ∃ i : Nat, i ≤ n ∧ iv = .int .i64 i ∧ Hid (∀ j, j < i → decide ((m : Int) ≤ (P j).k) = false)) (fun iv => n - (intOf iv).toNat)
      case atStart => exact ⟨0, Nat.zero_le _, rfl, hid (fun j hj => absurd hj (Nat.not_lt_zero _))⟩
      case round =>
        obtain ⟨i, hi, rfl, HI⟩ := hrel
        by_cases hlt : i < n
        · obtain ⟨b, off, e, hbl, a0, _⟩ := (HP.out _ HB3.out) i hlt
          subst e
          obtain ⟨k, hk⟩ : ∃ k, (P i).k = k := ⟨_, rfl⟩
          rw [hk] at a0
          have HK := hid hk
          clear hk
          by_cases hmk : (m : Int) ≤ k
          · have HRR : Hid (r = 2) := hid (HR.out.symm.trans (TErr.of3 HCE.out HLE.out (anyP_yes hlt (by rw [HK.out]; exact decide_eq_true hmk))))
            go_wp2_with fail
            go_ret
            exact ⟨by rw [HRR.out]; rfl, HB3.out⟩
          · have HD := hid (snoc_no HI.out (show decide ((m : Int) ≤ (P i).k) = false by rw [HK.out]; exact decide_eq_false hmk))
            go_wp2_with fail
            go_round
            case rel => exact ⟨i + 1, by omega, by go_num, HD⟩
            case measure => simp [intOf]; omega
        · obtain rfl : n = i := by omega
          have H4 : Hid (∀ q : Bool, ((decide (4 ≤ W) && decide (W ≤ 32)) && (decide (0 ≤ u) && decide (u ≤ 1000000))) = q → (if q = true then (0 : Int) else 1) = r) := hid (fun q hq => (TErr.of4 HCE.out HLE.out (anyP_no HI.out) hq).symm.trans HR.out)
          clear HI
          by_cases c1 : W < 4
          · have HRR : Hid (r = 1) := hid (H4.out false (by rw [decide_eq_false (show ¬ 4 ≤ W by omega)]; rfl)).symm
            go_wp2_with fail
            go_ret
            exact ⟨by rw [HRR.out]; rfl, HB3.out⟩
          by_cases c2 : 32 < W
          · have HRR : Hid (r = 1) := hid (H4.out false (by rw [decide_eq_false (show ¬ W ≤ 32 by omega), Bool.and_false]; rfl)).symm
            go_wp2_with fail
            go_ret
            exact ⟨by rw [HRR.out]; rfl, HB3.out⟩
          cases qb : (decide (0 ≤ u) && decide (u ≤ 1000000))
          · have HRR : Hid (r = 1) := hid (H4.out false (by rw [qb, Bool.and_false])).symm
            have HBB := hid qb
            clear qb
            go_wp2_with (go_at_call 43; refine (out_any u 1000000 false HBB.out _).mono ?_; rintro e w' ⟨rfl, rfl⟩)
            go_ret
            exact ⟨by rw [HRR.out]; rfl, HB3.out⟩
          · have HRR : Hid (r = 0) := hid (H4.out true (by rw [qb, decide_eq_true (show 4 ≤ W by omega), decide_eq_true (show W ≤ 32 by omega)]; rfl)).symm
            have HBB := hid qb
            clear qb
            go_wp2_with (go_at_call 43; refine (out_any u 1000000 true HBB.out _).mono ?_; rintro e w' ⟨rfl, rfl⟩)
            go_ret
            exact ⟨by rw [HRR.out]; rfl, HB3.out⟩
    · have hb : (le == 0) = false := by simpa using h2
      have HRR : Hid (r = le) := hid (HR.out.symm.trans ((TErr.of2 HCE.out (by rw [HLE.out]; exact h2)).trans HLE.out))
      go_enter Try.func65, Try.ntmps65
      go_wp2_with fail
      refine (HV.out _ (Below.refl _ _)).mono ?_
      rintro e w2 ⟨rfl, hb2⟩
      rw [HBW.out] at hb2
      have HB2 := hid hb2
      clear hb2
      go_wp2_with fail
      refine (HL.out _ HB2.out).mono ?_
      rintro e w3 ⟨rfl, hb3⟩
      have HB3 := hid (HB2.out.trans (hb3.mono (by rw [← HBW.out]; exact HB2.out.size)))
      clear hb3
      go_wp2_with fail
      go_ret
      exact ⟨by rw [HRR.out]; rfl, HB3.out⟩
  · have hb : (ce == 0) = false := by simpa using h1
    have HRR : Hid (r = ce) := hid (HR.out.symm.trans ((TErr.of1 (by rw [HCE.out]; exact h1)).trans HCE.out))
    go_enter Try.func65, Try.ntmps65
    go_wp2_with fail
    refine (HV.out _ (Below.refl _ _)).mono ?_
    rintro e w2 ⟨rfl, hb2⟩
    rw [HBW.out] at hb2
    go_wp2_with fail
    go_ret
    exact ⟨by rw [HRR.out]; rfl, hb2⟩
end Go.Proofs.Ytnfcibcpmaehoaa
