/-
  The walk of the law that a river falls.
-/
import Derived.Test.YtngamphkehppfaaFall
namespace Go.Proofs.Ytngamphkehppfaa
open Go.RowKit

set_option maxRecDepth 20000 in
set_option maxHeartbeats 6400000 in
theorem fall_ok (W H : Nat) (ao : Option Addr) (n cap : Nat) (Z : Nat → Int) (hg : Good W H n Z) (u : Nat) (hu : u < W * H) (w : World) (hI : Ints w ao n Z) :
    Calls Try.prog 9 #[lv W H (.slice ao n cap), .int .i64 u] w fun r w' => r = .returned (.bool true) ∧ Below w.heap.size w w' := by
  obtain ⟨m, hm, hr⟩ := riv_ex hg hu
  have HL := hid (lb_start (W := W) (H := H) (cap := cap) hI)
  have HG := hid hg
  have HU := hid hu
  have HR := hid hr
  obtain ⟨hW1, hW2, hH1, hH2⟩ := hg.side
  have hlb := hg.shaped.bound
  have HLT := hid (fun k => rvr_lt (Z := Z) hu k)
  have hms := mul_small hW2 hH2
  have hm0 : ((m : Int) + 1 == 0) = false := by simp; omega
  clear hI hg hu hr
  go_enter Try.func9, Try.ntmps9
  go_wp2_with fail
  refine (river_ok W H ao n cap Z HG.out u HU.out m hm HR.out _ HL.out.ints).mono ?_
  rintro r w1 ⟨v, rfl, hrow, hb1⟩
  obtain ⟨g, c, rfl, _, _⟩ := hrow.form (by omega)
  have HF := hid (show FS W H ao n cap Z g (m + 1) (rvI W H Z u) w w1 from ⟨HL.out.stays hb1, ints_of_row hrow⟩)
  have c0 := HF.out.lb.c0
  have c1 := HF.out.lb.c1
  have c2 := HF.out.lb.c2
  clear hb1 hrow HL
  go_wp2_with fail
  refine (large0_no W H ao n cap (by omega) _).mono ?_
  rintro r w2 ⟨rfl, hb2⟩
  have HF2 := hid (HF.out.stays hb2)
  have d0 := HF2.out.at (i := 0) (by omega)
  have e0 : rvI W H Z u 0 = (u : Int) := rfl
  rw [e0] at d0
  clear hb2 HF e0 c0 c1 c2
  go_wp2_with fail
  obtain ⟨B, hB⟩ : ∃ B, B = w.heap.size := ⟨_, rfl⟩
  simp only [← hB]
  have HBB := hid hB
  clear hB d0
  go_loopw [40] (fun iv wr => ∃ i : Nat, i ≤ m + 1 ∧ iv = .int .i64 i ∧ Hid (FS W H ao n cap Z g (m + 1) (rvI W H Z u) w wr)) (fun iv _ => m + 1 - (intOf iv).toNat)
  case atStart => exact ⟨0, Nat.zero_le _, rfl, HF2⟩
  case round =>
    obtain ⟨i, hi, rfl, hS⟩ := hrel
    clear HF2
    by_cases hlt : i < m + 1
    · have d0 := hS.out.at hlt
      obtain ⟨t, ht⟩ : ∃ t, rvr W H Z u i = t := ⟨_, rfl⟩
      have htl : t < W * H := by rw [← ht]; exact HLT.out i
      have et : rvI W H Z u i = (t : Int) := by show ((rvr W H Z u i : Nat) : Int) = t; rw [ht]
      rw [et] at d0
      have HT := hid ht
      have HTL := hid htl
      have HTY := hid (tile_yes htl)
      have HIT := hid (And.intro hlt et)
      have ht2 : t ≤ 1024 := by omega
      have c0 := hS.out.lb.c0
      have c1 := hS.out.lb.c1
      have c2 := hS.out.lb.c2
      rw [← HBB.out] at c0 c1 c2
      have hi1 : (i : Int) < ((m : Int) + 1) := by omega
      clear ht htl et
      go_wp2_with fail
      refine (is_any W H hW2 hH2 _ t _).mono ?_
      rw [HTY.out]
      rintro e w3 ⟨rfl, hw3⟩
      have HS3 := hid (hS.out.stays (Joins.below_alloc1 wr (.cells #[.int .i64 W, .int .i64 H, .slice ao n cap] 24)))
      rw [hw3] at HS3
      clear hw3 c0 c1 c2 d0
      go_wp2_with fail
      go_loopw [9, 10, 54] (fun lo nx iv wr => ∃ (j : Nat) (nb : Bool), j ≤ 4 ∧ iv = .int .i64 j ∧ lo = .bool (lwB W H Z t j) ∧ nx = .bool nb ∧ Hid (FS W H ao n cap Z g (m + 1) (rvI W H Z u) w wr) ∧ Hid (NxOk W H Z t i m j nb)) (fun _ _ iv _ => 4 - (intOf iv).toNat)
      case atStart => exact ⟨0, _, by omega, rfl, by rw [lwB_zero], rfl, HS3, hid (NxOk.start _ _ _ _ _ _)⟩
      case round =>
        obtain ⟨j, nb, hj, rfl, rfl, rfl, hQ, hN⟩ := hrel
        clear HS3
        obtain ⟨lb, hlw⟩ : ∃ lb, lwB W H Z t j = lb := ⟨_, rfl⟩
        rw [hlw]
        have HLB := hid hlw
        clear hlw
        by_cases hlt4 : j < 4
        · have c0 := hQ.out.lb.c0
          have c1 := hQ.out.lb.c1
          have c2 := hQ.out.lb.c2
          rw [← HBB.out] at c0 c1 c2
          have hj4 : (j : Int) < 4 := by omega
          go_wp2_with fail
          refine (beyond_any W H (by omega) hW2 hH2 t HTL.out j hlt4 _).mono ?_
          rintro r w5 ⟨rfl, hb5⟩
          have HX := hid (hQ.out.stays hb5)
          clear hb5 c0 c1 c2 hQ
          rcases bsd_tile HTL.out j with e | ⟨v, e, hv⟩
          · rw [e]
            have HLW := hid ((lwB_none (Z := Z) e).trans HLB.out)
            have HN2 := hid (hN.out.step (by rw [e]; omega))
            clear e
            cases lb
            all_goals cases nb
            all_goals
              go_wp2_with fail
              go_quiet (fail)
              go_wp2_with fail
              go_quiet (fail)
              go_wp2_with fail
              go_roundw
              case rel => exact ⟨j + 1, _, by omega, by go_num, by rw [HLW.out], rfl, hid (HX.out.stays (by repeat (first | exact Joins.below_draws _ _ _ | refine (Joins.below_draws _ _ _).trans ?_))), HN2⟩
              case measure => simp [intOf] <;> omega
          · rw [e]
            have HE := hid e
            have HV := hid hv
            have hv2 : v ≤ 1024 := by omega
            clear e hv
            cases lb
            · have c0 := HX.out.lb.c0
              have c1 := HX.out.lb.c1
              have c2 := HX.out.lb.c2
              rw [← HBB.out] at c0 c1 c2
              have hv0 : (0 : Int) ≤ (v : Int) := by omega
              obtain ⟨sv, hsv⟩ : ∃ sv, sumT W Z v = sv := ⟨_, rfl⟩
              obtain ⟨st, hst2⟩ : ∃ st, sumT W Z t = st := ⟨_, rfl⟩
              have HSV := hid hsv
              have HST := hid hst2
              by_cases hlow : sv < st
              · have HLW := hid (lwB_yes HTL.out HLB.out HE.out (by rw [hsv, hst2]; exact hlow))
                clear hsv hst2
                go_wp2_with fail
                go_region_held3 (fun w' => FS W H ao n cap Z g (m + 1) (rvI W H Z u) w w' ∧ w'.cell? ⟨B, 0, none⟩ = some (.int .i64 W) ∧ w'.cell? ⟨B, 1, none⟩ = some (.int .i64 H) ∧ w'.cell? ⟨B, 2, none⟩ = some (.slice ao n cap) ∧ w'.cell? ⟨g, i, none⟩ = some (.int .i64 t))
                  (first
                    | exact fs_keep HBB.out HIT.out (And.intro HX.out trivial) ((Below.refl _ _).drew)
                    | exact fs_keep HBB.out HIT.out (by assumption) hb
                    | assumption)
                  (first
                    | (go_at_call 33; (with_reducible refine (lawsum_any W H _ n cap Z HG.out v HV.out _ (fs_ints (by assumption))).mono ?_); rw [HSV.out]; rintro r w6 ⟨rfl, hb⟩)
                    | (go_at_call 33; (with_reducible refine (lawsum_any W H _ n cap Z HG.out t HTL.out _ (fs_ints (by assumption))).mono ?_); rw [HST.out]; rintro r w6 ⟨rfl, hb⟩))
                go_wp2_with fail
                have HX2 : Hid (FS W H ao n cap Z g (m + 1) (rvI W H Z u) w _) := hid (fs_of (by assumption))
                clear c0 c1 c2 HX
                have HX := HX2
                clear HX2 hlow HSV HST
                have c0 := HX.out.lb.c0
                have c1 := HX.out.lb.c1
                have c2 := HX.out.lb.c2
                rw [← HBB.out] at c0 c1 c2
                cases nb
                · have him : i < m := hN.out.lt (by omega)
                  obtain ⟨q, hq⟩ : ∃ q, stp W H Z t = q := ⟨_, rfl⟩
                  have hxq : rvI W H Z u (i + 1) = (q : Int) := by show ((stp W H Z (rvr W H Z u i) : Nat) : Int) = q; rw [HT.out, hq]
                  have HXQ := hid (show i + 1 < m + 1 ∧ rvI W H Z u (i + 1) = (q : Int) from ⟨by omega, hxq⟩)
                  have d1 := HX.out.at (i := i + 1) (by omega)
                  rw [hxq] at d1
                  have hst : stp W H Z t ≠ t := by
                    have h := HR.out.goes i him
                    rw [HT.out] at h
                    exact fun e => h (.inr e)
                  have HLO := hid (stp_low HTL.out hst)
                  rw [hq] at HLO
                  have him2 : (i : Int) < (m : Int) := by omega
                  have y1 : IntKind.i64.wrap ((i : Int) + 1) = (i : Int) + 1 := IntWalk.i64_in _ (by omega)
                  have y2 : (0 : Int) ≤ (i : Int) + 1 := by omega
                  have y3 : ((i : Int) + 1).toNat = i + 1 := by omega
                  have y4 : (i : Int) + 1 < (m : Int) + 1 := by omega
                  have y5 : IntKind.i64.wrap ((m : Int) + 1 - 1) = (m : Int) := by rw [show (m : Int) + 1 - 1 = (m : Int) by omega]; exact IntWalk.i64_in _ (by omega)
                  have y6 : IntKind.i64.wrap (m : Int) = (m : Int) := IntWalk.i64_in _ (by omega)
                  have hv0 : (0 : Int) ≤ (v : Int) := by omega
                  by_cases hvq : v = q
                  · subst hvq
                    have hlow := HLO.out
                    obtain ⟨sv, hsv⟩ : ∃ sv, sumT W Z v = sv := ⟨_, rfl⟩
                    obtain ⟨st, hst2⟩ : ∃ st, sumT W Z t = st := ⟨_, rfl⟩
                    rw [hsv, hst2] at hlow
                    have HSV := hid hsv
                    have HST := hid hst2
                    have HQ := hid hq
                    clear hq hxq hst hsv hst2
                    go_region_held3 (fun w' => FS W H ao n cap Z g (m + 1) (rvI W H Z u) w w' ∧ w'.cell? ⟨B, 0, none⟩ = some (.int .i64 W) ∧ w'.cell? ⟨B, 1, none⟩ = some (.int .i64 H) ∧ w'.cell? ⟨B, 2, none⟩ = some (.slice ao n cap) ∧ w'.cell? ⟨g, i + 1, none⟩ = some (.int .i64 v))
                      (first
                        | exact fs_keep HBB.out HXQ.out (And.intro HX.out trivial) ((Below.refl _ _).drew)
                        | exact fs_keep HBB.out HXQ.out (by assumption) hb
                        | assumption)
                      (first
                        | (go_at_call 33; (with_reducible refine (lawsum_any W H _ n cap Z HG.out v HV.out _ (fs_ints (by assumption))).mono ?_); rw [HSV.out]; rintro r w7 ⟨rfl, hb⟩)
                        | (go_at_call 33; (with_reducible refine (lawsum_any W H _ n cap Z HG.out t HTL.out _ (fs_ints (by assumption))).mono ?_); rw [HST.out]; rintro r w7 ⟨rfl, hb⟩))
                    go_wp2_with fail
                    go_roundw
                    case rel => exact ⟨j + 1, true, by omega, by go_num, by rw [HLW.out], rfl, hid (fs_of (by assumption)), hid (NxOk.yes _ _ _ _ _ _ _)⟩
                    case measure => simp [intOf] <;> omega
                  · have hvq2 : ((v : Int) == (q : Int)) = false := by simp; omega
                    have HN2 := hid (hN.out.step (by rw [HE.out, hq]; omega))
                    clear hq hxq hst hvq
                    go_quiet (fail)
                    go_wp2_with fail
                    go_roundw
                    case rel => exact ⟨j + 1, false, by omega, by go_num, by rw [HLW.out], rfl, hid (HX.out.stays (by repeat (first | exact Joins.below_draws _ _ _ | refine (Joins.below_draws _ _ _).trans ?_))), HN2⟩
                    case measure => simp [intOf] <;> omega
                · go_quiet (fail)
                  go_wp2_with fail
                  go_roundw
                  case rel => exact ⟨j + 1, true, by omega, by go_num, by rw [HLW.out], rfl, hid (HX.out.stays (by repeat (first | exact Joins.below_draws _ _ _ | refine (Joins.below_draws _ _ _).trans ?_))), hid (NxOk.yes _ _ _ _ _ _ _)⟩
                  case measure => simp [intOf] <;> omega
              · have HLW := hid (lwB_no HTL.out HLB.out HE.out (by rw [hsv, hst2]; exact hlow))
                have hdec := decide_eq_false hlow
                clear hsv hst2
                go_wp2_with fail
                go_region_held3 (fun w' => FS W H ao n cap Z g (m + 1) (rvI W H Z u) w w' ∧ w'.cell? ⟨B, 0, none⟩ = some (.int .i64 W) ∧ w'.cell? ⟨B, 1, none⟩ = some (.int .i64 H) ∧ w'.cell? ⟨B, 2, none⟩ = some (.slice ao n cap) ∧ w'.cell? ⟨g, i, none⟩ = some (.int .i64 t))
                  (first
                    | exact fs_keep HBB.out HIT.out (And.intro HX.out trivial) ((Below.refl _ _).drew)
                    | exact fs_keep HBB.out HIT.out (by assumption) hb
                    | assumption)
                  (first
                    | (go_at_call 33; (with_reducible refine (lawsum_any W H _ n cap Z HG.out v HV.out _ (fs_ints (by assumption))).mono ?_); rw [HSV.out]; rintro r w6 ⟨rfl, hb⟩)
                    | (go_at_call 33; (with_reducible refine (lawsum_any W H _ n cap Z HG.out t HTL.out _ (fs_ints (by assumption))).mono ?_); rw [HST.out]; rintro r w6 ⟨rfl, hb⟩))
                go_wp2_with fail
                have HX2 : Hid (FS W H ao n cap Z g (m + 1) (rvI W H Z u) w _) := hid (fs_of (by assumption))
                clear c0 c1 c2 HX
                have HX := HX2
                clear HX2 hlow HSV HST
                have c0 := HX.out.lb.c0
                have c1 := HX.out.lb.c1
                have c2 := HX.out.lb.c2
                rw [← HBB.out] at c0 c1 c2
                cases nb
                · have him : i < m := hN.out.lt (by omega)
                  obtain ⟨q, hq⟩ : ∃ q, stp W H Z t = q := ⟨_, rfl⟩
                  have hxq : rvI W H Z u (i + 1) = (q : Int) := by show ((stp W H Z (rvr W H Z u i) : Nat) : Int) = q; rw [HT.out, hq]
                  have HXQ := hid (show i + 1 < m + 1 ∧ rvI W H Z u (i + 1) = (q : Int) from ⟨by omega, hxq⟩)
                  have d1 := HX.out.at (i := i + 1) (by omega)
                  rw [hxq] at d1
                  have hst : stp W H Z t ≠ t := by
                    have h := HR.out.goes i him
                    rw [HT.out] at h
                    exact fun e => h (.inr e)
                  have HLO := hid (stp_low HTL.out hst)
                  rw [hq] at HLO
                  have him2 : (i : Int) < (m : Int) := by omega
                  have y1 : IntKind.i64.wrap ((i : Int) + 1) = (i : Int) + 1 := IntWalk.i64_in _ (by omega)
                  have y2 : (0 : Int) ≤ (i : Int) + 1 := by omega
                  have y3 : ((i : Int) + 1).toNat = i + 1 := by omega
                  have y4 : (i : Int) + 1 < (m : Int) + 1 := by omega
                  have y5 : IntKind.i64.wrap ((m : Int) + 1 - 1) = (m : Int) := by rw [show (m : Int) + 1 - 1 = (m : Int) by omega]; exact IntWalk.i64_in _ (by omega)
                  have y6 : IntKind.i64.wrap (m : Int) = (m : Int) := IntWalk.i64_in _ (by omega)
                  have hv0 : (0 : Int) ≤ (v : Int) := by omega
                  by_cases hvq : v = q
                  · subst hvq
                    have hlow := HLO.out
                    obtain ⟨sv, hsv⟩ : ∃ sv, sumT W Z v = sv := ⟨_, rfl⟩
                    obtain ⟨st, hst2⟩ : ∃ st, sumT W Z t = st := ⟨_, rfl⟩
                    rw [hsv, hst2] at hlow
                    have HSV := hid hsv
                    have HST := hid hst2
                    have HQ := hid hq
                    clear hq hxq hst hsv hst2
                    go_region_held3 (fun w' => FS W H ao n cap Z g (m + 1) (rvI W H Z u) w w' ∧ w'.cell? ⟨B, 0, none⟩ = some (.int .i64 W) ∧ w'.cell? ⟨B, 1, none⟩ = some (.int .i64 H) ∧ w'.cell? ⟨B, 2, none⟩ = some (.slice ao n cap) ∧ w'.cell? ⟨g, i + 1, none⟩ = some (.int .i64 v))
                      (first
                        | exact fs_keep HBB.out HXQ.out (And.intro HX.out trivial) ((Below.refl _ _).drew)
                        | exact fs_keep HBB.out HXQ.out (by assumption) hb
                        | assumption)
                      (first
                        | (go_at_call 33; (with_reducible refine (lawsum_any W H _ n cap Z HG.out v HV.out _ (fs_ints (by assumption))).mono ?_); rw [HSV.out]; rintro r w7 ⟨rfl, hb⟩)
                        | (go_at_call 33; (with_reducible refine (lawsum_any W H _ n cap Z HG.out t HTL.out _ (fs_ints (by assumption))).mono ?_); rw [HST.out]; rintro r w7 ⟨rfl, hb⟩))
                    go_wp2_with fail
                    go_roundw
                    case rel => exact ⟨j + 1, true, by omega, by go_num, by rw [HLW.out], rfl, hid (fs_of (by assumption)), hid (NxOk.yes _ _ _ _ _ _ _)⟩
                    case measure => simp [intOf] <;> omega
                  · have hvq2 : ((v : Int) == (q : Int)) = false := by simp; omega
                    have HN2 := hid (hN.out.step (by rw [HE.out, hq]; omega))
                    clear hq hxq hst hvq
                    go_quiet (fail)
                    go_wp2_with fail
                    go_roundw
                    case rel => exact ⟨j + 1, false, by omega, by go_num, by rw [HLW.out], rfl, hid (HX.out.stays (by repeat (first | exact Joins.below_draws _ _ _ | refine (Joins.below_draws _ _ _).trans ?_))), HN2⟩
                    case measure => simp [intOf] <;> omega
                · go_quiet (fail)
                  go_wp2_with fail
                  go_roundw
                  case rel => exact ⟨j + 1, true, by omega, by go_num, by rw [HLW.out], rfl, hid (HX.out.stays (by repeat (first | exact Joins.below_draws _ _ _ | refine (Joins.below_draws _ _ _).trans ?_))), hid (NxOk.yes _ _ _ _ _ _ _)⟩
                  case measure => simp [intOf] <;> omega
            · have HLW := hid (lwB_stays HLB.out)
              have c0 := HX.out.lb.c0
              have c1 := HX.out.lb.c1
              have c2 := HX.out.lb.c2
              rw [← HBB.out] at c0 c1 c2
              go_wp2_with fail
              go_quiet (fail)
              rename_i nq
              have HX2 := hid (HX.out.stays (Joins.below_draws _ _ nq))
              go_wp2_with fail
              clear c0 c1 c2 HX
              have HX := HX2
              clear HX2
              generalize World.drewN _ _ = w6 at HX ⊢
              have c0 := HX.out.lb.c0
              have c1 := HX.out.lb.c1
              have c2 := HX.out.lb.c2
              rw [← HBB.out] at c0 c1 c2
              cases nb
              · have him : i < m := hN.out.lt (by omega)
                obtain ⟨q, hq⟩ : ∃ q, stp W H Z t = q := ⟨_, rfl⟩
                have hxq : rvI W H Z u (i + 1) = (q : Int) := by show ((stp W H Z (rvr W H Z u i) : Nat) : Int) = q; rw [HT.out, hq]
                have HXQ := hid (show i + 1 < m + 1 ∧ rvI W H Z u (i + 1) = (q : Int) from ⟨by omega, hxq⟩)
                have d1 := HX.out.at (i := i + 1) (by omega)
                rw [hxq] at d1
                have hst : stp W H Z t ≠ t := by
                  have h := HR.out.goes i him
                  rw [HT.out] at h
                  exact fun e => h (.inr e)
                have HLO := hid (stp_low HTL.out hst)
                rw [hq] at HLO
                have him2 : (i : Int) < (m : Int) := by omega
                have y1 : IntKind.i64.wrap ((i : Int) + 1) = (i : Int) + 1 := IntWalk.i64_in _ (by omega)
                have y2 : (0 : Int) ≤ (i : Int) + 1 := by omega
                have y3 : ((i : Int) + 1).toNat = i + 1 := by omega
                have y4 : (i : Int) + 1 < (m : Int) + 1 := by omega
                have y5 : IntKind.i64.wrap ((m : Int) + 1 - 1) = (m : Int) := by rw [show (m : Int) + 1 - 1 = (m : Int) by omega]; exact IntWalk.i64_in _ (by omega)
                have y6 : IntKind.i64.wrap (m : Int) = (m : Int) := IntWalk.i64_in _ (by omega)
                have hv0 : (0 : Int) ≤ (v : Int) := by omega
                by_cases hvq : v = q
                · subst hvq
                  have hlow := HLO.out
                  obtain ⟨sv, hsv⟩ : ∃ sv, sumT W Z v = sv := ⟨_, rfl⟩
                  obtain ⟨st, hst2⟩ : ∃ st, sumT W Z t = st := ⟨_, rfl⟩
                  rw [hsv, hst2] at hlow
                  have HSV := hid hsv
                  have HST := hid hst2
                  have HQ := hid hq
                  clear hq hxq hst hsv hst2
                  go_region_held3 (fun w' => FS W H ao n cap Z g (m + 1) (rvI W H Z u) w w' ∧ w'.cell? ⟨B, 0, none⟩ = some (.int .i64 W) ∧ w'.cell? ⟨B, 1, none⟩ = some (.int .i64 H) ∧ w'.cell? ⟨B, 2, none⟩ = some (.slice ao n cap) ∧ w'.cell? ⟨g, i + 1, none⟩ = some (.int .i64 v))
                    (first
                      | exact fs_keep HBB.out HXQ.out (And.intro HX.out trivial) ((Below.refl _ _).drew)
                      | exact fs_keep HBB.out HXQ.out (by assumption) hb
                      | assumption)
                    (first
                      | (go_at_call 33; (with_reducible refine (lawsum_any W H _ n cap Z HG.out v HV.out _ (fs_ints (by assumption))).mono ?_); rw [HSV.out]; rintro r w7 ⟨rfl, hb⟩)
                      | (go_at_call 33; (with_reducible refine (lawsum_any W H _ n cap Z HG.out t HTL.out _ (fs_ints (by assumption))).mono ?_); rw [HST.out]; rintro r w7 ⟨rfl, hb⟩))
                  go_wp2_with fail
                  go_roundw
                  case rel => exact ⟨j + 1, true, by omega, by go_num, by rw [HLW.out], rfl, hid (fs_of (by assumption)), hid (NxOk.yes _ _ _ _ _ _ _)⟩
                  case measure => simp [intOf] <;> omega
                · have hvq2 : ((v : Int) == (q : Int)) = false := by simp; omega
                  have HN2 := hid (hN.out.step (by rw [HE.out, hq]; omega))
                  clear hq hxq hst hvq
                  go_quiet (fail)
                  go_wp2_with fail
                  go_roundw
                  case rel => exact ⟨j + 1, false, by omega, by go_num, by rw [HLW.out], rfl, hid (HX.out.stays (by repeat (first | exact Joins.below_draws _ _ _ | refine (Joins.below_draws _ _ _).trans ?_))), HN2⟩
                  case measure => simp [intOf] <;> omega
              · go_quiet (fail)
                go_wp2_with fail
                go_roundw
                case rel => exact ⟨j + 1, true, by omega, by go_num, by rw [HLW.out], rfl, hid (HX.out.stays (by repeat (first | exact Joins.below_draws _ _ _ | refine (Joins.below_draws _ _ _).trans ?_))), hid (NxOk.yes _ _ _ _ _ _ _)⟩
                case measure => simp [intOf] <;> omega
        · obtain rfl : j = 4 := by omega
          have hends : (i < m ∧ ¬ Ends W H Z t) ∨ (i = m ∧ Ends W H Z t) := by
            rw [← HT.out]
            by_cases h : i < m
            · exact .inl ⟨h, HR.out.goes i h⟩
            · have e : i = m := by omega
              subst e
              exact .inr ⟨rfl, HR.out.ends⟩
          have hnb : nb = true := hN.out.ends (by omega) (fun h => by
            rcases hends with ⟨_, h2⟩ | ⟨h2, _⟩
            · exact fun e => h2 (.inr e)
            · omega)
          subst hnb
          have HENDS := hid hends
          clear hends
          have c0 := hQ.out.lb.c0
          have c1 := hQ.out.lb.c1
          have c2 := hQ.out.lb.c2
          rw [← HBB.out] at c0 c1 c2
          by_cases hw : top W Z t ≤ 2
          · have him : i = m := by
              rcases HENDS.out with ⟨_, h⟩ | ⟨h, _⟩
              · exact absurd (.inl hw) h
              · exact h
            have HW := hid (decide_eq_true hw)
            clear hw
            subst him
            go_wp2_with fail
            refine (water_ok W H ao n cap Z HG.out t HTL.out _ hQ.out.lb.ints).mono ?_
            rw [HW.out]
            rintro r w7 ⟨rfl, hb7⟩
            have HQ7 := hid (hQ.out.stays hb7)
            clear hb7 c0 c1 c2
            go_wp2_with fail
            go_roundw
            case rel => exact ⟨i + 1, by omega, by go_num, HQ7⟩
            case measure => simp [intOf] <;> omega
          · have HW := hid (decide_eq_false hw)
            by_cases him : i < m
            · have him2 : (i : Int) < (m : Int) := by omega
              clear hw
              go_wp2_with fail
              refine (water_ok W H ao n cap Z HG.out t HTL.out _ hQ.out.lb.ints).mono ?_
              rw [HW.out]
              rintro r w7 ⟨rfl, hb7⟩
              have HQ7 := hid (hQ.out.stays hb7)
              clear hb7 c0 c1 c2
              go_wp2_with fail
              all_goals first
                | (exfalso; omega)
                | (go_roundw
                   case rel => exact ⟨i + 1, by omega, by go_num, HQ7⟩
                   case measure => simp [intOf] <;> omega)
            · have hst : stp W H Z t = t := by
                rcases HENDS.out with ⟨h, _⟩ | ⟨_, h⟩
                · exact absurd h him
                · rcases h with h | h
                  · exact absurd h hw
                  · exact h
              have hlb2 : lb = false := by rw [← HLB.out]; exact lwB_end HTL.out hst
              subst hlb2
              obtain rfl : i = m := by omega
              clear hw him hst
              go_wp2_with fail
              refine (water_ok W H ao n cap Z HG.out t HTL.out _ hQ.out.lb.ints).mono ?_
              rw [HW.out]
              rintro r w7 ⟨rfl, hb7⟩
              have HQ7 := hid (hQ.out.stays hb7)
              clear hb7 c0 c1 c2
              go_wp2_with fail
              all_goals first
                | (exfalso; omega)
                | (go_roundw
                   case rel => exact ⟨i + 1, by omega, by go_num, HQ7⟩
                   case measure => simp [intOf] <;> omega)
    · obtain rfl : i = m + 1 := by omega
      go_wp2_with fail
      refine (known_any _).mono ?_
      rintro r w9 ⟨rfl, hb9⟩
      go_wp2
      go_ret
      exact ⟨rfl, (hS.out.stays hb9).lb.below⟩
theorem walk_fall (W H : Int) (ao : Option Addr) (n cap : Nat) (Z : Nat → Int) (hn : n ≤ 9223372036854775807) (t : Int) (w : World) (hI : Ints w ao n Z) :
    Calls Try.prog 9 #[lv W H (.slice ao n cap), .int .i64 t] w fun r w' => r = .returned (.bool true) ∧ Below w.heap.size w w' := by
  rcases tile_cases W H n Z t with ⟨e, he⟩ | ⟨W', H', u, rfl, rfl, rfl, hg, hu⟩
  · have HL := hid (lb_start (W := W) (H := H) (cap := cap) hI)
    have HE := hid he
    have g : (e != 0) = true := by simpa using he.ne
    clear hI he
    go_enter Try.func9, Try.ntmps9
    go_wp2_with fail
    refine (river_no W H ao n cap Z hn t _ HL.out.ints e HE.out).mono ?_
    rintro r w1 ⟨rfl, hb1⟩
    have HL1 := hid (HL.out.stays hb1)
    clear hb1
    go_wp2_with fail
    refine (known_any _).mono ?_
    rintro r w2 ⟨rfl, hb2⟩
    go_wp2
    go_ret
    exact ⟨rfl, (HL1.out.stays hb2).below⟩
  · exact fall_ok W' H' ao n cap Z hg u hu w hI
end Go.Proofs.Ytngamphkehppfaa
