/-
  The walk of Validate of the reference.
-/
import Derived.Test.YtkpnngpnjimogaaWRLie
namespace Go.Proofs.Ytkpnngpnjimogaa
open Go.RowKit

set_option maxRecDepth 40000 in
set_option maxHeartbeats 12800000 in
theorem wrefvalidate_to (W H : Int) (ao ko bo : Option Addr) (n cap m kcap q bcap : Nat) (Z K Y : Nat → Int) (hn : n ≤ 4000) (hq : q ≤ 4000) (e : Int) (h : WErr W H n m q Z K Y e) (w : World) (hI : Ints w ao n Z) (hK : Ints w ko m K) (hY : Ints w bo q Y) :
    Calls Try.prog 17 #[lv W H (.slice ao n cap), .agg #[.slice ko m kcap, .slice bo q bcap]] w fun r w' => r = .returned (.int .i64 e) ∧ Below w.heap.size w w' := by
  have HL0 := hid (LW.start (W := W) (H := H) (cap := cap) (kcap := kcap) (bcap := bcap) hI hK hY)
  clear hI hK hY
  rcases h with ⟨h0, hv⟩ | ⟨W', H', rfl, rfl, hg, h⟩
  · have HV := hid hv
    have g1 : (e == 0) = false := by rw [beq_eq_false_iff_ne]; exact h0
    have g2 : (e != 0) = true := by simp [h0]
    clear hv h0
    go_enter Try.func17, Try.ntmps17
    go_wp2_with (go_at_call 41; (refine (refvalidate_any W H ao n cap Z (by omega) _ HL0.out.land e HV.out).mono ?_); rintro r w1 ⟨rfl, hb⟩; have HL1 := hid (HL0.out.stays hb); clear hb)
    go_ret
    exact ⟨rfl, HL1.out.below⟩
  · have HV := hid hg.err
    have HG := hid hg
    have HE := hid h
    have hsd := hg.side
    have hsm := mul_small hsd.2.1 hsd.2.2.2
    obtain ⟨p, hp⟩ : ∃ p, p = W' * H' := ⟨_, rfl⟩
    have e1 : (W' : Int) * (H' : Int) = (p : Int) := by rw [hp]; simp
    have hp2 : p ≤ 1024 := by omega
    have HP := hid hp
    have HSD := hid hsd
    clear hg h hsd hsm hp
    by_cases hm : m = p
    · have HM := hid (hm.trans HP.out)
      have HMP := hid hm
      have hm2 : m ≤ 1024 := by omega
      have e2 : (W' : Int) * (H' : Int) = (m : Int) := by rw [hm]; exact e1
      clear hm e1 hp2 HP
      go_enter Try.func17, Try.ntmps17
      go_wp2_with (go_at_call 41; (refine (refvalidate_any W' H' ao n cap Z (by omega) _ HL0.out.land 0 HV.out).mono ?_); rintro r w1 ⟨rfl, hb⟩; have hL := hid (HL0.out.stays hb); clear hb; have c0 := hL.out.c0; have c1 := hL.out.c1; have c2 := hL.out.c2; have c3 := hL.out.c3; have c4 := hL.out.c4; have hz := hL.out.size)
      clear HL0 HV HMP p
      go_loop [32] (fun iv => ∃ j : Nat, j ≤ m ∧ iv = .int .i64 j ∧ Hid (∀ i, i < j → 0 ≤ K i ∧ K i ≤ 3)) (fun iv => m - (intOf iv).toNat)
      case atStart => exact ⟨0, Nat.zero_le _, rfl, hid (fun i hi => absurd hi (Nat.not_lt_zero i))⟩
      case round =>
        obtain ⟨j, hj, rfl, hk1⟩ := hrel
        by_cases hlt : j < m
        · obtain ⟨bk, off, rfl, hbz, k0⟩ := hL.out.kinds j hlt
          obtain ⟨k, hk⟩ : ∃ k, k = K j := ⟨_, rfl⟩
          rw [← hk] at k0
          have HKK := hid hk
          clear hk
          by_cases hok : 0 ≤ k ∧ k ≤ 3
          · obtain ⟨o1, o2⟩ := hok
            go_wp2_with fail
            go_round
            case rel =>
              refine ⟨j + 1, by omega, by go_num, hid (fun i hi => ?_)⟩
              by_cases h : i < j
              · exact hk1.out i h
              · obtain rfl : i = j := by omega
                rw [← HKK.out]; exact ⟨o1, o2⟩
            case measure => simp [intOf]; omega
          · have hee : e = 1 := HE.out.arg fun h => hok (by have := h.2.1 j hlt; rw [← HKK.out] at this; exact this)
            subst hee
            have HK := hid hok
            clear hok
            by_cases hz0 : k < 0
            all_goals
              have hz1 : 0 ≤ k → 3 < k := fun h => by have := HK.out; omega
              go_wp2_with fail
              go_ret
              exact ⟨rfl, hL.out.below⟩
        · obtain rfl : j = m := by omega
          have HK1 : Hid (KOk j K) := hk1
          clear hk1 hlt hj
          go_wp2_with fail
          clear c0 c1 c2 c3 c4 hz
          go_loopw [8] (fun iv wr => ∃ i : Nat, (i < q ∨ i = 0) ∧ iv = .int .i64 ((i : Int) + 1) ∧ Hid (∀ x, 0 < x → x < i + 1 → x < q → Y (x - 1) < Y x) ∧ Hid (LW W' H' ao ko bo n cap j kcap q bcap Z K Y w wr)) (fun iv _ => q + 1 - (intOf iv).toNat)
          case atStart => exact ⟨0, .inr rfl, rfl, hid (fun x h1 h2 _ => by omega), hL⟩
          case round =>
            clear hL
            obtain ⟨v, hi, rfl, hk, hL⟩ := hrel
            have c0 := hL.out.c0
            have c1 := hL.out.c1
            have c2 := hL.out.c2
            have c3 := hL.out.c3
            have c4 := hL.out.c4
            have hz := hL.out.size
            by_cases hlt : v + 1 < q
            · obtain ⟨bb, off, rfl, hbz, hcl⟩ := Ints.one hL.out.buoys (by omega)
              have y0 := hcl (v + 1) hlt
              have y1 := hcl v (by omega)
              obtain ⟨z0, e0⟩ : ∃ z, z = Y (v + 1) := ⟨_, rfl⟩
              obtain ⟨z1, e3⟩ : ∃ z, z = Y v := ⟨_, rfl⟩
              rw [← e0] at y0
              rw [← e3] at y1
              have E0 := hid e0
              have E1 := hid e3
              have t0 : ((v : Int) + 1).toNat = v + 1 := by omega
              have w0 : IntKind.i64.wrap (v : Int) = (v : Int) := by rw [IntKind.wrap_i64]; omega
              have w1' : IntKind.i64.wrap ((v : Int) + 1) = (v : Int) + 1 := by rw [IntKind.wrap_i64]; omega
              have b0 : (v : Int) + 1 < (q : Int) := by omega
              have b1 : (v : Int) < (q : Int) := by omega
              clear hcl e0 e3
              by_cases hc : z0 ≤ z1
              · have hee : e = 1 := HE.out.arg fun h => by
                  have := h.2.2 (v + 1) (by omega) hlt
                  rw [Nat.add_sub_cancel, ← E0.out, ← E1.out] at this; omega
                subst hee
                go_wp2_with fail
                go_quiet (fail)
                go_wp2_with fail
                go_ret
                exact ⟨rfl, (hL.out.stays (Joins.below_draws _ _ _)).below⟩
              · have hc' : z1 < z0 := by omega
                go_wp2_with fail
                go_quiet (fail)
                have hL2 := hid (hL.out.stays (Joins.below_draws _ _ nq))
                go_wp2_with fail
                go_roundw
                case rel =>
                  refine ⟨v + 1, .inl (by omega), by go_num, hid (fun x h1 h2 h3 => ?_), hL2⟩
                  by_cases h : x < v + 1
                  · exact hk.out x h1 h h3
                  · obtain rfl : x = v + 1 := by omega
                    rw [Nat.add_sub_cancel, ← E0.out, ← E1.out]; exact hc'
                case measure => simp [intOf]; omega
            · have HA : Hid (Asc q Y) := hid fun x h1 h2 => hk.out x h1 (by omega) h2
              clear hk hi
              go_wp2_with fail
              clear hlt c0 c1 c2 c3 c4 hz
              go_loopw [65] (fun iv wr => ∃ i : Nat, i ≤ q ∧ iv = .int .i64 i ∧ Hid (∀ x, x < i → tileB W' H' (Y x) = true) ∧ Hid (LW W' H' ao ko bo n cap j kcap q bcap Z K Y w wr)) (fun iv _ => q - (intOf iv).toNat)
              case atStart => exact ⟨0, Nat.zero_le _, rfl, hid (fun x h => by omega), hL⟩
              case round =>
                clear hL
                obtain ⟨i, hi, rfl, hk, hL⟩ := hrel
                have c0 := hL.out.c0
                have c1 := hL.out.c1
                have c2 := hL.out.c2
                have c3 := hL.out.c3
                have c4 := hL.out.c4
                have hz := hL.out.size
                by_cases hlt : i < q
                · obtain ⟨bb, off, rfl, hbz, y0⟩ := hL.out.buoys i hlt
                  obtain ⟨z, hz'⟩ : ∃ z, z = Y i := ⟨_, rfl⟩
                  rw [← hz'] at y0
                  have HZ := hid hz'
                  obtain ⟨t, ht⟩ : ∃ t, t = tileB W' H' z := ⟨_, rfl⟩
                  have HT := hid (fun s w => is_any W' H' HSD.out.2.1 HSD.out.2.2.2 s z w)
                  rw [← ht] at HT
                  have HTT := hid ht
                  clear hz' ht
                  cases t
                  · have hee : e = 2 := HE.out.none ⟨HM.out, HK1.out, HA.out⟩ fun h => by
                      have := h i hlt
                      rw [← HZ.out, ← HTT.out] at this; cases this
                    subst hee
                    go_wp2_with (go_at_call 37; refine (HT.out _ _).mono ?_; rintro r wn ⟨rfl, rfl⟩)
                    go_ret
                    exact ⟨rfl, (hL.out.stays (Joins.below_alloc1 _ _)).below⟩
                  · have hL2 := hid (hL.out.stays (Joins.below_alloc1 wr (.cells #[.int .i64 W', .int .i64 H', .slice ao n cap] 24)))
                    go_wp2_with (go_at_call 37; refine (HT.out _ _).mono ?_; rintro r wn ⟨rfl, rfl⟩)
                    go_roundw
                    case rel =>
                      refine ⟨i + 1, by omega, by go_num, hid (fun x h1 => ?_), hL2⟩
                      by_cases h : x < i
                      · exact hk.out x h
                      · obtain rfl : x = i := by omega
                        rw [← HZ.out]; exact HTT.out.symm
                    case measure => simp [intOf]; omega
                · obtain rfl : i = q := by omega
                  have HBI : Hid (BIn W' H' i Y) := hk
                  clear hk hi hlt
                  go_wp2_with fail
                  clear c0 c1 c2 c3 c4 hz
                  go_loopw [77] (fun iv wr => ∃ u : Nat, u ≤ j ∧ iv = .int .i64 u ∧ Hid (∀ x, x < u → K x ≠ 0 → flt (sea W' Z x) (gsl W' Z x) (K x) = 0) ∧ Hid (LW W' H' ao ko bo n cap j kcap i bcap Z K Y w wr)) (fun iv _ => j - (intOf iv).toNat)
                  case atStart => exact ⟨0, Nat.zero_le _, rfl, hid (fun x h => by omega), hL⟩
                  case round =>
                    clear hL
                    obtain ⟨u, hu, rfl, hk, hL⟩ := hrel
                    have c0 := hL.out.c0
                    have c1 := hL.out.c1
                    have c2 := hL.out.c2
                    have c3 := hL.out.c3
                    have c4 := hL.out.c4
                    have hz := hL.out.size
                    by_cases hlt : u < j
                    · obtain ⟨bk, off, rfl, hbz, k0⟩ := hL.out.kinds u hlt
                      obtain ⟨k, hkk⟩ : ∃ k, k = K u := ⟨_, rfl⟩
                      rw [← hkk] at k0
                      have HKK := hid hkk
                      have hkr := HK1.out u hlt
                      rw [← hkk] at hkr
                      obtain ⟨f, hf⟩ : ∃ f, f = rflt (sea W' Z u) (slope W' Z u) k := ⟨_, rfl⟩
                      have HF := hid (lies_any W' H' ao n cap Z HG.out u (by have := HM.out; omega) k f hf)
                      have hff : k ≠ 0 → f = flt (sea W' Z u) (gsl W' Z u) k := fun h0 => hf.trans (rflt_flt (by omega))
                      have hf0 : k = 0 → f = 0 := fun h0 => by rw [hf, h0]; exact rflt_zero _ _
                      have HFF := hid (And.intro hff hf0)
                      clear hf hff hf0 hkk hkr
                      by_cases h1 : f = 0
                      · subst h1
                        go_wp2_with (go_at_call 42; refine (HF.out _ hL.out.land).mono ?_; rintro r wn ⟨rfl, hb⟩; have hL2 := hid (hL.out.stays hb); clear hb)
                        go_roundw
                        case rel =>
                          refine ⟨u + 1, by omega, by go_num, hid (fun x h1 hx0 => ?_), hL2⟩
                          by_cases h : x < u
                          · exact hk.out x h hx0
                          · obtain rfl : x = u := by omega
                            rw [← HKK.out] at hx0 ⊢; exact (HFF.out.1 hx0).symm
                        case measure => simp [intOf]; omega
                      · have hk0 : k ≠ 0 := fun h => h1 (HFF.out.2 h)
                        have hee : e = 9 := HE.out.rule ⟨HM.out, HK1.out, HA.out⟩ HBI.out fun h => by
                          have := h.1 u (by have := HM.out; omega) (by rw [← HKK.out]; exact hk0)
                          rw [← HKK.out, ← HFF.out.1 hk0] at this; exact h1 this
                        subst hee
                        have g1 : (f == 0) = false := by rw [beq_eq_false_iff_ne]; exact h1
                        have g2 : (f != 0) = true := by simp [h1]
                        clear hk0 h1
                        go_wp2_with (go_at_call 42; refine (HF.out _ hL.out.land).mono ?_; rintro r wn ⟨rfl, hb⟩; have hL2 := hid (hL.out.stays hb); clear hb)
                        go_ret
                        exact ⟨rfl, hL2.out.below⟩
                    · obtain rfl : u = j := by omega
                      have HFI : Hid (Fits W' H' Z K) := hid fun x hx => hk.out x (by have := HM.out; omega)
                      clear hk hu hlt
                      go_wp2_with fail
                      clear c0 c1 c2 c3 c4 hz
                      go_loopw [91] (fun iv wr => ∃ j : Nat, j ≤ i ∧ iv = .int .i64 j ∧ Hid (∀ x, x < j → wt W' Z K (Y x).toNat = true) ∧ Hid (LW W' H' ao ko bo n cap u kcap i bcap Z K Y w wr)) (fun iv _ => i - (intOf iv).toNat)
                      case atStart => exact ⟨0, Nat.zero_le _, rfl, hid (fun x h => by omega), hL⟩
                      case round =>
                        clear hL
                        obtain ⟨j, hj, rfl, hk, hL⟩ := hrel
                        have c0 := hL.out.c0
                        have c1 := hL.out.c1
                        have c2 := hL.out.c2
                        have c3 := hL.out.c3
                        have c4 := hL.out.c4
                        have hz := hL.out.size
                        by_cases hlt : j < i
                        · obtain ⟨bb, off, rfl, hbz, y0⟩ := hL.out.buoys j hlt
                          obtain ⟨t, ht, htl⟩ := tile_ex (HBI.out j hlt)
                          rw [ht] at y0
                          obtain ⟨f, hf⟩ : ∃ f, f = rwet (K t) (sea W' Z t) := ⟨_, rfl⟩
                          have HF := hid (fun w hI hK => rWet_any W' H' ao ko n cap u kcap Z K HG.out HM.out t htl f hf w hI hK)
                          have HFF := hid (And.intro ht (hf.trans (rwet_wt (HFI.out t htl))))
                          clear ht htl hf
                          cases f
                          · have hee : e = 9 := HE.out.rule ⟨HM.out, HK1.out, HA.out⟩ HBI.out fun h => by
                              have := h.2 j hlt
                              rw [HFF.out.1, Int.toNat_natCast, ← HFF.out.2] at this; cases this
                            subst hee
                            go_wp2_with (go_at_call 43; refine (HF.out _ hL.out.land hL.out.kinds).mono ?_; rintro r wn ⟨rfl, hb⟩; have hL2 := hid (hL.out.stays hb); clear hb)
                            go_ret
                            exact ⟨rfl, hL2.out.below⟩
                          · go_wp2_with (go_at_call 43; refine (HF.out _ hL.out.land hL.out.kinds).mono ?_; rintro r wn ⟨rfl, hb⟩; have hL2 := hid (hL.out.stays hb); clear hb)
                            go_roundw
                            case rel =>
                              refine ⟨j + 1, by omega, by go_num, hid (fun x h1 => ?_), hL2⟩
                              by_cases h : x < j
                              · exact hk.out x h
                              · obtain rfl : x = j := by omega
                                rw [HFF.out.1, Int.toNat_natCast]; exact HFF.out.2.symm
                            case measure => simp [intOf]; omega
                        · obtain rfl : j = i := by omega
                          have hee : e = 0 := HE.out.ok ⟨HM.out, HK1.out, HA.out, HBI.out, HFI.out, hk.out⟩
                          subst hee
                          go_wp2_with fail
                          go_ret
                          exact ⟨rfl, hL.out.below⟩
    · have hee : e = 1 := HE.out.arg fun h => hm (h.1.trans HP.out.symm)
      subst hee
      have g1 : ((m : Int) == (p : Int)) = false := by rw [beq_eq_false_iff_ne]; omega
      have g2 : ((m : Int) != (p : Int)) = true := by rw [bne_iff_ne]; omega
      clear hm
      go_enter Try.func17, Try.ntmps17
      go_wp2_with (go_at_call 41; (refine (refvalidate_any W' H' ao n cap Z (by omega) _ HL0.out.land 0 HV.out).mono ?_); rintro r w1 ⟨rfl, hb⟩; have hL := hid (HL0.out.stays hb); clear hb; have c0 := hL.out.c0; have c1 := hL.out.c1; have c2 := hL.out.c2; have c3 := hL.out.c3; have c4 := hL.out.c4; have hz := hL.out.size)
      go_ret
      exact ⟨rfl, hL.out.below⟩
end Go.Proofs.Ytkpnngpnjimogaa
