/-
  The walk of the law on blocks: each piece that lies is in just one.
-/
import Derived.Test.YtbfpcolkbfljoaaDoorBWho
namespace Go.Proofs.YtbfpcolkbfljoaaDoor
open Go.RowKit Go.Maps

set_option maxRecDepth 20000 in
set_option maxHeartbeats 12800000 in
theorem walk_whole (d : Rl) (hb : Bnd d) (w : World) (hH : Has d w) :
    Calls Tryd.prog 8 #[d.rv, d.ls] w fun r w' => r = .returned (.bool true) ∧ Below w.heap.size w w' := by
  obtain ⟨e, he⟩ := BErr.ex d.W d.H d.n d.m d.Z d.B d.l d.S
  obtain ⟨f, hf⟩ := far_ex d
  have HF := hid (fun w => far_any d hb f hf w)
  have HBK := hid (fun w hH => blocks_to d hb e he w hH)
  have HM := hid (LM.start hH)
  have HE := hid he
  have HB := hid hb
  clear hH hf he hb
  cases f
  · by_cases hn : 150 < d.n
    · have g1 : decide ((150 : Int) < (d.n : Int)) = true := by simp; omega
      clear HE HB HBK
      go_enter Tryd.func8, Tryd.ntmps8
      go_upto_region 1 with fail
      generalize World.alloc w _ = wm at HM ⊢
      have c0 := HM.out.rx.c0; have c1 := HM.out.rx.c1; have c2 := HM.out.rx.c2; have c3 := HM.out.rx.c3; have hz := HM.out.rx.size
      go_wp2_with (first
        | (go_at_call 16; (refine (HF.out _).mono ?_); rintro r w1 ⟨rfl, hb⟩; have HM1 := hid (HM.out.stays hb); clear hb c0 c1 c2 c3 hz HM; have c0 := HM1.out.rx.c0; have c1 := HM1.out.rx.c1; have c2 := HM1.out.rx.c2; have c3 := HM1.out.rx.c3; have hz := HM1.out.rx.size)
        | (go_at_call 17; (refine (known_any _ HM1.out.rx.has.tab).mono ?_); rintro r w2 ⟨rfl, hb⟩; have HM2 := hid (HM1.out.stays hb); clear hb c0 c1 c2 c3 hz HM1))
      go_ret
      exact ⟨rfl, HM2.out.below⟩
    · have g1 : decide ((150 : Int) < (d.n : Int)) = false := by simp; omega
      clear hn
      by_cases h0 : e = 0
      · subst h0
        have hg := DErr.gd HE.out
        have hsm := hg.small
        obtain ⟨tt, hwf⟩ := wf_ex d hg
        obtain ⟨K, hK⟩ : ∃ K, K = (rts (blk d (cutB d)) (allp d)).length := ⟨_, rfl⟩
        obtain ⟨ns, hns⟩ : ∃ ns, ns = fun k => (rts (blk d (cutB d)) (allp d)).getD k 0 := ⟨_, rfl⟩
        obtain ⟨ps, hps⟩ : ∃ ps, ps = fun k => pof (blk d (cutB d)) (allp d) ((rts (blk d (cutB d)) (allp d)).getD k 0) := ⟨_, rfl⟩
        rw [← hK, ← hns, ← hps] at hwf
        have HKN := hid (And.intro hK (And.intro hns hps))
        have HWF := hid hwf
        have hKs := hwf.sk
        have HLI := hid (fun (t p : Int) b hb w (hH : Has d w) => reflies_any d.W d.H d.ao d.n d.cap d.Z d.bs t p hg.fine b hb w hH.ints)
        have HOF := hid (fun x hx t p ht hp v hv w hH => of_yes d HB.out HE.out x hx t p ht hp v hv w hH)
        have hn2 : d.n ≤ 1024 := hsm.2
        clear hg hK hns hps hwf hsm HB HE
        go_enter Tryd.func8, Tryd.ntmps8
        go_upto_region 1 with fail
        generalize World.alloc w _ = wm at HM ⊢
        have c0 := HM.out.rx.c0; have c1 := HM.out.rx.c1; have c2 := HM.out.rx.c2; have c3 := HM.out.rx.c3; have hz := HM.out.rx.size
        go_wp2_with (first
          | (go_at_call 16; (refine (HF.out _).mono ?_); rintro r w1 ⟨rfl, hb⟩; have HM1 := hid (HM.out.stays hb); clear hb c0 c1 c2 c3 hz HM; have c0 := HM1.out.rx.c0; have c1 := HM1.out.rx.c1; have c2 := HM1.out.rx.c2; have c3 := HM1.out.rx.c3; have hz := HM1.out.rx.size)
          | (go_at_call 26; (refine (HBK.out _ HM1.out.rx.has).mono ?_); rintro r w2 ⟨lst, rfl, hb, hor⟩; obtain ⟨_, _, vs, hpr⟩ := hor.resolve_left (fun h => h.1 rfl); rw [← HKN.out.1, ← HKN.out.2.1, ← HKN.out.2.2] at hpr; obtain ⟨la, lc, rfl⟩ := slice_of_row hpr.row; have HH : Hid (WH d K ns ps vs la lc w w2) := hid ⟨HM1.out.stays hb, ⟨row_mono hpr.row HM1.out.below.size, fun j hj => row_mono (hpr.rows j hj) HM1.out.below.size, hpr.far, hpr.apart⟩⟩; clear hb hor hpr c0 c1 c2 c3 hz HM1))
        go_loopw [7, 8] (fun nv iv wr => ∃ i : Nat, i ≤ K ∧ iv = .int .i64 i ∧ nv = .int .i64 (tt i : Nat) ∧ Hid (WH d K ns ps vs la lc w wr)) (fun _ iv _ => K - (intOf iv).toNat)
        case atStart => exact ⟨0, Nat.zero_le _, rfl, by rw [HWF.out.t0]; rfl, HH⟩
        case round =>
          clear HH
          obtain ⟨i, hi, rfl, rfl, HH⟩ := hrel
          by_cases hlt : i < K
          · obtain ⟨g, pa, pc, hla, hgz, k0, k1, hI⟩ := HH.out.prs.at hlt
            obtain ⟨pl, hpl⟩ : ∃ pl, pl = (ps i).length := ⟨_, rfl⟩
            have hp0 := HWF.out.ne i hlt
            have hpsl := HWF.out.sl i hlt
            obtain ⟨pb, poff, hpa, hpz, hpc⟩ := hI 0 hp0
            subst hla hpa
            obtain ⟨v, hv⟩ : ∃ v, v = ns i := ⟨_, rfl⟩
            obtain ⟨T, hT⟩ : ∃ T, T = tt i := ⟨_, rfl⟩
            rw [← hT]
            dsimp only at hpc
            rw [HWF.out.first i hlt, Nat.add_zero] at hpc
            rw [← hv] at k0 hpc
            rw [← hpl] at k1 hp0 hpsl
            have HPL := hid hpl
            have HV := hid hv
            have HT := hid hT
            have hTl : T ≤ 10000 := by rw [hT]; exact HWF.out.tb hn2 (by omega)
            have hlt' : (i : Int) < (K : Int) := by omega
            have y1 : ((pl : Int) == 0) = false := by simp; omega
            have y2 : ((v : Int) != (v : Int)) = false := by simp
            clear hpl hv hT hI
            by_cases hi0 : i = 0
            · have y4 : decide (0 < i) = false := by simp; omega
              clear hi0
              go_wp2_with fail
              go_quiet (fail)
              go_wp2_with fail
              have HH2 : Hid (WH d K ns ps vs (some ⟨g, 0, none⟩) lc w (wr.drewN nq)) := hid (HH.out.stays (Joins.below_draws _ _ _))
              clear k0 k1 hpc hpz hgz HH
              clear y1 y2 y4
              go_loopw [7, 9] (fun nv kv wr => ∃ k : Nat, k ≤ pl ∧ kv = .int .i64 k ∧ nv = .int .i64 (T + k : Nat) ∧ Hid (WH d K ns ps vs (some ⟨g, 0, none⟩) lc w wr)) (fun _ kv _ => pl - (intOf kv).toNat)
              case atStart => exact ⟨0, Nat.zero_le _, rfl, rfl, HH2⟩
              case round =>
                clear HH2
                obtain ⟨k, hk, rfl, rfl, HH⟩ := hrel
                obtain ⟨g', pa, pc, hla, hgz, k0, k1, hI⟩ := HH.out.prs.at hlt
                obtain rfl : g = g' := by simpa using hla
                rw [← HPL.out] at k1 hI
                rw [← HV.out] at k0
                clear hla
                by_cases hkl : k < pl
                · obtain ⟨pb, poff, hpa, hpz, hpc⟩ := hI k hkl
                  subst hpa
                  have hkl0 : k < (ps i).length := by rw [← HPL.out]; exact hkl
                  obtain ⟨x, hx⟩ : ∃ x, x = (ps i).getD k 0 := ⟨_, rfl⟩
                  have hxp := HWF.out.pcs i hlt k hkl0
                  dsimp only at hpc
                  rw [← hx] at hxp hpc
                  have hxl := hxp.1.lt
                  have hxa := hxp.1.at
                  obtain ⟨t, htt⟩ : ∃ t, t = x / 8 := ⟨_, rfl⟩
                  obtain ⟨p, hpp⟩ : ∃ p, p = x % 8 := ⟨_, rfl⟩
                  have HO := hid (fun w hH => HOF.out x hxp.1 t p (by rw [htt]) (by rw [hpp]) v (by rw [HV.out]; exact hxp.2) w hH)
                  have e1 : Int.tdiv (x : Int) 8 = (t : Int) := by rw [Int.tdiv_eq_ediv_of_nonneg (by omega)]; omega
                  have e2 : Int.tmod (x : Int) 8 = (p : Int) := by rw [Int.tmod_eq_emod_of_nonneg (by omega)]; omega
                  have e3 : (x : Int) / 8 = (t : Int) := by omega
                  have e4 : (x : Int) % 8 = (p : Int) := by omega
                  have hkl' : (k : Int) < (pl : Int) := by omega
                  have HX := hid hx
                  have c0 := HH.out.lm.rx.c0; have c1 := HH.out.lm.rx.c1; have c2 := HH.out.lm.rx.c2; have c3 := HH.out.lm.rx.c3; have hz := HH.out.lm.rx.size
                  clear hx hxp htt hpp hI hxa
                  by_cases hk0 : k = 0
                  · have z1 : decide ((0 : Int) < (k : Int)) = false := by simp; omega
                    have z1n : decide (0 < k) = false := by simp; omega
                    clear hk0
                    go_wp2_with (go_at_call 29; (refine (HO.out _ HH.out.lm.rx.has).mono ?_); rintro r w3 ⟨rfl, hb⟩; have HH2 := hid (HH.out.stays hb); clear hb c0 c1 c2 c3 hz k0 k1 hpc hpz hgz HH; obtain ⟨g', pa', pc', hla, hgz, k0, k1, hI⟩ := HH2.out.prs.at hlt; obtain rfl : g = g' := (by simpa using hla); rw [← HPL.out] at k1 hI; rw [← HV.out] at k0; clear hla; clear hI)
                    go_roundw
                    case rel => exact ⟨k + 1, by omega, by go_num, by go_num, HH2⟩
                    case measure => simp [intOf]; omega

                  · have z1 : decide ((0 : Int) < (k : Int)) = true := by simp; omega
                    have z1n : decide (0 < k) = true := by simp; omega
                    obtain ⟨m, hm⟩ : ∃ m, k = m + 1 := ⟨k - 1, by omega⟩
                    have e6 : (k : Int) - 1 = (m : Int) := by omega
                    have hkk : m < pl := by omega
                    have hmp : (m : Int) < (pl : Int) := by omega
                    obtain ⟨y, hy⟩ : ∃ y, y = (ps i).getD m 0 := ⟨_, rfl⟩
                    have hyx : y < x := by rw [hy, HX.out, hm]; exact HWF.out.pasc i hlt m (by rw [← hm]; exact hkl0)
                    have HY := hid hy
                    have z2 : decide ((x : Int) ≤ (y : Int)) = false := by simp; omega
                    have z2n : decide (x ≤ y) = false := by simp; omega
                    clear hy hkl0 hm hk0
                    go_wp2_with (go_at_call 29; (refine (HO.out _ HH.out.lm.rx.has).mono ?_); rintro r w3 ⟨rfl, hb⟩; have HH2 := hid (HH.out.stays hb); clear hb c0 c1 c2 c3 hz k0 k1 hpc hpz hgz HH; obtain ⟨g', pa', pc', hla, hgz, k0, k1, hI⟩ := HH2.out.prs.at hlt; obtain rfl : g = g' := (by simpa using hla); rw [← HPL.out] at k1 hI; rw [← HV.out] at k0; clear hla; obtain ⟨pb', poff', hpa', hpz', hpc'⟩ := hI m hkk; subst hpa'; dsimp only at hpc'; rw [← HY.out] at hpc'; clear hI)
                    go_roundw
                    case rel => exact ⟨k + 1, by omega, by go_num, by go_num, HH2⟩
                    case measure => simp [intOf]; omega

                · obtain rfl : k = pl := by omega
                  clear hI
                  go_wp2_with fail
                  go_roundw
                  case rel => exact ⟨i + 1, by omega, by go_num, by rw [HWF.out.ts i hlt, ← HPL.out, HT.out], HH⟩
                  case measure => simp [intOf]; omega

            · have y4 : decide (0 < i) = true := by simp; omega
              obtain ⟨j, hj⟩ : ∃ j, i = j + 1 := ⟨i - 1, by omega⟩
              have e5 : (i : Int) - 1 = (j : Int) := by omega
              have hjK : (j : Int) < (K : Int) := by omega
              obtain ⟨g', _, _, hla, _, k2, _, _⟩ := HH.out.prs.at (show j < K by omega)
              obtain rfl : g = g' := by simpa using hla
              obtain ⟨u, hu⟩ : ∃ u, u = ns j := ⟨_, rfl⟩
              have hyx : u < v := by rw [hu, HV.out, hj]; exact HWF.out.asc j (by omega)
              rw [← hu] at k2
              have y3 : decide (v ≤ u) = false := by simp; omega
              clear hu hla hj hi0
              go_wp2_with fail
              go_quiet (fail)
              go_wp2_with fail
              have HH2 : Hid (WH d K ns ps vs (some ⟨g, 0, none⟩) lc w (wr.drewN nq)) := hid (HH.out.stays (Joins.below_draws _ _ _))
              clear k0 k1 hpc hpz hgz HH
              clear y1 y2 y4 y3 k2 hyx e5
              go_loopw [7, 9] (fun nv kv wr => ∃ k : Nat, k ≤ pl ∧ kv = .int .i64 k ∧ nv = .int .i64 (T + k : Nat) ∧ Hid (WH d K ns ps vs (some ⟨g, 0, none⟩) lc w wr)) (fun _ kv _ => pl - (intOf kv).toNat)
              case atStart => exact ⟨0, Nat.zero_le _, rfl, rfl, HH2⟩
              case round =>
                clear HH2
                obtain ⟨k, hk, rfl, rfl, HH⟩ := hrel
                obtain ⟨g', pa, pc, hla, hgz, k0, k1, hI⟩ := HH.out.prs.at hlt
                obtain rfl : g = g' := by simpa using hla
                rw [← HPL.out] at k1 hI
                rw [← HV.out] at k0
                clear hla
                by_cases hkl : k < pl
                · obtain ⟨pb, poff, hpa, hpz, hpc⟩ := hI k hkl
                  subst hpa
                  have hkl0 : k < (ps i).length := by rw [← HPL.out]; exact hkl
                  obtain ⟨x, hx⟩ : ∃ x, x = (ps i).getD k 0 := ⟨_, rfl⟩
                  have hxp := HWF.out.pcs i hlt k hkl0
                  dsimp only at hpc
                  rw [← hx] at hxp hpc
                  have hxl := hxp.1.lt
                  have hxa := hxp.1.at
                  obtain ⟨t, htt⟩ : ∃ t, t = x / 8 := ⟨_, rfl⟩
                  obtain ⟨p, hpp⟩ : ∃ p, p = x % 8 := ⟨_, rfl⟩
                  have HO := hid (fun w hH => HOF.out x hxp.1 t p (by rw [htt]) (by rw [hpp]) v (by rw [HV.out]; exact hxp.2) w hH)
                  have e1 : Int.tdiv (x : Int) 8 = (t : Int) := by rw [Int.tdiv_eq_ediv_of_nonneg (by omega)]; omega
                  have e2 : Int.tmod (x : Int) 8 = (p : Int) := by rw [Int.tmod_eq_emod_of_nonneg (by omega)]; omega
                  have e3 : (x : Int) / 8 = (t : Int) := by omega
                  have e4 : (x : Int) % 8 = (p : Int) := by omega
                  have hkl' : (k : Int) < (pl : Int) := by omega
                  have HX := hid hx
                  have c0 := HH.out.lm.rx.c0; have c1 := HH.out.lm.rx.c1; have c2 := HH.out.lm.rx.c2; have c3 := HH.out.lm.rx.c3; have hz := HH.out.lm.rx.size
                  clear hx hxp htt hpp hI hxa
                  by_cases hk0 : k = 0
                  · have z1 : decide ((0 : Int) < (k : Int)) = false := by simp; omega
                    have z1n : decide (0 < k) = false := by simp; omega
                    clear hk0
                    go_wp2_with (go_at_call 29; (refine (HO.out _ HH.out.lm.rx.has).mono ?_); rintro r w3 ⟨rfl, hb⟩; have HH2 := hid (HH.out.stays hb); clear hb c0 c1 c2 c3 hz k0 k1 hpc hpz hgz HH; obtain ⟨g', pa', pc', hla, hgz, k0, k1, hI⟩ := HH2.out.prs.at hlt; obtain rfl : g = g' := (by simpa using hla); rw [← HPL.out] at k1 hI; rw [← HV.out] at k0; clear hla; clear hI)
                    go_roundw
                    case rel => exact ⟨k + 1, by omega, by go_num, by go_num, HH2⟩
                    case measure => simp [intOf]; omega

                  · have z1 : decide ((0 : Int) < (k : Int)) = true := by simp; omega
                    have z1n : decide (0 < k) = true := by simp; omega
                    obtain ⟨m, hm⟩ : ∃ m, k = m + 1 := ⟨k - 1, by omega⟩
                    have e6 : (k : Int) - 1 = (m : Int) := by omega
                    have hkk : m < pl := by omega
                    have hmp : (m : Int) < (pl : Int) := by omega
                    obtain ⟨y, hy⟩ : ∃ y, y = (ps i).getD m 0 := ⟨_, rfl⟩
                    have hyx : y < x := by rw [hy, HX.out, hm]; exact HWF.out.pasc i hlt m (by rw [← hm]; exact hkl0)
                    have HY := hid hy
                    have z2 : decide ((x : Int) ≤ (y : Int)) = false := by simp; omega
                    have z2n : decide (x ≤ y) = false := by simp; omega
                    clear hy hkl0 hm hk0
                    go_wp2_with (go_at_call 29; (refine (HO.out _ HH.out.lm.rx.has).mono ?_); rintro r w3 ⟨rfl, hb⟩; have HH2 := hid (HH.out.stays hb); clear hb c0 c1 c2 c3 hz k0 k1 hpc hpz hgz HH; obtain ⟨g', pa', pc', hla, hgz, k0, k1, hI⟩ := HH2.out.prs.at hlt; obtain rfl : g = g' := (by simpa using hla); rw [← HPL.out] at k1 hI; rw [← HV.out] at k0; clear hla; obtain ⟨pb', poff', hpa', hpz', hpc'⟩ := hI m hkk; subst hpa'; dsimp only at hpc'; rw [← HY.out] at hpc'; clear hI)
                    go_roundw
                    case rel => exact ⟨k + 1, by omega, by go_num, by go_num, HH2⟩
                    case measure => simp [intOf]; omega

                · obtain rfl : k = pl := by omega
                  clear hI
                  go_wp2_with fail
                  go_roundw
                  case rel => exact ⟨i + 1, by omega, by go_num, by rw [HWF.out.ts i hlt, ← HPL.out, HT.out], HH⟩
                  case measure => simp [intOf]; omega

          · obtain rfl : i = K := by omega
            obtain ⟨N, hN⟩ : ∃ N, N = (pcs d.n d.Z d.n).length := ⟨_, rfl⟩
            have hT : tt i = N := by rw [hN]; exact HWF.out.tk
            rw [hT]
            have HN := hid hN
            have HM := hid HH.out.lm
            have hNl : N ≤ 10000 := by rw [hN]; have := pcs_len d.n d.Z d.n; omega
            clear hN hT HH HWF HKN HOF
            go_wp2_with fail
            go_loopw [13, 14] (fun cv tv wr => ∃ t : Nat, t ≤ d.n ∧ tv = .int .i64 t ∧ cv = .int .i64 ((pcs d.n d.Z t).length : Nat) ∧ Hid (LM d w wr)) (fun _ tv _ => d.n - (intOf tv).toNat)
            case atStart => exact ⟨0, Nat.zero_le _, rfl, rfl, HM⟩
            case round =>
              clear HM
              obtain ⟨t, ht, rfl, rfl, HM⟩ := hrel
              have c2 := HM.out.rx.c2; have hz := HM.out.rx.size
              by_cases hlt : t < d.n
              · have hlt' : (t : Int) < (d.n : Int) := by omega
                have hpt := pcs_len d.n d.Z t
                go_wp2_with fail
                go_loopw [13, 15] (fun cv kv wr => ∃ k : Nat, k ≤ 6 ∧ kv = .int .i64 k ∧ cv = .int .i64 ((pcs d.n d.Z t).length + (rwk d.n d.Z t k).length : Nat) ∧ Hid (LM d w wr)) (fun _ kv _ => 6 - (intOf kv).toNat)
                case atStart => exact ⟨0, Nat.zero_le _, rfl, by simp [rwk], HM⟩
                case round =>
                  clear HM c2 hz
                  obtain ⟨k, hk, rfl, rfl, HM⟩ := hrel
                  by_cases hkl : k < 6
                  · have hkl' : (k : Int) < 6 := by omega
                    have c0 := HM.out.rx.c0; have c1 := HM.out.rx.c1; have c2 := HM.out.rx.c2; have c3 := HM.out.rx.c3; have hz := HM.out.rx.size
                    obtain ⟨q, hq⟩ : ∃ q, Lie d.n d.Z t k = q := ⟨_, rfl⟩
                    have HL := hid (fun w hH => HLI.out t k q hq w hH)
                    have hrl := rwk_len d.n d.Z t k
                    obtain ⟨S, hS⟩ : ∃ S, S = (pcs d.n d.Z t).length + (rwk d.n d.Z t k).length := ⟨_, rfl⟩
                    have hSl : S ≤ 10000 := by omega
                    rw [← hS]
                    have HS := hid hS
                    have HQ := hid hq
                    clear hS hq hrl hpt
                    cases q
                    · go_wp2_with (go_at_call 30; (refine (HL.out _ HM.out.rx.has).mono ?_); rintro r w4 ⟨rfl, hb⟩; have HM4 := hid (HM.out.stays hb); clear hb c0 c1 c2 c3 hz HM)
                      go_roundw
                      case rel => exact ⟨k + 1, by omega, by go_num, by rw [rwk_no HQ.out, HS.out], HM4⟩
                      case measure => simp [intOf]; omega
                    · go_wp2_with (go_at_call 30; (refine (HL.out _ HM.out.rx.has).mono ?_); rintro r w4 ⟨rfl, hb⟩; have HM4 := hid (HM.out.stays hb); clear hb c0 c1 c2 c3 hz HM)
                      go_roundw
                      case rel => exact ⟨k + 1, by omega, by go_num, by rw [rwk_yes HQ.out, List.length_append, HS.out]; simp; omega, HM4⟩
                      case measure => simp [intOf]; omega
                  · obtain rfl : k = 6 := by omega
                    go_wp2_with fail
                    go_roundw
                    case rel => exact ⟨t + 1, by omega, by go_num, by rw [pcs, List.length_append], HM⟩
                    case measure => simp [intOf]; omega
              · obtain rfl : t = d.n := by omega
                rw [← HN.out]
                go_wp2_with (go_at_call 17; (refine (known_any _ HM.out.rx.has.tab).mono ?_); rintro r w5 ⟨rfl, hb⟩; have HM5 := hid (HM.out.stays hb); clear hb c2 hz HM)
                go_ret
                exact ⟨rfl, HM5.out.below⟩

      · have g : (e != 0) = true := by simpa using h0
        have g2 : (e == 0) = false := by simpa using h0
        clear HE HB
        go_enter Tryd.func8, Tryd.ntmps8
        go_upto_region 1 with fail
        generalize World.alloc w _ = wm at HM ⊢
        have c0 := HM.out.rx.c0; have c1 := HM.out.rx.c1; have c2 := HM.out.rx.c2; have c3 := HM.out.rx.c3; have hz := HM.out.rx.size
        go_wp2_with (first
          | (go_at_call 16; (refine (HF.out _).mono ?_); rintro r w1 ⟨rfl, hb⟩; have HM1 := hid (HM.out.stays hb); clear hb c0 c1 c2 c3 hz HM; have c0 := HM1.out.rx.c0; have c1 := HM1.out.rx.c1; have c2 := HM1.out.rx.c2; have c3 := HM1.out.rx.c3; have hz := HM1.out.rx.size)
          | (go_at_call 26; (refine (HBK.out _ HM1.out.rx.has).mono ?_); rintro r w2 ⟨lst, rfl, hb, hor⟩; have HM2 := hid (HM1.out.stays hb); clear hb hor c0 c1 c2 c3 hz HM1)
          | (go_at_call 17; (refine (known_any _ HM2.out.rx.has.tab).mono ?_); rintro r w3 ⟨rfl, hb⟩; have HM3 := hid (HM2.out.stays hb); clear hb HM2))
        go_ret
        exact ⟨rfl, HM3.out.below⟩
  · clear HE HB HBK
    go_enter Tryd.func8, Tryd.ntmps8
    go_upto_region 1 with fail
    generalize World.alloc w _ = wm at HM ⊢
    have c0 := HM.out.rx.c0; have c1 := HM.out.rx.c1; have c2 := HM.out.rx.c2; have c3 := HM.out.rx.c3; have hz := HM.out.rx.size
    go_wp2_with (first
      | (go_at_call 16; (refine (HF.out _).mono ?_); rintro r w1 ⟨rfl, hb⟩; have HM1 := hid (HM.out.stays hb); clear hb c0 c1 c2 c3 hz HM; have c0 := HM1.out.rx.c0; have c1 := HM1.out.rx.c1; have c2 := HM1.out.rx.c2; have c3 := HM1.out.rx.c3; have hz := HM1.out.rx.size)
      | (go_at_call 17; (refine (known_any _ HM1.out.rx.has.tab).mono ?_); rintro r w2 ⟨rfl, hb⟩; have HM2 := hid (HM1.out.stays hb); clear hb c0 c1 c2 c3 hz HM1))
    go_ret
    exact ⟨rfl, HM2.out.below⟩
end Go.Proofs.YtbfpcolkbfljoaaDoor
