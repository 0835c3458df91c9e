/-
  The walk of numbers of the reference: the marks of all blocks.
-/
import Derived.Test.YtbfpcolkbfljoaaDoorBNm1
import Derived.StillTailTactics
namespace Go.Proofs.YtbfpcolkbfljoaaDoor
open Go.RowKit Go.Maps

theorem nr_no {d : Rl} {C : Int → Int → Int → Bool} {t p s : Nat} (h : ¬ opn d C t p s) : nr d C t p (s + 1) = nr d C t p s := by
  show nr d C t p s ++ nrs d C t p s = _
  rw [nrs_no h, List.append_nil]
theorem nr_yes {d : Rl} {C : Int → Int → Int → Bool} {t p s u o : Nat} (h : opn d C t p s) (hu : bey d.W d.H t s = (u : Int)) (ho : o = (s + 2) % 4) : nr d C t p (s + 1) = nr d C t p s ++ fq (pS d C u o) (u * 6) 6 := by
  show nr d C t p s ++ nrs d C t p s = _
  rw [nrs_yes h, hu, ← ho, Int.toNat_natCast]
/-- The signals that are cut in so far. -/
def Kc (d : Rl) (i : Nat) : Nat → Bool := fun j => (List.range i).any fun x => decide (((d.S x).t * 6 + (d.S x).p) * 4 + (d.S x).o = (j : Int))
theorem Kc_zero (d : Rl) : Kc d 0 = fun _ => false := rfl
theorem Kc_succ (d : Rl) (i x : Nat) (h : ((d.S i).t * 6 + (d.S i).p) * 4 + (d.S i).o = (x : Int)) : upK (Kc d i) x true = Kc d (i + 1) := by
  funext j
  unfold upK Kc
  rw [List.range_succ, List.any_append]
  by_cases e : j = x
  · subst e; simp [h]
  · rw [if_neg e]
    have : ¬ ((d.S i).t * 6 + (d.S i).p) * 4 + (d.S i).o = (j : Int) := by omega
    simp [this]
theorem oth_side {p s : Int} (hp : 0 ≤ p ∧ p ≤ 5) (h : 0 ≤ oth p s) : 0 ≤ s ∧ s ≤ 3 := by
  have h1 := fst_in hp.1 hp.2
  have h2 := snd_in hp.1 hp.2
  unfold oth at h
  split at h
  · omega
  · split at h
    · omega
    · split at h <;> omega
theorem Kc_cut (d : Rl) (hg : Gd d) (t p s : Nat) (hp : p ≤ 5) (hs : s < 4) : Kc d d.l ((t * 6 + p) * 4 + s) = cutB d t p s := by
  rw [Bool.eq_iff_iff, cutB_iff]
  unfold Kc
  simp only [List.any_eq_true, List.mem_range, decide_eq_true_eq]
  constructor
  · rintro ⟨i, hi, e⟩
    have h := hg.stand i hi
    have hl := lie_in h.2
    have ho := oth_side ⟨hl.1.2.2.1, hl.1.2.2.2⟩ h.1
    exact ⟨i, hi, by omega, by omega, by omega⟩
  · rintro ⟨i, hi, e1, e2, e3⟩
    exact ⟨i, hi, by rw [e1, e2, e3]; omega⟩
/-- What numbers hands back. -/
def NumIs (d : Rl) (w : World) (r : Ending) (w' : World) : Prop :=
  ∃ F, r = .returned (.slice (some ⟨w.heap.size + 1, 0, none⟩) (6 * d.n) (6 * d.n)) ∧ Below w.heap.size w w' ∧ w'.ownsRow w.heap.size 3 1 (.slice (some ⟨w.heap.size + 1, 0, none⟩) (6 * d.n) (6 * d.n)) (6 * d.n) (vals (6 * d.n) (iv F)) ∧ Out d (cutB d) (6 * d.n) F

set_option maxRecDepth 20000 in
set_option maxHeartbeats 25600000 in
theorem numbers_any (d : Rl) (hg : Gd d) (w : World) (hH : Has d w) :
    Calls Tryd.prog 65 #[d.rv, d.ls] w (NumIs d w) := by
  have hsm := hg.small
  have hn2 : d.n ≤ 1024 := hsm.2
  have hll := hg.ok.few
  have HSZ : Hid (Sized d.W d.H ∧ (d.n : Int) = d.W * d.H) := hid ⟨hg.sized, hg.right.sets⟩
  have HG := hid hg
  have HLI := hid (fun (t p : Int) b hb w (hH : Has d w) => reflies_any d.W d.H d.ao d.n d.cap d.Z d.bs t p hg.fine b hb w hH.ints)
  have HIN := hid infoX
  obtain ⟨N, hN⟩ : ∃ N, N = 6 * d.n := ⟨_, rfl⟩
  obtain ⟨Q, hQ⟩ : ∃ Q, Q = 24 * d.n := ⟨_, rfl⟩
  have hNl : N ≤ 10000 := by omega
  have hQl : Q ≤ 100000 := by omega
  have eN : (6 : Int) * (d.n : Int) = (N : Int) := by omega
  have eQ : (24 : Int) * (d.n : Int) = (Q : Int) := by omega
  have HN := hid hN
  have HQ := hid hQ
  have hm1 := run_mkIN N (by omega)
  have hm2 := run_mkBN Q hQl
  obtain ⟨A, hA⟩ : ∃ A, A = w.heap.size := ⟨_, rfl⟩
  have HA := hid hA
  have HO0 : Hid (NO d A N (fun _ => 0) w ((w.alloc (.cells #[.int .i64 d.W, .int .i64 d.H, d.as, d.bs] 25)).alloc (.cells (madeCells #[.int .i64 0] N) 3)) ∧ ((w.alloc (.cells #[.int .i64 d.W, .int .i64 d.H, d.as, d.bs] 25)).alloc (.cells (madeCells #[.int .i64 0] N) 3)).heap.size = A + 2) := hid ⟨NO.start hH hA hN hn2, by simp; omega⟩
  obtain ⟨lo, hlo⟩ : ∃ lo, lo = d.lo := ⟨_, rfl⟩
  show Calls _ _ #[d.rv, .slice d.lo d.l d.lcap] w _
  rw [← hlo]
  have HLO := hid hlo
  show Calls _ _ _ _ (fun r w' => NumIs d w r w')
  clear hg hsm hH hN hQ hlo
  go_enter Tryd.func65, Tryd.ntmps65
  go_upto_region 3 with fail
  simp only [← hA]
  clear hm1 hA
  generalize World.alloc (World.alloc w _) _ = wm at HO0 ⊢
  go_wp2_with fail
  go_loopw [7] (fun iv wr => ∃ i : Nat, i ≤ N ∧ iv = .int .i64 i ∧ Hid (NO d A N (fun j => if j < i then -1 else 0) w wr ∧ wr.heap.size = A + 2)) (fun iv _ => N - (intOf iv).toNat)
  case atStart => exact ⟨0, Nat.zero_le _, rfl, hid ⟨HO0.out.1.congr (fun j _ => by simp), HO0.out.2⟩⟩
  case round =>
    clear HO0
    obtain ⟨i, hi, rfl, HV⟩ := hrel
    by_cases hlt : i < N
    · have hlt' : (i : Int) < (N : Int) := by omega
      obtain ⟨ci, fi⟩ := HV.out.1.at hlt
      have gz := HV.out.1.size
      go_wp2_with fail
      go_roundw
      case rel => exact ⟨i + 1, by omega, by go_num, hid ⟨(HV.out.1.mark i (-1)).congr (fun j _ => by
        unfold upF
        by_cases e : j = i
        · subst e; rw [if_pos rfl, if_pos (by omega)]
        · rw [if_neg e]
          show (if j < i then (-1 : Int) else 0) = _
          by_cases e2 : j < i
          · rw [if_pos e2, if_pos (by omega)]
          · rw [if_neg e2, if_neg (by omega)]), by simpa using HV.out.2⟩⟩
      case measure => simp [intOf]; omega
    · obtain rfl : N = i := by omega
      have hwz := HV.out.2
      have HV2 : Hid (NM d A N Q (fun _ => -1) (Kc d 0) w (wr.alloc (.cells (madeCells #[.bool false] Q) 4))) := hid (by
        rw [Kc_zero]
        exact NM.start (HV.out.1.congr (fun j hj => by rw [if_pos hj])) hwz.symm HQ.out hn2)
      go_upto_region 8 with fail
      try simp only [hwz]
      clear hwz HV hm2
      generalize World.alloc wr _ = wm2 at HV2 ⊢
      go_wp2_with fail
      go_loopw [9] (fun iv wr => ∃ x : Nat, x ≤ d.l ∧ iv = .int .i64 x ∧ Hid (NM d A N Q (fun _ => -1) (Kc d x) w wr)) (fun iv _ => d.l - (intOf iv).toNat)
      case atStart => exact ⟨0, Nat.zero_le _, rfl, HV2⟩
      case round =>
        clear HV2
        obtain ⟨x, hx, rfl, HV⟩ := hrel
        by_cases hxl : x < d.l
        · have hxl' : (x : Int) < (d.l : Int) := by omega
          obtain ⟨sb, soff, hsl, hsz, k0, k1, k2, _⟩ := HV.out.no.has.sigs x hxl
          obtain rfl : lo = some ⟨sb, soff, none⟩ := HLO.out.trans hsl
          have hst := HG.out.stand x hxl
          have hl := lie_in hst.2
          have ho := oth_side ⟨hl.1.2.2.1, hl.1.2.2.2⟩ hst.1
          obtain ⟨y, hy⟩ := Int.eq_ofNat_of_zero_le (show 0 ≤ ((d.S x).t * 6 + (d.S x).p) * 4 + (d.S x).o by omega)
          have hyQ : y < Q := by have := HQ.out; omega
          obtain ⟨cy, fy⟩ := HV.out.cutAt hyQ
          have gz := HV.out.size
          have HY := hid hy
          obtain ⟨st, hst'⟩ : ∃ v, v = (d.S x).t := ⟨_, rfl⟩
          obtain ⟨sp, hsp'⟩ : ∃ v, v = (d.S x).p := ⟨_, rfl⟩
          obtain ⟨so, hso'⟩ : ∃ v, v = (d.S x).o := ⟨_, rfl⟩
          rw [← hst'] at k0 hl hy
          rw [← hsp'] at k1 hl hy
          rw [← hso'] at k2 ho hy
          clear hst hst' hsp' hso' hsl
          obtain ⟨a1, ha1⟩ := Int.eq_ofNat_of_zero_le hl.1.1
          obtain ⟨a2, ha2⟩ := Int.eq_ofNat_of_zero_le hl.1.2.2.1
          obtain ⟨a3, ha3⟩ := Int.eq_ofNat_of_zero_le ho.1
          subst ha1 ha2 ha3
          have y1 : (a1 : Int) * 6 ≤ 100000 := by omega
          obtain ⟨hl1, hl2, hl3, hl4⟩ := hl.1
          obtain ⟨ho1, ho2⟩ := ho
          clear hl
          go_wp2_with fail
          go_still_tail 20, (by kernel_rfl)
          change wpList _ _ _ _ _ wr.drew
          have HV1 : Hid (NM d A N Q (fun _ => -1) (Kc d x) w wr.drew) := hid (HV.out.stays ((Below.refl _ _).drew))
          clear k0 k1 k2 cy fy gz HV
          generalize wr.drew = wr1 at HV1 ⊢
          obtain ⟨cy, fy⟩ := HV1.out.cutAt hyQ
          have gz := HV1.out.size
          have e1 : IntKind.i64.wrap ((a1 : Int) * 6) = (a1 : Int) * 6 := by rw [IntKind.wrap_i64]; omega
          have e2 : IntKind.i64.wrap ((a1 : Int) * 6 + (a2 : Int)) = (a1 : Int) * 6 + (a2 : Int) := by rw [IntKind.wrap_i64]; omega
          have e3 : IntKind.i64.wrap (((a1 : Int) * 6 + (a2 : Int)) * 4) = ((a1 : Int) * 6 + (a2 : Int)) * 4 := by rw [IntKind.wrap_i64]; omega
          have e4 : IntKind.i64.wrap (((a1 : Int) * 6 + (a2 : Int)) * 4 + (a3 : Int)) = (y : Int) := by rw [IntKind.wrap_i64]; omega
          rw [e1, e2, e3, e4]
          clear e1 e2 e3 e4 hy
          go_wp2_with fail
          go_roundw
          case rel => exact ⟨x + 1, by omega, by go_num, hid (by rw [← Kc_succ d x y HY.out]; exact HV1.out.stop y true)⟩
          case measure => simp [intOf]; omega

        · obtain rfl : x = d.l := by omega
          obtain ⟨K, hK⟩ : ∃ K, K = Kc d d.l := ⟨_, rfl⟩
          obtain ⟨C, hC⟩ : ∃ C, C = cutB d := ⟨_, rfl⟩
          have HK : Hid (∀ t p s, t < d.n → p ≤ 5 → s < 4 → K ((t * 6 + p) * 4 + s) = C t p s) := hid (fun t p s ht hp hs => by rw [hK, hC]; exact Kc_cut d HG.out t p s hp hs)
          rw [← hK] at HV
          have HC := hid hC
          clear hK hC
          go_wp2_with fail
          go_loopw [10] (fun iv wr => ∃ (i : Nat) (F : Nat → Int), i ≤ N ∧ iv = .int .i64 i ∧ Hid (Out d C i F) ∧ Hid (NM d A N Q F K w wr)) (fun iv _ => N - (intOf iv).toNat)
          case atStart => exact ⟨0, _, Nat.zero_le _, rfl, hid Out.start, HV⟩
          case round =>
            clear HV
            obtain ⟨i, F, hi, rfl, HO, HV⟩ := hrel
            by_cases hiN : i < N
            · have hiN' : (i : Int) < (N : Int) := by omega
              have HI6 : Hid (i < 6 * d.n) := hid (by rw [← HN.out]; exact hiN)
              obtain ⟨ci, fi⟩ := HV.out.no.at hiN
              obtain ⟨v, hv⟩ : ∃ v, v = F i := ⟨_, rfl⟩
              rw [← hv] at ci
              have HVI := hid hv
              obtain ⟨c0, c1, c2, c3, az, gz⟩ := HV.out.no.cells
              obtain ⟨ti, hti⟩ : ∃ t, t = i / 6 := ⟨_, rfl⟩
              obtain ⟨pi, hpi⟩ : ∃ p, p = i % 6 := ⟨_, rfl⟩
              have e1 : Int.tdiv (i : Int) 6 = (ti : Int) := by rw [Int.tdiv_eq_ediv_of_nonneg (by omega)]; omega
              have e2 : Int.tmod (i : Int) 6 = (pi : Int) := by rw [Int.tmod_eq_emod_of_nonneg (by omega)]; omega
              have e3 : (i : Int) / 6 = (ti : Int) := by omega
              have e4 : (i : Int) % 6 = (pi : Int) := by omega
              have hti2 : ti < d.n := by have := HN.out; omega
              have hpi5 : pi ≤ 5 := by omega
              obtain ⟨b, hb⟩ : ∃ b, Lie d.n d.Z ti pi = b := ⟨_, rfl⟩
              have HL1 := hid (fun w hH => HLI.out ti pi b hb w hH)
              have HPL : Hid (Pl d (x8 i) ↔ b = true) := hid (by unfold Pl; rw [x8_div, x8_mod, ← hti, ← hpi, hb])
              obtain ⟨X, hX⟩ : ∃ X, X = x8 i := ⟨_, rfl⟩
              have eX : (ti : Int) * 8 + (pi : Int) = (X : Int) := by rw [hX]; unfold x8; omega
              have hXl : X ≤ 100000 := by omega
              have HXX := hid hX
              clear hv hti hpi hb hX
              by_cases hv0 : 0 ≤ v
              · have hvd : decide (0 ≤ v) = true := by simp; omega
                have HV0 := hid hv0
                clear hv0
                go_wp2_with fail
                go_roundw
                case rel => exact ⟨i + 1, F, by omega, by go_num, hid (HO.out.skip HG.out HI6.out (.inl (by rw [← HVI.out]; exact HV0.out))), HV⟩
                case measure => simp [intOf]; omega
              · have hvd : decide (0 ≤ v) = false := by simp; omega
                have HV0 := hid hv0
                clear hv0
                cases b
                · go_wp2_with (go_at_call 30; (refine (HL1.out _ HV.out.no.has).mono ?_); rintro r w3 ⟨rfl, hb⟩; have HV3 := hid (HV.out.stays hb); clear hb c0 c1 c2 c3 az gz ci fi HV)
                  go_roundw
                  case rel => exact ⟨i + 1, F, by omega, by go_num, hid (HO.out.skip HG.out HI6.out (.inr (by rw [HPL.out]; simp))), HV3⟩
                  case measure => simp [intOf]; omega
                · have HEN : Hid (Sr d C i (upF F i (X : Int)) [i]) := hid (by rw [HXX.out]; exact HO.out.enter HI6.out (HPL.out.2 rfl) (by rw [← HVI.out]; have := HV0.out; omega))
                  have HFR : Hid (fre N (upF F i (X : Int)) + 1 = fre N F) := hid (fre_up hiN (by rw [← HVI.out]; have := HV0.out; omega) (by omega))
                  go_upto_region 17 with (go_at_call 30; (refine (HL1.out _ HV.out.no.has).mono ?_); rintro r w3 ⟨rfl, hb⟩; have HV3 := hid (HV.out.stays hb); clear hb c0 c1 c2 c3 az gz ci fi HV; obtain ⟨ci, fi⟩ := HV3.out.no.at hiN; have gz := HV3.out.no.size)
                  have H2 := hid (HV3.out.mark i (X : Int))
                  clear ci fi gz HV3
                  generalize World.setCell _ _ _ = w4 at H2 ⊢
                  go_upto_region 18 with fail
                  have H3 := hid (NS.start H2.out i)
                  clear H2 e1 e2 e3 e4 hvd hti2 hpi5
                  generalize World.alloc _ _ = w5 at H3 ⊢
                  go_loopg [11] (2 * fre N (upF F i (X : Int)) + 1) (fun gk tv wr => ∃ (F : Nat → Int) (L : List Nat), gk = 2 * fre N F + L.length ∧ Hid (Sr d C i F L) ∧ Hid (NM d A N Q F K w wr ∧ wr.ownsRow (A + 3) 3 1 tv L.length (encN L.reverse)) ∧ Hid (L.length + fre N F ≤ N))
                  case atStart => exact ⟨_, [i], rfl, HEN, hid ⟨H3.out.nm, H3.out.td⟩, hid (by have := HFR.out; have := fre_le N F; simp only [List.length_cons, List.length_nil]; omega)⟩
                  case round =>
                    clear H3 HEN HFR HO
                    obtain ⟨F, L, hgk, HSR, HZ, HBD⟩ := hrel
                    have HGK := hid hgk
                    clear hgk
                    rcases L with _ | ⟨k, L⟩
                    · obtain ⟨al, cl, hl⟩ := slice_of_row HZ.out.2
                      simp only [List.length_nil] at hl
                      subst hl
                      go_wp2_with fail
                      go_roundw
                      case rel => exact ⟨i + 1, F, by omega, by go_num, hid (HSR.out.leave HG.out), hid HZ.out.1⟩
                      case measure => simp [intOf]; omega
                    · have HS0 := hid (NS.mk (L := k :: L) (M := []) (nl := .slice none 0 0) HZ.out.1 HZ.out.2 (by simpa [encN] using World.ownsRow_nil _ _ _ _) (fun b _ h => by cases h))
                      obtain ⟨tb, tc, htv, hct, hbz, hqc⟩ := HS0.out.top
                      subst htv
                      have HK6 : Hid (k < 6 * d.n) := hid (HSR.out.stk k (by simp)).1
                      have hkN : k < N := by rw [HN.out]; exact HK6.out
                      obtain ⟨q0, hq0⟩ : ∃ q, q = L.length + 1 := ⟨_, rfl⟩
                      obtain ⟨q1, hq1⟩ : ∃ q, q = L.length := ⟨_, rfl⟩
                      have hLB : q0 ≤ N := by have := HBD.out; simp only [List.length_cons] at this; omega
                      have hqd : decide (0 < q0) = true := decide_eq_true (by omega)
                      have hqw : IntKind.i64.wrap ((q0 : Int) - 1) = (q1 : Int) := by rw [IntKind.wrap_i64]; omega
                      have hq2 : q1 < q0 := by omega
                      have hq3 : q0 ≤ tc := by omega
                      have HX := hid HS0.out.cut
                      rw [← hq1] at hct HX
                      rw [← hq0] at HZ HS0 ⊢
                      have HQ1 := hid hq1
                      have HQ0 := hid hq0
                      obtain ⟨t, ht⟩ : ∃ t, t = k / 6 := ⟨_, rfl⟩
                      obtain ⟨p, hp⟩ : ∃ p, p = k % 6 := ⟨_, rfl⟩
                      have e1 : Int.tdiv (k : Int) 6 = (t : Int) := by rw [Int.tdiv_eq_ediv_of_nonneg (by omega)]; omega
                      have e2 : Int.tmod (k : Int) 6 = (p : Int) := by rw [Int.tmod_eq_emod_of_nonneg (by omega)]; omega
                      have e3 : (k : Int) / 6 = (t : Int) := by omega
                      have e4 : (k : Int) % 6 = (p : Int) := by omega
                      have htn : t < d.n := by have := HN.out; omega
                      have hp5 : p ≤ 5 := by omega
                      have HKT : Hid (t = k / 6 ∧ p = k % 6) := hid ⟨ht, hp⟩
                      have HBD : Hid (2 * fre N F + L.length + 1 ≤ gk ∧ L.length + fre N F ≤ N) := hid (by have h1 := HGK.out; have h2 := HBD.out; simp only [List.length_cons] at h1 h2; omega)
                      clear ht hp hq0 hq1 hqc HZ
                      go_wp2_with fail
                      clear e1 e2 e3 e4 hct hbz hqd hqw hq2 hq3 HS0
                      go_loopw [15, 16] (fun nv qv wr => ∃ q : Nat, q ≤ 6 ∧ qv = .int .i64 q ∧ Hid (NS d A N Q F K L (.slice (some ⟨tb, 0, none⟩) q1 tc) (fq (pT d t p) (t * 6) q) nv w wr)) (fun _ qv _ => 6 - (intOf qv).toNat)
                      case atStart => exact ⟨0, Nat.zero_le _, rfl, hid (by have := HX.out; simpa [fq] using this)⟩
                      case round =>
                        clear HX
                        obtain ⟨q, hq, rfl, HX⟩ := hrel
                        by_cases hql : q < 6
                        · have hql' : (q : Int) < 6 := by omega
                          obtain ⟨c0, c1, c2, c3, az, gz⟩ := HX.out.nm.no.cells
                          obtain ⟨b1, hb1⟩ : ∃ b, tch p q = b := ⟨_, rfl⟩
                          obtain ⟨b2, hb2⟩ : ∃ b, Lie d.n d.Z t q = b := ⟨_, rfl⟩
                          have HT1 := hid (fun w => rtouch_any p q hp5 (by omega) b1 hb1 w)
                          have HL1 := hid (fun w hH => HLI.out t q b2 hb2 w hH)
                          have HPT : Hid (pT d t p q = (b1 && b2)) := hid (by unfold pT; rw [hb1, hb2])
                          obtain ⟨M, hM⟩ : ∃ M, M = fq (pT d t p) (t * 6) q := ⟨_, rfl⟩
                          rw [← hM] at HX
                          have hMl : M.length ≤ 10 := by rw [hM]; have := fq_len (pT d t p) (t * 6) q; omega
                          have HM := hid hM
                          obtain ⟨na, nc, hnv⟩ := slice_of_row HX.out.nr
                          subst hnv
                          clear hb1 hb2 hM
                          cases b1
                          · go_wp2_with (go_at_call 101; (refine (HT1.out _).mono ?_); rintro r w3 ⟨rfl, hb⟩; have HX3 := hid (HX.out.stays hb); clear hb c0 c1 c2 c3 az gz HX)
                            go_roundw
                            case rel => exact ⟨q + 1, by omega, by go_num, hid (by rw [fq_no HPT.out, ← HM.out]; exact HX3.out)⟩
                            case measure => simp [intOf]; omega
                          · cases b2
                            · go_wp2_with (first
                                | (go_at_call 101; (refine (HT1.out _).mono ?_); rintro r w3 ⟨rfl, hb⟩; have HX3 := hid (HX.out.stays hb); clear hb c0 c1 c2 c3 az gz HX; obtain ⟨c0, c1, c2, c3, az, gz⟩ := HX3.out.nm.no.cells)
                                | (go_at_call 30; (refine (HL1.out _ HX3.out.nm.no.has).mono ?_); rintro r w4 ⟨rfl, hb⟩; have HX4 := hid (HX3.out.stays hb); clear hb c0 c1 c2 c3 az gz HX3))
                              go_roundw
                              case rel => exact ⟨q + 1, by omega, by go_num, hid (by rw [fq_no HPT.out, ← HM.out]; exact HX4.out)⟩
                              case measure => simp [intOf]; omega
                            · obtain ⟨y, hy⟩ : ∃ y, y = t * 6 + q := ⟨_, rfl⟩
                              have ey : (t : Int) * 6 + (q : Int) = (y : Int) := by omega
                              have HY := hid hy
                              clear hy
                              go_wp2_with (first
                                | (go_at_call 101; (refine (HT1.out _).mono ?_); rintro r w3 ⟨rfl, hb⟩; have HX3 := hid (HX.out.stays hb); clear hb c0 c1 c2 c3 az gz HX; obtain ⟨c0, c1, c2, c3, az, gz⟩ := HX3.out.nm.no.cells)
                                | (go_at_call 30; (refine (HL1.out _ HX3.out.nm.no.has).mono ?_); rintro r w4 ⟨rfl, hb⟩; have HX4 := hid (HX3.out.stays hb); clear hb c0 c1 c2 c3 az gz HX3; obtain ⟨c0, c1, c2, c3, az, gz⟩ := HX4.out.nm.no.cells)
                                | (at_builtin; obtain ⟨i0, HIN'⟩ := HIN.out; refine wpList_append_lies _ rfl _ _ 22 rfl (A + 3) 3 i0 (.int .i64 0) 1 8 Tryd.underlying22 HIN'.1 HIN'.2.1 HIN'.2.2.1 HIN'.2.2.2 rfl (by decide) _ _ _ rfl (HX4.out.nr.alloc _) ⟨w4.heap.size, 0, none⟩ 1 1 [.int .i64 (y : Nat)] rfl rfl ?c1 ?c2 (by decide) ?c3 ?c4 ?c5 (w4.heap.size + 1) (by simp) ?_))
                              case c1 =>
                                intro j u hj
                                match j, hj with
                                | 0, hj => simp at hj; subst hj; simp [Addr.add]
                              case c2 => intro u hu; simp at hu; subst hu; rfl
                              case c3 => unfold maxLen; omega
                              case c4 => omega
                              case c5 => simp; omega
                              intro g2 cap2 w6 hown hgrow hat hlt6

                              have HX6 := hid (HX4.out.near (x := y) hown _ hgrow hat)
                              clear hown hgrow hat hlt6 HX4 c0 c1 c2 c3 az gz
                              go_wp2_with fail
                              go_roundw
                              case rel => exact ⟨q + 1, by omega, by go_num, hid (by rw [fq_yes HPT.out, ← HM.out, ← HY.out]; exact HX6.out)⟩
                              case measure => simp [intOf]; omega
                        · have hq6 : q = 6 := by omega
                          have hqd6 : decide ((q : Int) < 6) = false := by simp; omega
                          rw [hq6] at HX
                          clear hq6 hql
                          go_wp2_with fail
                          go_loopw [15, 17] (fun nv sv wr => ∃ s : Nat, s ≤ 4 ∧ sv = .int .i64 s ∧ Hid (NS d A N Q F K L (.slice (some ⟨tb, 0, none⟩) q1 tc) (nr d C t p s) nv w wr)) (fun _ sv _ => 4 - (intOf sv).toNat)
                          case atStart => exact ⟨0, Nat.zero_le _, rfl, HX⟩
                          case round =>
                            clear HX
                            obtain ⟨s, hs, rfl, HX⟩ := hrel
                            by_cases hsl : s < 4
                            · have hsl' : (s : Int) < 4 := by omega
                              obtain ⟨c0, c1, c2, c3, az, gz⟩ := HX.out.nm.no.cells
                              obtain ⟨b, hb⟩ : ∃ b, bey d.W d.H t s = b := ⟨_, rfl⟩
                              have hbl : 0 ≤ b → b < d.n := fun h => by rw [HSZ.out.2, ← hb]; exact bey_in HSZ.out.1 (by omega) (by have := HSZ.out.2; omega) (by rw [hb]; exact h)
                              have HBY := hid (fun w => refbeyond_any d.W d.H t s b HSZ.out.1 (by omega) (by have := HSZ.out.2; omega) (by omega) (by omega) hb w)
                              obtain ⟨h1, hh1⟩ : ∃ h, decide (0 ≤ oth p s) = h := ⟨_, rfl⟩
                              have HHS := hid (fun w => hasEnd_any p s h1 (by rw [← hh1]; simp) w)
                              obtain ⟨h2, hh2⟩ : ∃ h, C t p s = h := ⟨_, rfl⟩
                              obtain ⟨x, hx⟩ : ∃ x, x = k * 4 + s := ⟨_, rfl⟩
                              have hxQ : x < Q := by omega
                              have HKX : Hid (K x = h2) := hid (by rw [hx, show k * 4 + s = (t * 6 + p) * 4 + s by have := HKT.out; omega, HK.out t p s htn hp5 (by omega)]; exact hh2)
                              have ex : (k : Int) * 4 + (s : Int) = (x : Int) := by omega
                              have HOPN : Hid (opn d C t p s ↔ h1 = true ∧ h2 = false ∧ 0 ≤ b) := hid (by unfold opn; rw [hb, hh2, ← hh1, decide_eq_true_eq])
                              have HBB := hid hb
                              have HBL := hid hbl
                              clear hb hh1 hh2 hx hbl
                              cases h1
                              · have HNO : Hid (¬ opn d C t p s) := hid (by rw [HOPN.out]; rintro ⟨h, _⟩; cases h)
                                go_wp2_with (first
                                  | (go_at_call 102; (refine (HBY.out _).mono ?_); rintro r w3 ⟨rfl, hb⟩; have HX3 := hid (HX.out.stays hb); clear hb c0 c1 c2 c3 az gz HX)
                                  | (go_at_call 51; (refine (HHS.out _).mono ?_); rintro r w4 ⟨rfl, hb⟩; have HX4 := hid (HX3.out.stays hb); clear hb HX3))
                                go_roundw
                                case rel => exact ⟨s + 1, by omega, by go_num, hid (by rw [nr_no HNO.out]; exact HX4.out)⟩
                                case measure => simp [intOf]; omega
                              · cases h2
                                · by_cases hb0 : 0 ≤ b
                                  · obtain ⟨u, rfl⟩ := Int.eq_ofNat_of_zero_le hb0
                                    have hun : u < d.n := by have := HBL.out hb0; omega
                                    have HOP : Hid (opn d C t p s) := hid (HOPN.out.2 ⟨rfl, rfl, hb0⟩)
                                    have HU : Hid (bey d.W d.H t s = (u : Int)) := HBB
                                    obtain ⟨o, ho⟩ : ∃ o, o = (s + 2) % 4 := ⟨_, rfl⟩
                                    have ho4 : o < 4 := by omega
                                    have eo : Int.tmod ((s : Int) + 2) 4 = (o : Int) := by rw [Int.tmod_eq_emod_of_nonneg (by omega)]; omega
                                    have eo2 : ((s : Int) + 2) % 4 = (o : Int) := by omega
                                    have HO := hid ho
                                    clear ho hb0
                                    go_wp2_with (first
                                      | (go_at_call 102; (refine (HBY.out _).mono ?_); rintro r w3 ⟨rfl, hb⟩; have HX3 := hid (HX.out.stays hb); clear hb c0 c1 c2 c3 az gz HX)
                                      | (go_at_call 51; (refine (HHS.out _).mono ?_); rintro r w4 ⟨rfl, hb⟩; have HX4 := hid (HX3.out.stays hb); clear hb HX3; have hcx := HX4.out.nm.cutAt hxQ; rw [HKX.out] at hcx; have hcz := HX4.out.nm.size))
                                    clear hcx hcz
                                    go_loopw [15, 19] (fun nv qv wr => ∃ q : Nat, q ≤ 6 ∧ qv = .int .i64 q ∧ Hid (NS d A N Q F K L (.slice (some ⟨tb, 0, none⟩) q1 tc) (nr d C t p s ++ fq (pS d C u o) (u * 6) q) nv w wr)) (fun _ qv _ => 6 - (intOf qv).toNat)
                                    case atStart => exact ⟨0, Nat.zero_le _, rfl, hid (by have := HX4.out; simpa [fq] using this)⟩
                                    case round =>
                                      clear HX4
                                      obtain ⟨q, hq, rfl, HX⟩ := hrel
                                      by_cases hql : q < 6
                                      · have hql' : (q : Int) < 6 := by omega
                                        obtain ⟨c0, c1, c2, c3, az, gz⟩ := HX.out.nm.no.cells
                                        obtain ⟨b1, hb1⟩ : ∃ b, Lie d.n d.Z u q = b := ⟨_, rfl⟩
                                        obtain ⟨b2, hb2⟩ : ∃ b, decide (0 ≤ oth q o) = b := ⟨_, rfl⟩
                                        obtain ⟨b3, hb3⟩ : ∃ b, C u q o = b := ⟨_, rfl⟩
                                        have HL1 := hid (fun w hH => HLI.out u q b1 hb1 w hH)
                                        have HE1 := hid (fun w => hasEnd_any q o b2 (by rw [← hb2]; simp) w)
                                        have HPS : Hid (pS d C u o q = ((b1 && b2) && !b3)) := hid (by unfold pS; rw [hb1, hb2, hb3])
                                        obtain ⟨x, hx⟩ : ∃ x, x = (u * 6 + q) * 4 + o := ⟨_, rfl⟩
                                        have hxQ : x < Q := by omega
                                        have HKX : Hid (K x = b3) := hid (by rw [hx, HK.out u q o hun (by omega) (by omega)]; exact hb3)
                                        have ex : ((u : Int) * 6 + (q : Int)) * 4 + (o : Int) = (x : Int) := by omega
                                        obtain ⟨y, hy⟩ : ∃ y, y = u * 6 + q := ⟨_, rfl⟩
                                        have ey : (u : Int) * 6 + (q : Int) = (y : Int) := by omega
                                        have ex2 : (y : Int) * 4 + (o : Int) = (x : Int) := by omega
                                        have HY := hid hy
                                        obtain ⟨M, hM⟩ : ∃ M, M = nr d C t p s ++ fq (pS d C u o) (u * 6) q := ⟨_, rfl⟩
                                        rw [← hM] at HX
                                        have hMl : M.length ≤ 60 := by rw [hM, List.length_append]; have := fq_len (pS d C u o) (u * 6) q; have := nr_len d C t p s; omega
                                        have HM := hid hM
                                        obtain ⟨na, nc, hnv⟩ := slice_of_row HX.out.nr
                                        subst hnv
                                        clear hb1 hb2 hb3 hM hx hy
                                        cases b1
                                        · go_wp2_with (go_at_call 30; (refine (HL1.out _ HX.out.nm.no.has).mono ?_); rintro r w5 ⟨rfl, hb⟩; have HX5 := hid (HX.out.stays hb); clear hb c0 c1 c2 c3 az gz HX)
                                          go_roundw
                                          case rel => exact ⟨q + 1, by omega, by go_num, hid (by rw [fq_no HPS.out, ← HM.out]; exact HX5.out)⟩
                                          case measure => simp [intOf]; omega
                                        · cases b2
                                          · go_wp2_with (first
                                              | (go_at_call 30; (refine (HL1.out _ HX.out.nm.no.has).mono ?_); rintro r w5 ⟨rfl, hb⟩; have HX5 := hid (HX.out.stays hb); clear hb c0 c1 c2 c3 az gz HX)
                                              | (go_at_call 51; (refine (HE1.out _).mono ?_); rintro r w6 ⟨rfl, hb⟩; have HX6 := hid (HX5.out.stays hb); clear hb HX5))
                                            go_roundw
                                            case rel => exact ⟨q + 1, by omega, by go_num, hid (by rw [fq_no HPS.out, ← HM.out]; exact HX6.out)⟩
                                            case measure => simp [intOf]; omega
                                          · cases b3
                                            · go_wp2_with (first
                                                | (go_at_call 30; (refine (HL1.out _ HX.out.nm.no.has).mono ?_); rintro r w5 ⟨rfl, hb⟩; have HX5 := hid (HX.out.stays hb); clear hb c0 c1 c2 c3 az gz HX)
                                                | (go_at_call 51; (refine (HE1.out _).mono ?_); rintro r w6 ⟨rfl, hb⟩; have HX6 := hid (HX5.out.stays hb); clear hb HX5; have hcx := HX6.out.nm.cutAt hxQ; rw [HKX.out] at hcx; have hcz := HX6.out.nm.size)
                                                | (at_builtin; obtain ⟨i0, HIN'⟩ := HIN.out; refine wpList_append_lies _ rfl _ _ 22 rfl (A + 3) 3 i0 (.int .i64 0) 1 8 Tryd.underlying22 HIN'.1 HIN'.2.1 HIN'.2.2.1 HIN'.2.2.2 rfl (by decide) _ _ _ rfl (HX6.out.nr.alloc _) ⟨w6.heap.size, 0, none⟩ 1 1 [.int .i64 (y : Nat)] rfl rfl ?c1 ?c2 (by decide) ?c3 ?c4 ?c5 (w6.heap.size + 1) (by simp) ?_))
                                              case c1 =>
                                                intro j u hj
                                                match j, hj with
                                                | 0, hj => simp at hj; subst hj; simp [Addr.add]
                                              case c2 => intro u hu; simp at hu; subst hu; rfl
                                              case c3 => unfold maxLen; omega
                                              case c4 => omega
                                              case c5 => simp; omega
                                              intro g2 cap2 w6 hown hgrow hat hlt6

                                              have HX7 := hid (HX6.out.near (x := y) hown _ hgrow hat)
                                              clear hown hgrow hat hlt6 HX6 hcx hcz
                                              go_wp2_with fail
                                              go_roundw
                                              case rel => exact ⟨q + 1, by omega, by go_num, hid (by rw [fq_yes HPS.out, ← List.append_assoc, ← HM.out, ← HY.out]; exact HX7.out)⟩
                                              case measure => simp [intOf]; omega
                                            · go_wp2_with (first
                                                | (go_at_call 30; (refine (HL1.out _ HX.out.nm.no.has).mono ?_); rintro r w5 ⟨rfl, hb⟩; have HX5 := hid (HX.out.stays hb); clear hb c0 c1 c2 c3 az gz HX)
                                                | (go_at_call 51; (refine (HE1.out _).mono ?_); rintro r w6 ⟨rfl, hb⟩; have HX6 := hid (HX5.out.stays hb); clear hb HX5; have hcx := HX6.out.nm.cutAt hxQ; rw [HKX.out] at hcx; have hcz := HX6.out.nm.size))
                                              go_roundw
                                              case rel => exact ⟨q + 1, by omega, by go_num, hid (by rw [fq_no HPS.out, ← HM.out]; exact HX6.out)⟩
                                              case measure => simp [intOf]; omega
                                      · obtain rfl : q = 6 := by omega
                                        go_wp2_with fail
                                        go_roundw
                                        case rel => exact ⟨s + 1, by omega, by go_num, hid (by rw [nr_yes HOP.out HU.out HO.out]; exact HX.out)⟩
                                        case measure => simp [intOf]; omega

                                  · have hbd : decide (b < 0) = true := by simp; omega
                                    have HNO : Hid (¬ opn d C t p s) := hid (by rw [HOPN.out]; rintro ⟨_, _, h⟩; exact hb0 h)
                                    go_wp2_with (first
                                      | (go_at_call 102; (refine (HBY.out _).mono ?_); rintro r w3 ⟨rfl, hb⟩; have HX3 := hid (HX.out.stays hb); clear hb c0 c1 c2 c3 az gz HX)
                                      | (go_at_call 51; (refine (HHS.out _).mono ?_); rintro r w4 ⟨rfl, hb⟩; have HX4 := hid (HX3.out.stays hb); clear hb HX3; have hcx := HX4.out.nm.cutAt hxQ; rw [HKX.out] at hcx; have hcz := HX4.out.nm.size))
                                    go_roundw
                                    case rel => exact ⟨s + 1, by omega, by go_num, hid (by rw [nr_no HNO.out]; exact HX4.out)⟩
                                    case measure => simp [intOf]; omega
                                · have HNO : Hid (¬ opn d C t p s) := hid (by rw [HOPN.out]; rintro ⟨_, h, _⟩; cases h)
                                  go_wp2_with (first
                                    | (go_at_call 102; (refine (HBY.out _).mono ?_); rintro r w3 ⟨rfl, hb⟩; have HX3 := hid (HX.out.stays hb); clear hb c0 c1 c2 c3 az gz HX)
                                    | (go_at_call 51; (refine (HHS.out _).mono ?_); rintro r w4 ⟨rfl, hb⟩; have HX4 := hid (HX3.out.stays hb); clear hb HX3; have hcx := HX4.out.nm.cutAt hxQ; rw [HKX.out] at hcx; have hcz := HX4.out.nm.size))
                                  go_roundw
                                  case rel => exact ⟨s + 1, by omega, by go_num, hid (by rw [nr_no HNO.out]; exact HX4.out)⟩
                                  case measure => simp [intOf]; omega
                            · have hs4 : s = 4 := by omega
                              have hsd4 : decide ((s : Int) < 4) = false := by simp; omega
                              rw [hs4] at HX
                              clear hs4 hsl
                              obtain ⟨M, hM⟩ : ∃ M, M = nr d C t p 4 := ⟨_, rfl⟩
                              rw [← hM] at HX
                              have hMl : M.length ≤ 60 := by rw [hM]; have := nr_len d C t p 4; omega
                              have HMM : Hid (∀ y, y ∈ M → y < 6 * d.n ∧ Adj d C (x8 k) (x8 y)) := hid (fun y hy => nr_adj (by rw [← HKT.out.1, ← HKT.out.2, ← hM]; exact hy))
                              have HMC : Hid (∀ z, Adj d C (x8 k) z → t6 z ∈ M) := hid (fun z hz => by rw [hM, HKT.out.1, HKT.out.2]; exact adj_nr hz)
                              obtain ⟨na, nc, hnv⟩ := slice_of_row HX.out.nr
                              subst hnv
                              clear hM
                              go_wp2_with fail
                              go_loopw [11, 20] (fun tv jv wr => ∃ (j : Nat) (F : Nat → Int) (L : List Nat), j ≤ M.length ∧ jv = .int .i64 j ∧ Hid (Sr d C i F (k :: L)) ∧ Hid (NS d A N Q F K L tv M (.slice na M.length nc) w wr) ∧ Hid (2 * fre N F + L.length + 1 ≤ gk ∧ L.length + fre N F ≤ N) ∧ Hid (∀ jj, jj < j → F (M.getD jj 0) ≠ -1)) (fun _ jv _ => M.length - (intOf jv).toNat)
                              case atStart => exact ⟨0, F, L, Nat.zero_le _, rfl, HSR, HX, HBD, hid (fun jj h => by omega)⟩
                              case round =>
                                clear HX HSR HBD
                                obtain ⟨j, F, L, hj, rfl, HSR, HX, HBD, HJJ⟩ := hrel
                                by_cases hjl : j < M.length
                                · have hjl' : (j : Int) < ((M.length : Nat) : Int) := by omega
                                  obtain ⟨nb, noff, hna, hnz, hnc⟩ := ints_of_row HX.out.nr rfl j hjl
                                  obtain ⟨gn, cn, hsl, _, _⟩ := HX.out.nr.form (by omega)
                                  obtain ⟨e1, e2⟩ : na = some ⟨gn, 0, none⟩ ∧ nc = cn := by simpa using hsl
                                  have e3 : nb = gn ∧ noff = 0 := by rw [e1] at hna; simp at hna; exact ⟨hna.1.symm, hna.2.symm⟩
                                  obtain ⟨rfl, rfl⟩ := e3
                                  subst e1 e2
                                  dsimp only at hnc
                                  rw [Nat.zero_add] at hnc
                                  obtain ⟨y, hy⟩ : ∃ y, y = M.getD j 0 := ⟨_, rfl⟩
                                  rw [← hy] at hnc
                                  have hym := HMM.out y (by rw [hy]; exact getD_memN hjl)
                                  have hyN : y < N := by rw [HN.out]; exact hym.1
                                  have hyN' : (y : Int) < (N : Int) := by omega
                                  obtain ⟨cy, fy⟩ := HX.out.nm.no.at hyN
                                  obtain ⟨ci, fi⟩ := HX.out.nm.no.at hiN
                                  rw [HSR.out.own] at ci
                                  have gz := HX.out.nm.no.size
                                  obtain ⟨v, hv⟩ : ∃ v, v = F y := ⟨_, rfl⟩
                                  rw [← hv] at cy
                                  have hvv : v = -1 ∨ 0 ≤ v := by rw [hv]; exact HSR.out.val hym.1
                                  have HYM := hid hym
                                  have HY := hid hy
                                  have HV := hid hv
                                  obtain ⟨X, hX⟩ : ∃ X, X = x8 i := ⟨_, rfl⟩
                                  rw [← hX] at ci
                                  have HXX := hid hX
                                  have hLl : L.length ≤ 100000 := by have := HBD.out; omega
                                  clear hym hy hv hX hna hsl
                                  rcases hvv with rfl | hvv
                                  · obtain ⟨ta, tc2, htv⟩ := slice_of_row HX.out.td
                                    subst htv
                                    go_upto_region 42 with fail
                                    go_still_tail 9, (by kernel_rfl)
                                    change wpList _ _ _ _ _ wr.drew
                                    have H1 := hid (HX.out.stays ((Below.refl _ _).drew))
                                    clear hnc cy fy ci fi gz HX
                                    generalize wr.drew = wr1 at H1 ⊢
                                    obtain ⟨cy, fy⟩ := H1.out.nm.no.at hyN
                                    have gz := H1.out.nm.no.size
                                    go_upto_region 43 with fail
                                    have H2 := hid (H1.out.mark y (X : Int))
                                    clear cy fy gz H1
                                    generalize World.setCell _ _ _ = wr2 at H2 ⊢
                                    have hnc := H2.out.nr.cellAt j (by omega)
                                    rw [encN_get _ hjl, ← HY.out] at hnc
                                    have hnz := (H2.out.nr.lt _ rfl).2
                                    go_wp2_with (first | (at_builtin; obtain ⟨i0, HIN'⟩ := HIN.out; refine wpList_append_lies _ rfl _ _ 22 rfl (A + 3) 3 i0 (.int .i64 0) 1 8 Tryd.underlying22 HIN'.1 HIN'.2.1 HIN'.2.2.1 HIN'.2.2.2 rfl (by decide) _ _ _ rfl (H2.out.td.alloc _) ⟨wr2.heap.size, 0, none⟩ 1 1 [.int .i64 (y : Nat)] rfl rfl ?c1 ?c2 (by decide) ?c3 ?c4 ?c5 (wr2.heap.size + 1) (by simp) ?_))
                                    case c2 => first | rfl | (intro u hu; simp at hu; subst hu; rfl)
                                    case c3 => unfold maxLen; omega
                                    case c4 => omega
                                    case c5 => first | omega | (simp; omega)
                                    intro g2 cap2 w6 hown hgrow hat hlt6

                                    have H3 := hid (H2.out.push (x := y) hown _ hgrow hat)
                                    clear hown hgrow hat hlt6 H2 hnc hnz
                                    go_wp2_with fail
                                    go_roundw
                                    case rel =>
                                      have hF : F y = -1 := HV.out.symm
                                      have hfr := fre_up (N := N) (u := y) (F := F) (x := (X : Int)) hyN (by omega) (by omega)
                                      refine ⟨j + 1, upF F y (X : Int), y :: L, by omega, by go_num, hid ?_, H3, hid ?_, hid (fun jj h => ?_)⟩
                                      · rw [HXX.out]
                                        refine (HSR.out.take HG.out (by simp) HYM.out.1 HYM.out.2).mem (fun x => ?_)
                                        simp only [List.mem_cons]
                                        constructor
                                        · rintro (h | h | h)
                                          · exact .inr (.inl h)
                                          · exact .inl h
                                          · exact .inr (.inr h)
                                        · rintro (h | h | h)
                                          · exact .inr (.inl h)
                                          · exact .inl h
                                          · exact .inr (.inr h)
                                      · have := HBD.out
                                        simp only [List.length_cons]
                                        omega
                                      · show upF F y (X : Int) (M.getD jj 0) ≠ -1
                                        by_cases e : M.getD jj 0 = y
                                        · rw [e, upF_same]; omega
                                        · rw [upF_other _ _ e]
                                          by_cases e2 : jj = j
                                          · subst e2; exact absurd HY.out.symm e
                                          · exact HJJ.out jj (by omega)
                                    case measure => simp [intOf]; omega
                                  · have hvd : decide (v < 0) = false := by simp; omega
                                    have HVV := hid hvv
                                    clear hvv
                                    go_wp2_with fail
                                    go_roundw
                                    case rel => exact ⟨j + 1, F, L, by omega, by go_num, HSR, HX, HBD, hid (fun jj h => by
                                      by_cases e : jj = j
                                      · subst e; rw [← HY.out, ← HV.out]; have := HVV.out; omega
                                      · exact HJJ.out jj (by omega))⟩
                                    case measure => simp [intOf]; omega
                                · obtain rfl : j = M.length := by omega
                                  obtain ⟨ta, tc2, htv⟩ := slice_of_row HX.out.td
                                  subst htv
                                  go_wp2_with fail
                                  go_roundg (2 * fre N F + L.length)
                                  case measure => have := HBD.out; omega
                                  case rel => exact ⟨F, L, rfl, hid (HSR.out.pop (fun z hz => by
                                    obtain ⟨jj, hjj, e⟩ := List.getElem_of_mem (HMC.out z hz)
                                    have := HJJ.out jj hjj
                                    rw [List.getD_eq_getElem?_getD, List.getElem?_eq_getElem hjj, Option.getD_some, e] at this
                                    exact this)), hid ⟨HX.out.nm, HX.out.td⟩, hid HBD.out.2⟩

            · obtain rfl : i = N := by omega
              go_wp2_with fail
              go_ret
              exact ⟨F, by rw [← HN.out, ← HA.out]; rfl, by rw [← HA.out]; exact HV.out.no.below, by rw [← HN.out, ← HA.out]; exact HV.out.no.out, by rw [← HN.out, ← HC.out]; exact HO.out⟩

end Go.Proofs.YtbfpcolkbfljoaaDoor
