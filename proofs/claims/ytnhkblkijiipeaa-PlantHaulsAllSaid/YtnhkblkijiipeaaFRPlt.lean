/-
  The walk of the reference's Validate of a plant.
-/
import Derived.Test.YtnhkblkijiipeaaFPlt
namespace Go.Proofs.Ytnhkblkijiipeaa
open Go.RowKit

set_option maxRecDepth 100000 in
set_option maxHeartbeats 12800000 in
theorem rvalidate_any (ko : Option Addr) (m kc : Nat) (K : Nat → Kd) (hcap : m ≤ kc) (hs : Small m K) (p : Pl) (hp : SmallP p) (r : Int) (hr : PErr m K p = r) (w : World) (hK : Kds w ko m K) (hP : PlAt w p) :
    Calls Try.prog 16 #[.slice ko m kc, pv p] w fun e w' => e = .returned (.int .i64 r) ∧ Below w.heap.size w w' := by
  have H0 := hid (PB.start hP)
  have HKD := hid (hK.stays (Joins.below_alloc1 w (.cells #[.int .i64 p.k, .int .i64 p.t, .int .i64 p.l, .slice p.st.a p.st.n p.st.c, .slice p.re.a p.re.n p.re.c, .slice p.ma.a p.ma.n p.ma.c, .slice p.mo.a p.mo.n p.mo.c, .int .i64 p.g, .int .i64 p.i, .bool p.o] 25)))
  have HR := hid hr
  have HSM := hid hs
  have HSP := hid hp
  clear hr hK hP hs
  obtain ⟨pk, t, l, ⟨sa, sn, sc, sZ⟩, ⟨ra, rn, rc, rZ⟩, ⟨ma, mn, mc, mZ⟩, ⟨va, vn, vc, vZ⟩, g, d, o⟩ := p
  show Calls _ _ #[.slice ko m kc, .agg #[.int .i64 pk, .int .i64 t, .int .i64 l, .slice sa sn sc, .slice ra rn rc, .slice ma mn mc, .slice va vn vc, .int .i64 g, .int .i64 d, .bool o]] w _
  obtain ⟨f, hf⟩ : ∃ f, KErr m K = f := ⟨_, rfl⟩
  have HKF := hid hf
  have HVK := hid (fun W h => rvkinds_any ko m kc K hcap HSM.out W h)
  rw [hf] at HVK
  obtain ⟨B, hB⟩ : ∃ B, w.heap.size = B := ⟨_, rfl⟩
  rw [hB] at H0 ⊢
  clear hf hp hcap
  by_cases h0 : f = 0
  · subst h0
    by_cases hk : pk < 0
    · have HF : Hid (r = 2) := hid (by rw [← HR.out]; exact PErr_2 HKF.out (by cases h : inB 0 pk ((m : Int) - 1); rfl; exfalso; have := inB_iff.1 h; omega))
      go_enter Try.func16, Try.ntmps16
      go_upto_region 1 with fail
      generalize World.alloc w _ = w1 at H0 HKD ⊢
      have c0 := H0.out.c0; have c1 := H0.out.c1; have c2 := H0.out.c2; have c3 := H0.out.c3; have c4 := H0.out.c4; have c5 := H0.out.c5; have c6 := H0.out.c6; have c7 := H0.out.c7; have c8 := H0.out.c8; have c9 := H0.out.c9
      go_wp2_with (go_at_call 36; refine (HVK.out _ HKD.out).mono ?_; rintro e w2 ⟨rfl, hb⟩; have H1 := hid (H0.out.stays hb); have HK1 := hid (HKD.out.stays hb); clear c0 c1 c2 c3 c4 c5 c6 c7 c8 c9; clear hb; have c0 := H1.out.c0; have c1 := H1.out.c1; have c2 := H1.out.c2; have c3 := H1.out.c3; have c4 := H1.out.c4; have c5 := H1.out.c5; have c6 := H1.out.c6; have c7 := H1.out.c7; have c8 := H1.out.c8; have c9 := H1.out.c9)
      go_ret
      exact ⟨by rw [HF.out]; rfl, H1.out.below⟩
    have hk1 := hk
    clear hk
    by_cases hk : (m : Int) ≤ pk
    · have HF : Hid (r = 2) := hid (by rw [← HR.out]; exact PErr_2 HKF.out (by cases h : inB 0 pk ((m : Int) - 1); rfl; exfalso; have := inB_iff.1 h; omega))
      go_enter Try.func16, Try.ntmps16
      go_upto_region 1 with fail
      generalize World.alloc w _ = w1 at H0 HKD ⊢
      have c0 := H0.out.c0; have c1 := H0.out.c1; have c2 := H0.out.c2; have c3 := H0.out.c3; have c4 := H0.out.c4; have c5 := H0.out.c5; have c6 := H0.out.c6; have c7 := H0.out.c7; have c8 := H0.out.c8; have c9 := H0.out.c9
      go_wp2_with (go_at_call 36; refine (HVK.out _ HKD.out).mono ?_; rintro e w2 ⟨rfl, hb⟩; have H1 := hid (H0.out.stays hb); have HK1 := hid (HKD.out.stays hb); clear c0 c1 c2 c3 c4 c5 c6 c7 c8 c9; clear hb; have c0 := H1.out.c0; have c1 := H1.out.c1; have c2 := H1.out.c2; have c3 := H1.out.c3; have c4 := H1.out.c4; have c5 := H1.out.c5; have c6 := H1.out.c6; have c7 := H1.out.c7; have c8 := H1.out.c8; have c9 := H1.out.c9)
      go_ret
      exact ⟨by rw [HF.out]; rfl, H1.out.below⟩
    have hk2 := hk
    clear hk
    have HKK : Hid (inB 0 pk ((m : Int) - 1) = true) := hid (inB_iff.2 (by omega))
    obtain ⟨k, rfl⟩ : ∃ k : Nat, pk = k := ⟨pk.toNat, by omega⟩
    have hkm : k < m := by omega
    have hkm' : (k : Int) < (m : Int) := by omega
    have hkm2 : ¬ (m : Int) ≤ (k : Int) := by omega
    obtain ⟨b, off, e, _⟩ := kat HKD.out hkm
    subst e
    obtain ⟨n, hn⟩ : ∃ n, (K k).mn = n := ⟨_, rfl⟩
    have HNN := hid hn
    have hn1 : n ≤ 1000 := by rw [← hn]; exact HSM.out.mn k hkm
    obtain ⟨q1, e1⟩ : ∃ q, inB 0 t 1000000 = q := ⟨_, rfl⟩
    obtain ⟨q2, e2⟩ : ∃ q, inB 1 l 64 = q := ⟨_, rfl⟩
    obtain ⟨q3, e3⟩ : ∃ q, inB 0 g 1000000 = q := ⟨_, rfl⟩
    obtain ⟨q4, e4⟩ : ∃ q, inB 0 d 1000000 = q := ⟨_, rfl⟩
    obtain ⟨q5, e5⟩ : ∃ q, okN ⟨sa, sn, sc, sZ⟩ n 1000000 = q := ⟨_, rfl⟩
    obtain ⟨q6, e6⟩ : ∃ q, okN ⟨ra, rn, rc, rZ⟩ n 7 = q := ⟨_, rfl⟩
    obtain ⟨q7, e7⟩ : ∃ q, okN ⟨ma, mn, mc, mZ⟩ n 1000000 = q := ⟨_, rfl⟩
    obtain ⟨q8, e8⟩ : ∃ q, okN ⟨va, vn, vc, vZ⟩ n 1000000 = q := ⟨_, rfl⟩
    have HQ : Hid ((if (q1 && q2 && q5 && q6 && q7 && q8 && q3 && q4) = true then (0 : Int) else 1) = r) := hid (by rw [← HR.out, PErr_q (q := q1 && q2 && q5 && q6 && q7 && q8 && q3 && q4) HKF.out rfl HKK.out (by rw [hn, ← e1, ← e2, ← e3, ← e4, ← e5, ← e6, ← e7, ← e8]; rfl)])
    have HW1 := hid (fun W => rwithin_any 0 t 1000000 q1 e1 W)
    have HW2 := hid (fun W => rwithin_any 1 l 64 q2 e2 W)
    have HW3 := hid (fun W => rwithin_any 0 g 1000000 q3 e3 W)
    have HW4 := hid (fun W => rwithin_any 0 d 1000000 q4 e4 W)
    have HW5 := hid (fun W h => rcounts_any ⟨sa, sn, sc, sZ⟩ n 1000000 HSP.out.st hn1 q5 e5 W h)
    have HW6 := hid (fun W h => rcounts_any ⟨ra, rn, rc, rZ⟩ n 7 HSP.out.re hn1 q6 e6 W h)
    have HW7 := hid (fun W h => rcounts_any ⟨ma, mn, mc, mZ⟩ n 1000000 HSP.out.ma hn1 q7 e7 W h)
    have HW8 := hid (fun W h => rcounts_any ⟨va, vn, vc, vZ⟩ n 1000000 HSP.out.mo hn1 q8 e8 W h)
    have HKM := hid hkm
    clear e1 e2 e3 e4 e5 e6 e7 e8 hn hk1 hk2 hkm
    cases q1
    · have HF : Hid (r = 1) := hid (by rw [← HQ.out]; simp)
      go_enter Try.func16, Try.ntmps16
      go_upto_region 1 with fail
      generalize World.alloc w _ = w1 at H0 HKD ⊢
      have c0 := H0.out.c0; have c1 := H0.out.c1; have c2 := H0.out.c2; have c3 := H0.out.c3; have c4 := H0.out.c4; have c5 := H0.out.c5; have c6 := H0.out.c6; have c7 := H0.out.c7; have c8 := H0.out.c8; have c9 := H0.out.c9
      go_upto_region 6 with (go_at_call 36; refine (HVK.out _ HKD.out).mono ?_; rintro e w2 ⟨rfl, hb⟩; have H1 := hid (H0.out.stays hb); have HK1 := hid (HKD.out.stays hb); clear c0 c1 c2 c3 c4 c5 c6 c7 c8 c9; clear hb; have c0 := H1.out.c0; have c1 := H1.out.c1; have c2 := H1.out.c2; have c3 := H1.out.c3; have c4 := H1.out.c4; have c5 := H1.out.c5; have c6 := H1.out.c6; have c7 := H1.out.c7; have c8 := H1.out.c8; have c9 := H1.out.c9)
      obtain ⟨b', off', e', _, k0, k1, k2⟩ := kat HK1.out HKM.out
      cases e'
      rw [HNN.out] at k2
      go_wp2_with (first
        | (go_at_call 37; with_reducible refine (HW1.out _).mono ?_; rintro e w3 ⟨rfl, rfl⟩))
      go_ret
      exact ⟨by rw [HF.out]; rfl, H1.out.below⟩
    · skip
      cases q2
      · have HF : Hid (r = 1) := hid (by rw [← HQ.out]; simp)
        go_enter Try.func16, Try.ntmps16
        go_upto_region 1 with fail
        generalize World.alloc w _ = w1 at H0 HKD ⊢
        have c0 := H0.out.c0; have c1 := H0.out.c1; have c2 := H0.out.c2; have c3 := H0.out.c3; have c4 := H0.out.c4; have c5 := H0.out.c5; have c6 := H0.out.c6; have c7 := H0.out.c7; have c8 := H0.out.c8; have c9 := H0.out.c9
        go_upto_region 6 with (go_at_call 36; refine (HVK.out _ HKD.out).mono ?_; rintro e w2 ⟨rfl, hb⟩; have H1 := hid (H0.out.stays hb); have HK1 := hid (HKD.out.stays hb); clear c0 c1 c2 c3 c4 c5 c6 c7 c8 c9; clear hb; have c0 := H1.out.c0; have c1 := H1.out.c1; have c2 := H1.out.c2; have c3 := H1.out.c3; have c4 := H1.out.c4; have c5 := H1.out.c5; have c6 := H1.out.c6; have c7 := H1.out.c7; have c8 := H1.out.c8; have c9 := H1.out.c9)
        obtain ⟨b', off', e', _, k0, k1, k2⟩ := kat HK1.out HKM.out
        cases e'
        rw [HNN.out] at k2
        go_wp2_with (first
          | (go_at_call 37; with_reducible refine (HW1.out _).mono ?_; rintro e w3 ⟨rfl, rfl⟩)
          | (go_at_call 37; with_reducible refine (HW2.out _).mono ?_; rintro e w3 ⟨rfl, rfl⟩))
        go_ret
        exact ⟨by rw [HF.out]; rfl, H1.out.below⟩
      · skip
        cases q3
        · have HF : Hid (r = 1) := hid (by rw [← HQ.out]; simp)
          go_enter Try.func16, Try.ntmps16
          go_upto_region 1 with fail
          generalize World.alloc w _ = w1 at H0 HKD ⊢
          have c0 := H0.out.c0; have c1 := H0.out.c1; have c2 := H0.out.c2; have c3 := H0.out.c3; have c4 := H0.out.c4; have c5 := H0.out.c5; have c6 := H0.out.c6; have c7 := H0.out.c7; have c8 := H0.out.c8; have c9 := H0.out.c9
          go_upto_region 6 with (go_at_call 36; refine (HVK.out _ HKD.out).mono ?_; rintro e w2 ⟨rfl, hb⟩; have H1 := hid (H0.out.stays hb); have HK1 := hid (HKD.out.stays hb); clear c0 c1 c2 c3 c4 c5 c6 c7 c8 c9; clear hb; have c0 := H1.out.c0; have c1 := H1.out.c1; have c2 := H1.out.c2; have c3 := H1.out.c3; have c4 := H1.out.c4; have c5 := H1.out.c5; have c6 := H1.out.c6; have c7 := H1.out.c7; have c8 := H1.out.c8; have c9 := H1.out.c9)
          obtain ⟨b', off', e', _, k0, k1, k2⟩ := kat HK1.out HKM.out
          cases e'
          rw [HNN.out] at k2
          go_wp2_with (first
            | (go_at_call 37; with_reducible refine (HW1.out _).mono ?_; rintro e w3 ⟨rfl, rfl⟩)
            | (go_at_call 37; with_reducible refine (HW2.out _).mono ?_; rintro e w3 ⟨rfl, rfl⟩)
            | (go_at_call 37; with_reducible refine (HW3.out _).mono ?_; rintro e w3 ⟨rfl, rfl⟩))
          go_ret
          exact ⟨by rw [HF.out]; rfl, H1.out.below⟩
        · skip
          cases q4
          · have HF : Hid (r = 1) := hid (by rw [← HQ.out]; simp)
            go_enter Try.func16, Try.ntmps16
            go_upto_region 1 with fail
            generalize World.alloc w _ = w1 at H0 HKD ⊢
            have c0 := H0.out.c0; have c1 := H0.out.c1; have c2 := H0.out.c2; have c3 := H0.out.c3; have c4 := H0.out.c4; have c5 := H0.out.c5; have c6 := H0.out.c6; have c7 := H0.out.c7; have c8 := H0.out.c8; have c9 := H0.out.c9
            go_upto_region 6 with (go_at_call 36; refine (HVK.out _ HKD.out).mono ?_; rintro e w2 ⟨rfl, hb⟩; have H1 := hid (H0.out.stays hb); have HK1 := hid (HKD.out.stays hb); clear c0 c1 c2 c3 c4 c5 c6 c7 c8 c9; clear hb; have c0 := H1.out.c0; have c1 := H1.out.c1; have c2 := H1.out.c2; have c3 := H1.out.c3; have c4 := H1.out.c4; have c5 := H1.out.c5; have c6 := H1.out.c6; have c7 := H1.out.c7; have c8 := H1.out.c8; have c9 := H1.out.c9)
            obtain ⟨b', off', e', _, k0, k1, k2⟩ := kat HK1.out HKM.out
            cases e'
            rw [HNN.out] at k2
            go_wp2_with (first
              | (go_at_call 37; with_reducible refine (HW1.out _).mono ?_; rintro e w3 ⟨rfl, rfl⟩)
              | (go_at_call 37; with_reducible refine (HW2.out _).mono ?_; rintro e w3 ⟨rfl, rfl⟩)
              | (go_at_call 37; with_reducible refine (HW3.out _).mono ?_; rintro e w3 ⟨rfl, rfl⟩)
              | (go_at_call 37; with_reducible refine (HW4.out _).mono ?_; rintro e w3 ⟨rfl, rfl⟩))
            go_ret
            exact ⟨by rw [HF.out]; rfl, H1.out.below⟩
          · skip
            cases q5
            · have HF : Hid (r = 1) := hid (by rw [← HQ.out]; simp)
              go_enter Try.func16, Try.ntmps16
              go_upto_region 1 with fail
              generalize World.alloc w _ = w1 at H0 HKD ⊢
              have c0 := H0.out.c0; have c1 := H0.out.c1; have c2 := H0.out.c2; have c3 := H0.out.c3; have c4 := H0.out.c4; have c5 := H0.out.c5; have c6 := H0.out.c6; have c7 := H0.out.c7; have c8 := H0.out.c8; have c9 := H0.out.c9
              go_upto_region 6 with (go_at_call 36; refine (HVK.out _ HKD.out).mono ?_; rintro e w2 ⟨rfl, hb⟩; have H1 := hid (H0.out.stays hb); have HK1 := hid (HKD.out.stays hb); clear c0 c1 c2 c3 c4 c5 c6 c7 c8 c9; clear hb; have c0 := H1.out.c0; have c1 := H1.out.c1; have c2 := H1.out.c2; have c3 := H1.out.c3; have c4 := H1.out.c4; have c5 := H1.out.c5; have c6 := H1.out.c6; have c7 := H1.out.c7; have c8 := H1.out.c8; have c9 := H1.out.c9)
              obtain ⟨b', off', e', _, k0, k1, k2⟩ := kat HK1.out HKM.out
              cases e'
              rw [HNN.out] at k2
              go_wp2_with (first
                | (go_at_call 37; with_reducible refine (HW1.out _).mono ?_; rintro e w3 ⟨rfl, rfl⟩)
                | (go_at_call 37; with_reducible refine (HW2.out _).mono ?_; rintro e w3 ⟨rfl, rfl⟩)
                | (go_at_call 37; with_reducible refine (HW3.out _).mono ?_; rintro e w3 ⟨rfl, rfl⟩)
                | (go_at_call 37; with_reducible refine (HW4.out _).mono ?_; rintro e w3 ⟨rfl, rfl⟩)
                | (go_at_call 38; with_reducible refine (HW5.out _ H1.out.lists.st).mono ?_; rintro e w3 ⟨rfl, rfl⟩))
              go_ret
              exact ⟨by rw [HF.out]; rfl, H1.out.below⟩
            · skip
              cases q6
              · have HF : Hid (r = 1) := hid (by rw [← HQ.out]; simp)
                go_enter Try.func16, Try.ntmps16
                go_upto_region 1 with fail
                generalize World.alloc w _ = w1 at H0 HKD ⊢
                have c0 := H0.out.c0; have c1 := H0.out.c1; have c2 := H0.out.c2; have c3 := H0.out.c3; have c4 := H0.out.c4; have c5 := H0.out.c5; have c6 := H0.out.c6; have c7 := H0.out.c7; have c8 := H0.out.c8; have c9 := H0.out.c9
                go_upto_region 6 with (go_at_call 36; refine (HVK.out _ HKD.out).mono ?_; rintro e w2 ⟨rfl, hb⟩; have H1 := hid (H0.out.stays hb); have HK1 := hid (HKD.out.stays hb); clear c0 c1 c2 c3 c4 c5 c6 c7 c8 c9; clear hb; have c0 := H1.out.c0; have c1 := H1.out.c1; have c2 := H1.out.c2; have c3 := H1.out.c3; have c4 := H1.out.c4; have c5 := H1.out.c5; have c6 := H1.out.c6; have c7 := H1.out.c7; have c8 := H1.out.c8; have c9 := H1.out.c9)
                obtain ⟨b', off', e', _, k0, k1, k2⟩ := kat HK1.out HKM.out
                cases e'
                rw [HNN.out] at k2
                go_wp2_with (first
                  | (go_at_call 37; with_reducible refine (HW1.out _).mono ?_; rintro e w3 ⟨rfl, rfl⟩)
                  | (go_at_call 37; with_reducible refine (HW2.out _).mono ?_; rintro e w3 ⟨rfl, rfl⟩)
                  | (go_at_call 37; with_reducible refine (HW3.out _).mono ?_; rintro e w3 ⟨rfl, rfl⟩)
                  | (go_at_call 37; with_reducible refine (HW4.out _).mono ?_; rintro e w3 ⟨rfl, rfl⟩)
                  | (go_at_call 38; with_reducible refine (HW5.out _ H1.out.lists.st).mono ?_; rintro e w3 ⟨rfl, rfl⟩)
                  | (go_at_call 38; with_reducible refine (HW6.out _ H1.out.lists.re).mono ?_; rintro e w3 ⟨rfl, rfl⟩))
                go_ret
                exact ⟨by rw [HF.out]; rfl, H1.out.below⟩
              · skip
                cases q7
                · have HF : Hid (r = 1) := hid (by rw [← HQ.out]; simp)
                  go_enter Try.func16, Try.ntmps16
                  go_upto_region 1 with fail
                  generalize World.alloc w _ = w1 at H0 HKD ⊢
                  have c0 := H0.out.c0; have c1 := H0.out.c1; have c2 := H0.out.c2; have c3 := H0.out.c3; have c4 := H0.out.c4; have c5 := H0.out.c5; have c6 := H0.out.c6; have c7 := H0.out.c7; have c8 := H0.out.c8; have c9 := H0.out.c9
                  go_upto_region 6 with (go_at_call 36; refine (HVK.out _ HKD.out).mono ?_; rintro e w2 ⟨rfl, hb⟩; have H1 := hid (H0.out.stays hb); have HK1 := hid (HKD.out.stays hb); clear c0 c1 c2 c3 c4 c5 c6 c7 c8 c9; clear hb; have c0 := H1.out.c0; have c1 := H1.out.c1; have c2 := H1.out.c2; have c3 := H1.out.c3; have c4 := H1.out.c4; have c5 := H1.out.c5; have c6 := H1.out.c6; have c7 := H1.out.c7; have c8 := H1.out.c8; have c9 := H1.out.c9)
                  obtain ⟨b', off', e', _, k0, k1, k2⟩ := kat HK1.out HKM.out
                  cases e'
                  rw [HNN.out] at k2
                  go_wp2_with (first
                    | (go_at_call 37; with_reducible refine (HW1.out _).mono ?_; rintro e w3 ⟨rfl, rfl⟩)
                    | (go_at_call 37; with_reducible refine (HW2.out _).mono ?_; rintro e w3 ⟨rfl, rfl⟩)
                    | (go_at_call 37; with_reducible refine (HW3.out _).mono ?_; rintro e w3 ⟨rfl, rfl⟩)
                    | (go_at_call 37; with_reducible refine (HW4.out _).mono ?_; rintro e w3 ⟨rfl, rfl⟩)
                    | (go_at_call 38; with_reducible refine (HW5.out _ H1.out.lists.st).mono ?_; rintro e w3 ⟨rfl, rfl⟩)
                    | (go_at_call 38; with_reducible refine (HW6.out _ H1.out.lists.re).mono ?_; rintro e w3 ⟨rfl, rfl⟩)
                    | (go_at_call 38; with_reducible refine (HW7.out _ H1.out.lists.ma).mono ?_; rintro e w3 ⟨rfl, rfl⟩))
                  go_ret
                  exact ⟨by rw [HF.out]; rfl, H1.out.below⟩
                · skip
                  cases q8
                  · have HF : Hid (r = 1) := hid (by rw [← HQ.out]; simp)
                    go_enter Try.func16, Try.ntmps16
                    go_upto_region 1 with fail
                    generalize World.alloc w _ = w1 at H0 HKD ⊢
                    have c0 := H0.out.c0; have c1 := H0.out.c1; have c2 := H0.out.c2; have c3 := H0.out.c3; have c4 := H0.out.c4; have c5 := H0.out.c5; have c6 := H0.out.c6; have c7 := H0.out.c7; have c8 := H0.out.c8; have c9 := H0.out.c9
                    go_upto_region 6 with (go_at_call 36; refine (HVK.out _ HKD.out).mono ?_; rintro e w2 ⟨rfl, hb⟩; have H1 := hid (H0.out.stays hb); have HK1 := hid (HKD.out.stays hb); clear c0 c1 c2 c3 c4 c5 c6 c7 c8 c9; clear hb; have c0 := H1.out.c0; have c1 := H1.out.c1; have c2 := H1.out.c2; have c3 := H1.out.c3; have c4 := H1.out.c4; have c5 := H1.out.c5; have c6 := H1.out.c6; have c7 := H1.out.c7; have c8 := H1.out.c8; have c9 := H1.out.c9)
                    obtain ⟨b', off', e', _, k0, k1, k2⟩ := kat HK1.out HKM.out
                    cases e'
                    rw [HNN.out] at k2
                    go_wp2_with (first
                      | (go_at_call 37; with_reducible refine (HW1.out _).mono ?_; rintro e w3 ⟨rfl, rfl⟩)
                      | (go_at_call 37; with_reducible refine (HW2.out _).mono ?_; rintro e w3 ⟨rfl, rfl⟩)
                      | (go_at_call 37; with_reducible refine (HW3.out _).mono ?_; rintro e w3 ⟨rfl, rfl⟩)
                      | (go_at_call 37; with_reducible refine (HW4.out _).mono ?_; rintro e w3 ⟨rfl, rfl⟩)
                      | (go_at_call 38; with_reducible refine (HW5.out _ H1.out.lists.st).mono ?_; rintro e w3 ⟨rfl, rfl⟩)
                      | (go_at_call 38; with_reducible refine (HW6.out _ H1.out.lists.re).mono ?_; rintro e w3 ⟨rfl, rfl⟩)
                      | (go_at_call 38; with_reducible refine (HW7.out _ H1.out.lists.ma).mono ?_; rintro e w3 ⟨rfl, rfl⟩)
                      | (go_at_call 38; with_reducible refine (HW8.out _ H1.out.lists.mo).mono ?_; rintro e w3 ⟨rfl, rfl⟩))
                    go_ret
                    exact ⟨by rw [HF.out]; rfl, H1.out.below⟩
                  · skip
                    have HF : Hid (r = 0) := hid (by rw [← HQ.out]; rfl)
                    go_enter Try.func16, Try.ntmps16
                    go_upto_region 1 with fail
                    generalize World.alloc w _ = w1 at H0 HKD ⊢
                    have c0 := H0.out.c0; have c1 := H0.out.c1; have c2 := H0.out.c2; have c3 := H0.out.c3; have c4 := H0.out.c4; have c5 := H0.out.c5; have c6 := H0.out.c6; have c7 := H0.out.c7; have c8 := H0.out.c8; have c9 := H0.out.c9
                    go_upto_region 6 with (go_at_call 36; refine (HVK.out _ HKD.out).mono ?_; rintro e w2 ⟨rfl, hb⟩; have H1 := hid (H0.out.stays hb); have HK1 := hid (HKD.out.stays hb); clear c0 c1 c2 c3 c4 c5 c6 c7 c8 c9; clear hb; have c0 := H1.out.c0; have c1 := H1.out.c1; have c2 := H1.out.c2; have c3 := H1.out.c3; have c4 := H1.out.c4; have c5 := H1.out.c5; have c6 := H1.out.c6; have c7 := H1.out.c7; have c8 := H1.out.c8; have c9 := H1.out.c9)
                    obtain ⟨b', off', e', _, k0, k1, k2⟩ := kat HK1.out HKM.out
                    cases e'
                    rw [HNN.out] at k2
                    go_wp2_with (first
                      | (go_at_call 37; with_reducible refine (HW1.out _).mono ?_; rintro e w3 ⟨rfl, rfl⟩)
                      | (go_at_call 37; with_reducible refine (HW2.out _).mono ?_; rintro e w3 ⟨rfl, rfl⟩)
                      | (go_at_call 37; with_reducible refine (HW3.out _).mono ?_; rintro e w3 ⟨rfl, rfl⟩)
                      | (go_at_call 37; with_reducible refine (HW4.out _).mono ?_; rintro e w3 ⟨rfl, rfl⟩)
                      | (go_at_call 38; with_reducible refine (HW5.out _ H1.out.lists.st).mono ?_; rintro e w3 ⟨rfl, rfl⟩)
                      | (go_at_call 38; with_reducible refine (HW6.out _ H1.out.lists.re).mono ?_; rintro e w3 ⟨rfl, rfl⟩)
                      | (go_at_call 38; with_reducible refine (HW7.out _ H1.out.lists.ma).mono ?_; rintro e w3 ⟨rfl, rfl⟩)
                      | (go_at_call 38; with_reducible refine (HW8.out _ H1.out.lists.mo).mono ?_; rintro e w3 ⟨rfl, rfl⟩))
                    go_ret
                    exact ⟨by rw [HF.out]; rfl, H1.out.below⟩
  · have HF : Hid (r = f) := hid (by rw [← HR.out]; exact PErr_k HKF.out h0)
    have h0' : (f != 0) = true := by simpa using h0
    go_enter Try.func16, Try.ntmps16
    go_upto_region 1 with fail
    generalize World.alloc w _ = w1 at H0 HKD ⊢
    have c0 := H0.out.c0; have c1 := H0.out.c1; have c2 := H0.out.c2; have c3 := H0.out.c3; have c4 := H0.out.c4; have c5 := H0.out.c5; have c6 := H0.out.c6; have c7 := H0.out.c7; have c8 := H0.out.c8; have c9 := H0.out.c9
    go_wp2_with (go_at_call 36; refine (HVK.out _ HKD.out).mono ?_; rintro e w2 ⟨rfl, hb⟩; have H1 := hid (H0.out.stays hb); have HK1 := hid (HKD.out.stays hb); clear c0 c1 c2 c3 c4 c5 c6 c7 c8 c9; clear hb; have c0 := H1.out.c0; have c1 := H1.out.c1; have c2 := H1.out.c2; have c3 := H1.out.c3; have c4 := H1.out.c4; have c5 := H1.out.c5; have c6 := H1.out.c6; have c7 := H1.out.c7; have c8 := H1.out.c8; have c9 := H1.out.c9)
    go_ret
    exact ⟨by rw [HF.out]; rfl, H1.out.below⟩
end Go.Proofs.Ytnhkblkijiipeaa
