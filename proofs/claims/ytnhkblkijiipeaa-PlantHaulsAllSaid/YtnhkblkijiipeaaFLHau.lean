/-
  The walk of the law PlantHauls.
-/
import Derived.Test.YtnhkblkijiipeaaFLNew
import Derived.Test.YtnhkblkijiipeaaFRHau
namespace Go.Proofs.Ytnhkblkijiipeaa
open Go.RowKit


theorem ha_ex (m : Nat) (K : Nat → Kd) (p : Pl) (cargo n : Int) : ∃ D u r, HaIs m K p cargo n D u r ∧ D.n ≤ 1000 := by
  by_cases h0 : UErr m K p cargo n = 0
  · obtain ⟨k, hR⟩ := PErr_right (uerr_ok h0).1
    have hmn := hR.ks.mn k hR.lt
    have hk : ∀ k' : Nat, p.k = k' → k' = k := fun k' e => by have := hR.kp; omega
    by_cases h1 : ∃ j, j < (K k).mn ∧ (K k).C j = cargo
    · obtain ⟨j, hj, hc⟩ := h1
      refine ⟨hauledD (dataOf p (K k).mn) j n, min n (p.st.Z j), 0, ⟨fun h => absurd h0 h, fun k' e _ hno => ?_, fun k' e _ i hi hci => ?_⟩, by show (K k).mn ≤ 1000; omega⟩
      · obtain rfl := hk k' e
        exact absurd hc (hno j hj)
      · obtain rfl := hk k' e
        have hij : i = j := by
          by_cases e1 : i < j
          · have := asc_lt (hR.ks.casc k' hR.lt) e1 hj; omega
          · by_cases e2 : j < i
            · have := asc_lt (hR.ks.casc k' hR.lt) e2 hi; omega
            · omega
        subst hij
        exact ⟨rfl, rfl, rfl⟩
    · refine ⟨dataOf p (K k).mn, 0, 0, ⟨fun h => absurd h0 h, fun k' e _ hno => ?_, fun k' e _ i hi hci => ?_⟩, by show (K k).mn ≤ 1000; omega⟩
      · obtain rfl := hk k' e
        exact ⟨rfl, rfl, rfl⟩
      · obtain rfl := hk k' e
        exact absurd ⟨i, hi, hci⟩ h1
  · exact ⟨zeroD, 0, UErr m K p cargo n, ⟨fun _ => ⟨rfl, rfl, rfl⟩, fun _ _ h => absurd h h0, fun _ _ h => absurd h h0⟩, by show 0 ≤ 1000; omega⟩
set_option maxRecDepth 100000 in
set_option maxHeartbeats 12800000 in
theorem walk_hauls (ko : Option Addr) (m kc : Nat) (K : Nat → Kd) (hm : m ≤ maxLen) (hcap : m ≤ kc) (p : Pl) (cargo n : Int) (w : World) (hK : Kds w ko m K) (hP : PlAt w p) :
    Calls Try.prog 8 #[.slice ko m kc, pv p, .int .i64 cargo, .int .i64 n] w fun e w' => e = .returned (.bool true) ∧ Below w.heap.size w w' := by
  have H0 := hid (PB.start hP)
  have HKB : Hid (∀ W, Below w.heap.size w W → Kds W ko m K) := hid (fun W hb => hK.stays hb)
  have HLG := hid (fun W h => large_any ko m kc K p hm W h)
  obtain ⟨p0, hp0⟩ : ∃ p0, p = p0 := ⟨_, rfl⟩
  have HPP := hid hp0
  obtain ⟨pk, t, l, ⟨sa, sn, sc, sZ⟩, ⟨ra, rn, rc, rZ⟩, ⟨ma, mn, mc, mZ⟩, ⟨va, vn, vc, vZ⟩, g, d, o⟩ := p
  show Calls _ _ #[.slice ko m kc, .agg #[.int .i64 pk, .int .i64 t, .int .i64 l, .slice sa sn sc, .slice ra rn rc, .slice ma mn mc, .slice va vn vc, .int .i64 g, .int .i64 d, .bool o], .int .i64 cargo, .int .i64 n] w _
  obtain ⟨B, hB⟩ : ∃ B, w.heap.size = B := ⟨_, rfl⟩
  rw [hB] at H0 HKB ⊢
  clear hK hP hp0
  go_enter Try.func8, Try.ntmps8
  go_upto_region 1 with fail
  clear hB
  generalize World.alloc w _ = w1 at H0 ⊢
  have c0 := H0.out.c0; have c1 := H0.out.c1; have c2 := H0.out.c2; have c3 := H0.out.c3; have c4 := H0.out.c4; have c5 := H0.out.c5; have c6 := H0.out.c6; have c7 := H0.out.c7; have c8 := H0.out.c8; have c9 := H0.out.c9
  go_wp2_with fail
  refine (HLG.out _ (HKB.out _ H0.out.below)).mono ?_
  rintro e w2 ⟨b, rfl, hsz, hb⟩
  have H1 := hid (H0.out.stays hb)
  clear hb
  clear c0 c1 c2 c3 c4 c5 c6 c7 c8 c9
  cases b
  rotate_left
  · clear hsz
    go_wp2_with fail
    refine (known_any _).mono ?_
    rintro e w3 ⟨rfl, hb⟩
    have H2 := hid (H1.out.stays hb)
    clear hb
    go_wp2_with fail
    go_ret
    exact ⟨rfl, H2.out.below⟩
  have hz := hsz rfl
  have HSM := hid hz.small
  have HSP := hid hz.plant
  have hm3 : m ≤ 1000 := by have := hz.km; omega
  clear hsz hz
  clear H0 HLG
  have c0 := H1.out.c0; have c1 := H1.out.c1; have c2 := H1.out.c2; have c3 := H1.out.c3; have c4 := H1.out.c4; have c5 := H1.out.c5; have c6 := H1.out.c6; have c7 := H1.out.c7; have c8 := H1.out.c8; have c9 := H1.out.c9
  obtain ⟨D, u, r, hr, hDn⟩ := ha_ex m K ⟨pk, t, l, ⟨sa, sn, sc, sZ⟩, ⟨ra, rn, rc, rZ⟩, ⟨ma, mn, mc, mZ⟩, ⟨va, vn, vc, vZ⟩, g, d, o⟩ cargo n
  have HN1 := hid (fun W h h' => haul_any ko m kc K hm3 HSM.out ⟨pk, t, l, ⟨sa, sn, sc, sZ⟩, ⟨ra, rn, rc, rZ⟩, ⟨ma, mn, mc, mZ⟩, ⟨va, vn, vc, vZ⟩, g, d, o⟩ HSP.out cargo n D u r hr W h h')
  have HN2 := hid (fun W h h' => rhaul_any ko m kc K hcap hm3 HSM.out ⟨pk, t, l, ⟨sa, sn, sc, sZ⟩, ⟨ra, rn, rc, rZ⟩, ⟨ma, mn, mc, mZ⟩, ⟨va, vn, vc, vZ⟩, g, d, o⟩ HSP.out cargo n D u r hr W h h')
  have hrr : (r == r) = true := by simp
  have huu : (u == u) = true := by simp
  clear hr
  go_wp2_with fail
  refine (HN1.out _ (HKB.out _ H1.out.below) H1.out.lists).mono ?_
  rintro e w3 ⟨p1, rfl, hI1, hR1, hb⟩
  have HI1 := hid hI1
  have H2 := hid (H1.out.stays hb)
  have HQ1 := hid (Q1.start H2.out.below H2.out.le hR1.at)
  have H3 := hid (H2.out.stays ((Below.refl _ w3).alloc (Nat.le_refl _) (boxOf p1)))
  obtain ⟨X, hX⟩ : ∃ X, w3.heap.size = X := ⟨_, rfl⟩
  rw [hX] at HQ1
  clear hI1 hR1 hb H1 H2
  clear c0 c1 c2 c3 c4 c5 c6 c7 c8 c9
  go_upto_region 4 with fail
  rw [hX] at *
  clear hX
  generalize World.alloc w3 _ = w4 at HQ1 H3 ⊢
  have c0 := H3.out.c0; have c1 := H3.out.c1; have c2 := H3.out.c2; have c3 := H3.out.c3; have c4 := H3.out.c4; have c5 := H3.out.c5; have c6 := H3.out.c6; have c7 := H3.out.c7; have c8 := H3.out.c8; have c9 := H3.out.c9
  go_wp2_with fail
  refine (HN2.out _ (HKB.out _ HQ1.out.below) H3.out.lists).mono ?_
  rintro e w5 ⟨p2, rfl, hI2, hR2, hb⟩
  have HI2 := hid hI2
  have Q0 := hid (Q2.start (HQ1.out.stays hb) hR2.at)
  obtain ⟨Y, hY⟩ : ∃ Y, w5.heap.size = Y := ⟨_, rfl⟩
  rw [hY] at Q0
  clear hI2 hR2 hb HQ1 H3
  clear c0 c1 c2 c3 c4 c5 c6 c7 c8 c9
  go_upto_region 5 with fail
  clear hY
  generalize World.alloc w5 _ = w6 at Q0 ⊢
  have c0 := Q0.out.one.c0; have c1 := Q0.out.one.c1; have c2 := Q0.out.one.c2; have c3 := Q0.out.one.c3; have c4 := Q0.out.one.c4; have c5 := Q0.out.one.c5; have c6 := Q0.out.one.c6; have c7 := Q0.out.one.c7; have c8 := Q0.out.one.c8; have c9 := Q0.out.one.c9; have d0 := Q0.out.d0; have d1 := Q0.out.d1; have d2 := Q0.out.d2; have d3 := Q0.out.d3; have d4 := Q0.out.d4; have d5 := Q0.out.d5; have d6 := Q0.out.d6; have d7 := Q0.out.d7; have d8 := Q0.out.d8; have d9 := Q0.out.d9
  have HS := hid (fun W h h' => sameplant_any p1 p2 D HI1.out HI2.out hDn W h h')
  go_wp2_with (first
    | (go_at_call 19; refine (HS.out _ Q0.out.one.lists Q0.out.lists).mono ?_; rintro e w7 ⟨rfl, hb⟩; have Q1 := hid (Q0.out.stays hb); clear c0 d0 c1 d1 c2 d2 c3 d3 c4 d4 c5 d5 c6 d6 c7 d7 c8 d8 c9 d9; clear hb; have c0 := Q1.out.one.c0; have c1 := Q1.out.one.c1; have c2 := Q1.out.one.c2; have c3 := Q1.out.one.c3; have c4 := Q1.out.one.c4; have c5 := Q1.out.one.c5; have c6 := Q1.out.one.c6; have c7 := Q1.out.one.c7; have c8 := Q1.out.one.c8; have c9 := Q1.out.one.c9; have d0 := Q1.out.d0; have d1 := Q1.out.d1; have d2 := Q1.out.d2; have d3 := Q1.out.d3; have d4 := Q1.out.d4; have d5 := Q1.out.d5; have d6 := Q1.out.d6; have d7 := Q1.out.d7; have d8 := Q1.out.d8; have d9 := Q1.out.d9)
    | (go_at_call 14; refine (known_any _).mono ?_; rintro e w9 ⟨rfl, hb⟩; have Q2 := hid (Q1.out.stays hb); clear hb))
  go_ret
  exact ⟨rfl, Q2.out.one.below⟩
end Go.Proofs.Ytnhkblkijiipeaa
