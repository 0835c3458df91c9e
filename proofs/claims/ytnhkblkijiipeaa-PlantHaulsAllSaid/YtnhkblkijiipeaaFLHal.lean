/-
  The walk of the law PlantHaulsAll.
-/
import Derived.Test.YtnhkblkijiipeaaFLHau
import Derived.Test.YtnhkblkijiipeaaFHal
namespace Go.Proofs.Ytnhkblkijiipeaa
open Go.RowKit


theorem ints_conv {w : World} {ao : Option Addr} {n n' : Nat} {Z Y : Nat → Int} (h : Ints w ao n Z) (e : n = n') (hz : ∀ j, j < n' → Z j = Y j) : Ints w ao n' Y := by
  intro j hj
  obtain ⟨b, off, e1, e2, e3⟩ := iat h (j := j) (by omega)
  exact ⟨b, off, e1, e2, by rw [e3, hz j hj]⟩
theorem qs_keep {pk t l g d : Int} {sa ra ma va : Option Addr} {sn sc rn rc mn mc vn vc : Nat} {sZ rZ mZ vZ : Nat → Int} {o : Bool} {B X1 X2 X3 : Nat} {p1 p2 p3 : Pl} {w w1 w2 : World}
    (h : QS [(X3, p3), (X2, p2), (X1, p1), (B, ⟨pk, t, l, ⟨sa, sn, sc, sZ⟩, ⟨ra, rn, rc, rZ⟩, ⟨ma, mn, mc, mZ⟩, ⟨va, vn, vc, vZ⟩, g, d, o⟩)] B w w1) (hb : Below w1.heap.size w1 w2) : (fun w' => QS [(X3, p3), (X2, p2), (X1, p1), (B, ⟨pk, t, l, ⟨sa, sn, sc, sZ⟩, ⟨ra, rn, rc, rZ⟩, ⟨ma, mn, mc, mZ⟩, ⟨va, vn, vc, vZ⟩, g, d, o⟩)] B w w' ∧ w'.cell? ⟨B, 3, none⟩ = some (.slice sa sn sc) ∧ w'.cell? ⟨X2, 3, none⟩ = some (.slice p2.st.a p2.st.n p2.st.c) ∧ w'.cell? ⟨X3, 3, none⟩ = some (.slice p3.st.a p3.st.n p3.st.c) ∧ w'.cell? ⟨X1, 0, none⟩ = some (.int .i64 p1.k) ∧ w'.cell? ⟨X1, 1, none⟩ = some (.int .i64 p1.t) ∧ w'.cell? ⟨X1, 2, none⟩ = some (.int .i64 p1.l) ∧ w'.cell? ⟨X1, 3, none⟩ = some (.slice p1.st.a p1.st.n p1.st.c) ∧ w'.cell? ⟨X1, 4, none⟩ = some (.slice p1.re.a p1.re.n p1.re.c) ∧ w'.cell? ⟨X1, 5, none⟩ = some (.slice p1.ma.a p1.ma.n p1.ma.c) ∧ w'.cell? ⟨X1, 6, none⟩ = some (.slice p1.mo.a p1.mo.n p1.mo.c) ∧ w'.cell? ⟨X1, 7, none⟩ = some (.int .i64 p1.g) ∧ w'.cell? ⟨X1, 8, none⟩ = some (.int .i64 p1.i) ∧ w'.cell? ⟨X1, 9, none⟩ = some (.bool p1.o)) w2 := by
  have h' := h.stays hb
  have b0 := (h'.all (B, ⟨pk, t, l, ⟨sa, sn, sc, sZ⟩, ⟨ra, rn, rc, rZ⟩, ⟨ma, mn, mc, mZ⟩, ⟨va, vn, vc, vZ⟩, g, d, o⟩) (by simp)).1
  have b1 := (h'.all (X1, p1) (by simp)).1
  have b2 := (h'.all (X2, p2) (by simp)).1
  have b3 := (h'.all (X3, p3) (by simp)).1
  exact ⟨h', cell_of_row _ _ 3 _ _ _ b0, cell_of_row _ _ 3 _ _ _ b2, cell_of_row _ _ 3 _ _ _ b3, cell_of_row _ _ 0 _ _ _ b1, cell_of_row _ _ 1 _ _ _ b1, cell_of_row _ _ 2 _ _ _ b1, cell_of_row _ _ 3 _ _ _ b1, cell_of_row _ _ 4 _ _ _ b1, cell_of_row _ _ 5 _ _ _ b1, cell_of_row _ _ 6 _ _ _ b1, cell_of_row _ _ 7 _ _ _ b1, cell_of_row _ _ 8 _ _ _ b1, cell_of_row _ _ 9 _ _ _ b1⟩
set_option maxRecDepth 100000 in
set_option maxHeartbeats 12800000 in
theorem walk_haulsall (ko : Option Addr) (m kc : Nat) (K : Nat → Kd) (hm : m ≤ maxLen) (_hcap : m ≤ kc) (p : Pl) (cargo n : Int) (w : World) (hK : Kds w ko m K) (hP : PlAt w p) :
    Calls Try.prog 9 #[.slice ko m kc, pv p, .int .i64 cargo, .int .i64 n] w fun e w' => e = .returned (.bool true) ∧ Below w.heap.size w w' := by
  have H0 := hid (PB.start hP)
  have HKB : Hid (∀ W, Below w.heap.size w W → Kds W ko m K) := hid (fun W hb => hK.stays hb)
  have HLG := hid (fun W h => large_any ko m kc K p hm W h)
  obtain ⟨p0, hp0⟩ : ∃ p0, p = p0 := ⟨_, rfl⟩
  have HPP := hid hp0
  obtain ⟨pk, t, l, ⟨sa, sn, sc, sZ⟩, ⟨ra, rn, rc, rZ⟩, ⟨ma, mn, mc, mZ⟩, ⟨va, vn, vc, vZ⟩, g, d, o⟩ := p
  show Calls _ _ #[.slice ko m kc, .agg #[.int .i64 pk, .int .i64 t, .int .i64 l, .slice sa sn sc, .slice ra rn rc, .slice ma mn mc, .slice va vn vc, .int .i64 g, .int .i64 d, .bool o], .int .i64 cargo, .int .i64 n] w _
  obtain ⟨B, hB⟩ : ∃ B, w.heap.size = B := ⟨_, rfl⟩
  rw [hB] at H0 HKB ⊢
  clear hK hP hp0
  go_enter Try.func9, Try.ntmps9
  go_upto_region 1 with fail
  clear hB
  generalize World.alloc w _ = w1 at H0 ⊢
  have c0 := H0.out.c0; have c1 := H0.out.c1; have c2 := H0.out.c2; have c3 := H0.out.c3; have c4 := H0.out.c4; have c5 := H0.out.c5; have c6 := H0.out.c6; have c7 := H0.out.c7; have c8 := H0.out.c8; have c9 := H0.out.c9
  go_wp2_with fail
  refine (HLG.out _ (HKB.out _ H0.out.below)).mono ?_
  rintro e w2 ⟨b, rfl, hsz, hb⟩
  have H1 := hid (H0.out.stays hb)
  clear hb
  clear c0 c1 c2 c3 c4 c5 c6 c7 c8 c9
  cases b
  rotate_left
  · clear hsz
    go_wp2_with fail
    refine (known_any _).mono ?_
    rintro e w3 ⟨rfl, hb⟩
    have H2 := hid (H1.out.stays hb)
    clear hb
    go_wp2_with fail
    go_ret
    exact ⟨rfl, H2.out.below⟩
  have hz := hsz rfl
  have HSM := hid hz.small
  have HSP := hid hz.plant
  have hm3 : m ≤ 1000 := by have := hz.km; omega
  clear hsz hz
  clear H0 HLG
  have c0 := H1.out.c0; have c1 := H1.out.c1; have c2 := H1.out.c2; have c3 := H1.out.c3; have c4 := H1.out.c4; have c5 := H1.out.c5; have c6 := H1.out.c6; have c7 := H1.out.c7; have c8 := H1.out.c8; have c9 := H1.out.c9
  obtain ⟨D1, u1, r1, hr1, hD1n⟩ := ha_ex m K ⟨pk, t, l, ⟨sa, sn, sc, sZ⟩, ⟨ra, rn, rc, rZ⟩, ⟨ma, mn, mc, mZ⟩, ⟨va, vn, vc, vZ⟩, g, d, o⟩ cargo n
  have HR1 := hid hr1
  have HN1 := hid (fun W h h' => haul_any ko m kc K hm3 HSM.out ⟨pk, t, l, ⟨sa, sn, sc, sZ⟩, ⟨ra, rn, rc, rZ⟩, ⟨ma, mn, mc, mZ⟩, ⟨va, vn, vc, vZ⟩, g, d, o⟩ HSP.out cargo n D1 u1 r1 hr1 W h h')
  clear hr1
  go_wp2_with fail
  refine (HN1.out _ (HKB.out _ H1.out.below) H1.out.lists).mono ?_
  rintro e w3 ⟨p1, rfl, hI, hRo, hb⟩
  have HI1 := hid hI
  have HQ1 := hid (((H1.out.qs).stays hb).add hRo.at)
  obtain ⟨X1, hX⟩ : ∃ X, w3.heap.size = X := ⟨_, rfl⟩
  rw [hX] at HQ1
  clear hI hRo hb H1
  clear c0 c1 c2 c3 c4 c5 c6 c7 c8 c9
  go_upto_region 4 with fail
  rw [hX] at *
  clear hX
  generalize World.alloc w3 _ = v1 at HQ1 ⊢
  by_cases h0 : r1 = 0
  rotate_left
  · have hne : (r1 != 0) = true := by simpa using h0
    obtain rfl : u1 = 0 := ha_err HR1.out h0
    clear h0
    go_wp2_with fail
    refine (known_any _).mono ?_
    rintro e we ⟨rfl, hb⟩
    have HE := hid (HQ1.out.stays hb)
    clear hb
    go_wp2_with fail
    go_ret
    exact ⟨rfl, HE.out.below⟩
  subst h0
  obtain ⟨D2, u2, r2, hr2, hD2n⟩ := ha_ex m K p1 cargo 1000000
  have HR2 := hid hr2
  obtain ⟨D3, u3, r3, hr3, hD3n⟩ := ha_ex m K ⟨pk, t, l, ⟨sa, sn, sc, sZ⟩, ⟨ra, rn, rc, rZ⟩, ⟨ma, mn, mc, mZ⟩, ⟨va, vn, vc, vZ⟩, g, d, o⟩ cargo 1000000
  have HR3 := hid hr3
  obtain ⟨rfl, rfl, hub, hub3, hu, k, hR, hDR, hD2, hD3, hSS, hsum⟩ := ha_all HR1.out HI1.out hr2 hr3
  have HN2 := hid (fun W h h' => haul_any ko m kc K hm3 HSM.out p1 (HI1.out.small hD1n) cargo 1000000 D2 u2 0 hr2 W h h')
  have HN3 := hid (fun W h h' => haul_any ko m kc K hm3 HSM.out ⟨pk, t, l, ⟨sa, sn, sc, sZ⟩, ⟨ra, rn, rc, rZ⟩, ⟨ma, mn, mc, mZ⟩, ⟨va, vn, vc, vZ⟩, g, d, o⟩ HSP.out cargo 1000000 D3 u3 0 hr3 W h h')
  have hlo : 0 ≤ u1 := hub.1
  have hhi : u1 ≤ n := hub.2.1
  have hwu : IntKind.i64.wrap (u1 + u2) = u3 := by rw [IntKind.wrap_i64]; omega
  have huu : (u3 == u3) = true := by simp
  obtain ⟨N, hN⟩ : ∃ N, (K k).mn = N := ⟨_, rfl⟩
  rw [hN] at hD2 hD3 hSS hsum
  have hN1 : N ≤ 1000 := by rw [← hN]; have := hR.ks.mn k hR.lt; omega
  have hst1 : p1.st.n = N := HI1.out.st.len.trans (hDR.n.trans hN)
  have l1 : sn = N := by rw [← hN]; exact hR.pl.st.len
  obtain ⟨T, hT⟩ : ∃ T, sumZ sZ N = T := ⟨_, rfl⟩
  obtain ⟨T1, hT1⟩ : ∃ T, sumZ D1.S N = T := ⟨_, rfl⟩
  have hsz : ∀ j, j < N → 0 ≤ sZ j ∧ sZ j ≤ 1000000 := fun j hj => hR.pl.st.z j (by rw [hN]; exact hj)
  have hz1 : ∀ j, j < N → p1.st.Z j = D1.S j := fun j hj => HI1.out.st.at' j (by rw [hDR.n, hN]; exact hj)
  have hd1 : ∀ j, j < N → 0 ≤ D1.S j ∧ D1.S j ≤ 1000000 := fun j hj => hDR.ok.S j (by rw [hDR.n, hN]; exact hj)
  have hbT : 0 ≤ T ∧ T ≤ 1000000 * (N : Int) := by rw [← hT]; exact sumZ_bd hsz
  have hwe : T1 + u1 = T := by rw [← hT1]; exact hsum.trans hT
  have hwt : IntKind.i64.wrap (T1 + u1) = T := by rw [hwe, IntKind.wrap_i64]; omega
  clear hwe
  have htt : (T == T) = true := by simp
  have HT1 := hid (fun W h => total_any p1.st.a p1.st.n p1.st.c p1.st.Z T1 (by omega) (fun j hj => by rw [hz1 j (by omega)]; exact hd1 j (by omega)) (by rw [hst1, sumZ_congr hz1]; exact hT1) W h)
  have HT := hid (fun W h => total_any sa sn sc sZ T (by omega) (fun j hj => hsz j (by omega)) (by rw [l1]; exact hT) W h)
  have HV1 := hid (fun W h h' => validate_any ko m kc K hm3 HSM.out p1 (HI1.out.small hD1n) 0 (hDR.right HI1.out).err W h h')
  have HSS := hid hSS; have HD2 := hid hD2; have HD3 := hid hD3
  have HN1000 := hid hN1
  clear hub hub3 hu hR hDR hD2 hD3 hSS hsum hN hN1 hst1 l1 hT hT1 hsz hz1 hd1 hbT hr2 hr3
  have hc := (HQ1.out.all (X1, p1) (by simp)).1
  have c0 : v1.cell? ⟨X1, 0, none⟩ = some (.int .i64 p1.k) := cell_of_row _ _ 0 _ _ _ hc
  have c1 : v1.cell? ⟨X1, 1, none⟩ = some (.int .i64 p1.t) := cell_of_row _ _ 1 _ _ _ hc
  have c2 : v1.cell? ⟨X1, 2, none⟩ = some (.int .i64 p1.l) := cell_of_row _ _ 2 _ _ _ hc
  have c3 : v1.cell? ⟨X1, 3, none⟩ = some (.slice p1.st.a p1.st.n p1.st.c) := cell_of_row _ _ 3 _ _ _ hc
  have c4 : v1.cell? ⟨X1, 4, none⟩ = some (.slice p1.re.a p1.re.n p1.re.c) := cell_of_row _ _ 4 _ _ _ hc
  have c5 : v1.cell? ⟨X1, 5, none⟩ = some (.slice p1.ma.a p1.ma.n p1.ma.c) := cell_of_row _ _ 5 _ _ _ hc
  have c6 : v1.cell? ⟨X1, 6, none⟩ = some (.slice p1.mo.a p1.mo.n p1.mo.c) := cell_of_row _ _ 6 _ _ _ hc
  have c7 : v1.cell? ⟨X1, 7, none⟩ = some (.int .i64 p1.g) := cell_of_row _ _ 7 _ _ _ hc
  have c8 : v1.cell? ⟨X1, 8, none⟩ = some (.int .i64 p1.i) := cell_of_row _ _ 8 _ _ _ hc
  have c9 : v1.cell? ⟨X1, 9, none⟩ = some (.bool p1.o) := cell_of_row _ _ 9 _ _ _ hc
  clear hc
  go_wp2_with fail
  refine (HN2.out _ (HKB.out _ HQ1.out.below) (HQ1.out.all (X1, p1) (by simp)).2).mono ?_
  rintro e w5 ⟨p2, rfl, hI, hRo, hb⟩
  have HI2 := hid hI
  have HQ2 := hid (((HQ1.out).stays hb).add hRo.at)
  obtain ⟨X2, hX⟩ : ∃ X, w5.heap.size = X := ⟨_, rfl⟩
  rw [hX] at HQ2
  clear hI hRo hb HQ1
  clear c0 c1 c2 c3 c4 c5 c6 c7 c8 c9
  go_upto_region 7 with fail
  rw [hX] at *
  clear hX
  generalize World.alloc w5 _ = v2 at HQ2 ⊢
  have hc := (HQ2.out.all (B, ⟨pk, t, l, ⟨sa, sn, sc, sZ⟩, ⟨ra, rn, rc, rZ⟩, ⟨ma, mn, mc, mZ⟩, ⟨va, vn, vc, vZ⟩, g, d, o⟩) (by simp)).1
  have c0 : v2.cell? ⟨B, 0, none⟩ = some (.int .i64 pk) := cell_of_row _ _ 0 _ _ _ hc
  have c1 : v2.cell? ⟨B, 1, none⟩ = some (.int .i64 t) := cell_of_row _ _ 1 _ _ _ hc
  have c2 : v2.cell? ⟨B, 2, none⟩ = some (.int .i64 l) := cell_of_row _ _ 2 _ _ _ hc
  have c3 : v2.cell? ⟨B, 3, none⟩ = some (.slice sa sn sc) := cell_of_row _ _ 3 _ _ _ hc
  have c4 : v2.cell? ⟨B, 4, none⟩ = some (.slice ra rn rc) := cell_of_row _ _ 4 _ _ _ hc
  have c5 : v2.cell? ⟨B, 5, none⟩ = some (.slice ma mn mc) := cell_of_row _ _ 5 _ _ _ hc
  have c6 : v2.cell? ⟨B, 6, none⟩ = some (.slice va vn vc) := cell_of_row _ _ 6 _ _ _ hc
  have c7 : v2.cell? ⟨B, 7, none⟩ = some (.int .i64 g) := cell_of_row _ _ 7 _ _ _ hc
  have c8 : v2.cell? ⟨B, 8, none⟩ = some (.int .i64 d) := cell_of_row _ _ 8 _ _ _ hc
  have c9 : v2.cell? ⟨B, 9, none⟩ = some (.bool o) := cell_of_row _ _ 9 _ _ _ hc
  clear hc
  go_wp2_with fail
  refine (HN3.out _ (HKB.out _ HQ2.out.below) (HQ2.out.all (B, ⟨pk, t, l, ⟨sa, sn, sc, sZ⟩, ⟨ra, rn, rc, rZ⟩, ⟨ma, mn, mc, mZ⟩, ⟨va, vn, vc, vZ⟩, g, d, o⟩) (by simp)).2).mono ?_
  rintro e w6 ⟨p3, rfl, hI, hRo, hb⟩
  have HI3 := hid hI
  have HQ3 := hid (((HQ2.out).stays hb).add hRo.at)
  obtain ⟨X3, hX⟩ : ∃ X, w6.heap.size = X := ⟨_, rfl⟩
  rw [hX] at HQ3
  clear hI hRo hb HQ2
  clear c0 c1 c2 c3 c4 c5 c6 c7 c8 c9
  go_upto_region 8 with fail
  rw [hX] at *
  clear hX
  generalize World.alloc w6 _ = v3 at HQ3 ⊢
  have HLL : Hid (∀ W, PlAt W p2 → PlAt W p3 → Calls Try.prog 27 #[.slice p2.st.a p2.st.n p2.st.c, .slice p3.st.a p3.st.n p3.st.c] W fun e w' => e = .returned (.bool true) ∧ Below W.heap.size W w') := hid (fun W h h' => by
    have e1 : p2.st.n = N := HI2.out.st.len.trans HD2.out
    have e2 : p3.st.n = N := HI3.out.st.len.trans HD3.out
    rw [e1, e2]
    exact ints_same p2.st.a p3.st.a N p2.st.c p3.st.c D3.S (by have := HN1000.out; omega) W (ints_conv h.st e1 (fun j hj => (HI2.out.st.at' j (by rw [HD2.out]; exact hj)).trans (HSS.out j hj))) (ints_conv h'.st e2 (fun j hj => HI3.out.st.at' j (by rw [HD3.out]; exact hj))))
  clear HN1 HN2 HN3
  have hx := qs_keep HQ3.out (Below.refl _ _)
  go_region_held3 (fun w' => QS [(X3, p3), (X2, p2), (X1, p1), (B, ⟨pk, t, l, ⟨sa, sn, sc, sZ⟩, ⟨ra, rn, rc, rZ⟩, ⟨ma, mn, mc, mZ⟩, ⟨va, vn, vc, vZ⟩, g, d, o⟩)] B w w' ∧ w'.cell? ⟨B, 3, none⟩ = some (.slice sa sn sc) ∧ w'.cell? ⟨X2, 3, none⟩ = some (.slice p2.st.a p2.st.n p2.st.c) ∧ w'.cell? ⟨X3, 3, none⟩ = some (.slice p3.st.a p3.st.n p3.st.c) ∧ w'.cell? ⟨X1, 0, none⟩ = some (.int .i64 p1.k) ∧ w'.cell? ⟨X1, 1, none⟩ = some (.int .i64 p1.t) ∧ w'.cell? ⟨X1, 2, none⟩ = some (.int .i64 p1.l) ∧ w'.cell? ⟨X1, 3, none⟩ = some (.slice p1.st.a p1.st.n p1.st.c) ∧ w'.cell? ⟨X1, 4, none⟩ = some (.slice p1.re.a p1.re.n p1.re.c) ∧ w'.cell? ⟨X1, 5, none⟩ = some (.slice p1.ma.a p1.ma.n p1.ma.c) ∧ w'.cell? ⟨X1, 6, none⟩ = some (.slice p1.mo.a p1.mo.n p1.mo.c) ∧ w'.cell? ⟨X1, 7, none⟩ = some (.int .i64 p1.g) ∧ w'.cell? ⟨X1, 8, none⟩ = some (.int .i64 p1.i) ∧ w'.cell? ⟨X1, 9, none⟩ = some (.bool p1.o))
    (first
      | exact qs_keep HQ3.out ((Below.refl _ _).drew)
      | exact qs_keep (And.left (by assumption)) hn1
      | exact qs_keep (And.left (by assumption)) hn2
      | exact qs_keep (And.left (by assumption)) hn3
      | exact qs_keep (And.left (by assumption)) hn4
      | exact qs_keep (And.left (by assumption)) hn5)
    (first
      | (go_at_call 26; with_reducible refine (HT1.out _ (QS.all (And.left (by assumption)) (X1, p1) (by simp)).2.st).mono ?_; rintro e w8 ⟨rfl, hn1⟩)
      | (go_at_call 26; with_reducible refine (HT.out _ (QS.all (And.left (by assumption)) (B, ⟨pk, t, l, ⟨sa, sn, sc, sZ⟩, ⟨ra, rn, rc, rZ⟩, ⟨ma, mn, mc, mZ⟩, ⟨va, vn, vc, vZ⟩, g, d, o⟩) (by simp)).2.st).mono ?_; rintro e w8 ⟨rfl, hn2⟩)
      | (go_at_call 27; refine (HLL.out _ (QS.all (And.left (by assumption)) (X2, p2) (by simp)).2 (QS.all (And.left (by assumption)) (X3, p3) (by simp)).2).mono ?_; rintro e w8 ⟨rfl, hn3⟩)
      | (go_at_call 15; refine (HV1.out _ (HKB.out _ (QS.below (And.left (by assumption)))) (QS.all (And.left (by assumption)) (X1, p1) (by simp)).2).mono ?_; rintro e w8 ⟨rfl, hn4⟩)
      | (go_at_call 14; refine (known_any _).mono ?_; rintro e w8 ⟨rfl, hn5⟩))
  all_goals go_wp2_with fail
  all_goals rename_i hh
  all_goals have HE := hid hh.1.below
  all_goals clear hh
  all_goals go_ret
  all_goals exact ⟨rfl, HE.out⟩
end Go.Proofs.Ytnhkblkijiipeaa
