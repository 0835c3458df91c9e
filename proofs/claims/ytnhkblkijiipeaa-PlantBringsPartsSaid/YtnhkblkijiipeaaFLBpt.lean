/-
  The walk of the law PlantBringsParts.
-/
import Derived.Test.YtnhkblkijiipeaaFLBri
import Derived.Test.YtnhkblkijiipeaaFPrt
namespace Go.Proofs.Ytnhkblkijiipeaa
open Go.RowKit


set_option maxRecDepth 100000 in
set_option maxHeartbeats 12800000 in
theorem walk_bringsparts (ko : Option Addr) (m kc : Nat) (K : Nat → Kd) (hm : m ≤ maxLen) (_hcap : m ≤ kc) (p : Pl) (cargo n1 n2 : Int) (w : World) (hK : Kds w ko m K) (hP : PlAt w p) :
    Calls Try.prog 7 #[.slice ko m kc, pv p, .int .i64 cargo, .int .i64 n1, .int .i64 n2] w fun e w' => e = .returned (.bool true) ∧ Below w.heap.size w w' := by
  have H0 := hid (PB.start hP)
  have HKB : Hid (∀ W, Below w.heap.size w W → Kds W ko m K) := hid (fun W hb => hK.stays hb)
  have HLG := hid (fun W h => large_any ko m kc K p hm W h)
  obtain ⟨p0, hp0⟩ : ∃ p0, p = p0 := ⟨_, rfl⟩
  have HPP := hid hp0
  obtain ⟨pk, t, l, ⟨sa, sn, sc, sZ⟩, ⟨ra, rn, rc, rZ⟩, ⟨ma, mn, mc, mZ⟩, ⟨va, vn, vc, vZ⟩, g, d, o⟩ := p
  show Calls _ _ #[.slice ko m kc, .agg #[.int .i64 pk, .int .i64 t, .int .i64 l, .slice sa sn sc, .slice ra rn rc, .slice ma mn mc, .slice va vn vc, .int .i64 g, .int .i64 d, .bool o], .int .i64 cargo, .int .i64 n1, .int .i64 n2] w _
  obtain ⟨B, hB⟩ : ∃ B, w.heap.size = B := ⟨_, rfl⟩
  rw [hB] at H0 HKB ⊢
  clear hK hP hp0
  go_enter Try.func7, Try.ntmps7
  go_upto_region 1 with fail
  clear hB
  generalize World.alloc w _ = w1 at H0 ⊢
  have c0 := H0.out.c0; have c1 := H0.out.c1; have c2 := H0.out.c2; have c3 := H0.out.c3; have c4 := H0.out.c4; have c5 := H0.out.c5; have c6 := H0.out.c6; have c7 := H0.out.c7; have c8 := H0.out.c8; have c9 := H0.out.c9
  go_wp2_with fail
  refine (HLG.out _ (HKB.out _ H0.out.below)).mono ?_
  rintro e w2 ⟨b, rfl, hsz, hb⟩
  have H1 := hid (H0.out.stays hb)
  clear hb
  clear c0 c1 c2 c3 c4 c5 c6 c7 c8 c9
  cases b
  rotate_left
  · clear hsz
    go_wp2_with fail
    refine (known_any _).mono ?_
    rintro e w3 ⟨rfl, hb⟩
    have H2 := hid (H1.out.stays hb)
    clear hb
    go_wp2_with fail
    go_ret
    exact ⟨rfl, H2.out.below⟩
  have hz := hsz rfl
  have HSM := hid hz.small
  have HSP := hid hz.plant
  have hm3 : m ≤ 1000 := by have := hz.km; omega
  clear hsz hz
  clear H0 HLG
  have c0 := H1.out.c0; have c1 := H1.out.c1; have c2 := H1.out.c2; have c3 := H1.out.c3; have c4 := H1.out.c4; have c5 := H1.out.c5; have c6 := H1.out.c6; have c7 := H1.out.c7; have c8 := H1.out.c8; have c9 := H1.out.c9
  by_cases ax : n1 < 0
  · clear c0 c1 c2 c3 c4 c5 c6 c7 c8 c9
    go_wp2_with fail
    refine (known_any _).mono ?_
    rintro e we ⟨rfl, hb⟩
    have HE := hid (H1.out.stays hb)
    clear hb
    go_wp2_with fail
    go_ret
    exact ⟨rfl, HE.out.below⟩
  have a1 := ax; clear ax
  by_cases ax : n2 < 0
  · clear c0 c1 c2 c3 c4 c5 c6 c7 c8 c9
    go_wp2_with fail
    refine (known_any _).mono ?_
    rintro e we ⟨rfl, hb⟩
    have HE := hid (H1.out.stays hb)
    clear hb
    go_wp2_with fail
    go_ret
    exact ⟨rfl, HE.out.below⟩
  have a2 := ax; clear ax
  by_cases ax : 1000000 < n1
  · clear c0 c1 c2 c3 c4 c5 c6 c7 c8 c9
    go_wp2_with fail
    refine (known_any _).mono ?_
    rintro e we ⟨rfl, hb⟩
    have HE := hid (H1.out.stays hb)
    clear hb
    go_wp2_with fail
    go_ret
    exact ⟨rfl, HE.out.below⟩
  have a3 := ax; clear ax
  obtain ⟨d0, hd0⟩ : ∃ x, 1000000 - n1 = x := ⟨_, rfl⟩
  have hw0 : IntKind.i64.wrap (1000000 - n1) = d0 := by rw [IntKind.wrap_i64]; omega
  have HD0 := hid hd0
  clear hd0
  by_cases ax : d0 < n2
  · clear c0 c1 c2 c3 c4 c5 c6 c7 c8 c9
    go_wp2_with fail
    refine (known_any _).mono ?_
    rintro e we ⟨rfl, hb⟩
    have HE := hid (H1.out.stays hb)
    clear hb
    go_wp2_with fail
    go_ret
    exact ⟨rfl, HE.out.below⟩
  have a4 := ax; clear ax
  have hsum : n1 + n2 ≤ 1000000 := by have := HD0.out; omega
  obtain ⟨⟨D1, u1, r1⟩, hr1⟩ : ∃ x : Da × Int × Int, BrR m K ⟨pk, t, l, ⟨sa, sn, sc, sZ⟩, ⟨ra, rn, rc, rZ⟩, ⟨ma, mn, mc, mZ⟩, ⟨va, vn, vc, vZ⟩, g, d, o⟩ cargo n1 = x := ⟨_, rfl⟩
  have hD1n := br_n hr1
  have HR1 := hid hr1
  have HN1 := hid (fun W h h' => bring_any ko m kc K hm3 HSM.out ⟨pk, t, l, ⟨sa, sn, sc, sZ⟩, ⟨ra, rn, rc, rZ⟩, ⟨ma, mn, mc, mZ⟩, ⟨va, vn, vc, vZ⟩, g, d, o⟩ HSP.out cargo n1 D1 u1 r1 hr1 W h h')
  clear hr1
  go_wp2_with fail
  refine (HN1.out _ (HKB.out _ H1.out.below) H1.out.lists).mono ?_
  rintro e w3 ⟨p1, rfl, hI, hRo, hb⟩
  have HI1 := hid hI
  have HQ1 := hid (((H1.out.qs).stays hb).add hRo.at)
  obtain ⟨X1, hX⟩ : ∃ X, w3.heap.size = X := ⟨_, rfl⟩
  rw [hX] at HQ1
  clear hI hRo hb H1
  clear c0 c1 c2 c3 c4 c5 c6 c7 c8 c9
  go_upto_region 4 with fail
  rw [hX] at *
  clear hX
  generalize World.alloc w3 _ = v1 at HQ1 ⊢
  by_cases h0 : r1 = 0
  rotate_left
  · have hne : (r1 != 0) = true := by simpa using h0
    obtain rfl : u1 = 0 := br_err HR1.out h0
    clear h0
    go_wp2_with fail
    refine (known_any _).mono ?_
    rintro e we ⟨rfl, hb⟩
    have HE := hid (HQ1.out.stays hb)
    clear hb
    go_wp2_with fail
    go_ret
    exact ⟨rfl, HE.out.below⟩
  subst h0
  obtain ⟨⟨D2, u2, r2⟩, hr2⟩ : ∃ x : Da × Int × Int, BrR m K p1 cargo n2 = x := ⟨_, rfl⟩
  have hD2n := br_n hr2
  have HR2 := hid hr2
  obtain ⟨⟨D3, u3, r3⟩, hr3⟩ : ∃ x : Da × Int × Int, BrR m K ⟨pk, t, l, ⟨sa, sn, sc, sZ⟩, ⟨ra, rn, rc, rZ⟩, ⟨ma, mn, mc, mZ⟩, ⟨va, vn, vc, vZ⟩, g, d, o⟩ cargo (n1 + n2) = x := ⟨_, rfl⟩
  have hD3n := br_n hr3
  have HR3 := hid hr3
  obtain ⟨rfl, rfl, hDE, hu⟩ := br_parts HR1.out HI1.out hr2 hr3 (by omega) hsum
  have HDE := hid hDE
  have HN2 := hid (fun W h h' => bring_any ko m kc K hm3 HSM.out p1 (HI1.out.small hD1n) cargo n2 D2 u2 0 hr2 W h h')
  have HN3 := hid (fun W h h' => bring_any ko m kc K hm3 HSM.out ⟨pk, t, l, ⟨sa, sn, sc, sZ⟩, ⟨ra, rn, rc, rZ⟩, ⟨ma, mn, mc, mZ⟩, ⟨va, vn, vc, vZ⟩, g, d, o⟩ HSP.out cargo (n1 + n2) D3 u3 0 hr3 W h h')
  have hws : IntKind.i64.wrap (n1 + n2) = n1 + n2 := by rw [IntKind.wrap_i64]; omega
  have hub : 0 ≤ u3 ∧ u3 ≤ 1000000 := by
    obtain ⟨_, _, hb, _, ⟨_, _, _, e⟩ | ⟨_, _, e⟩⟩ := br_cases hr3 <;> omega
  have hwu : IntKind.i64.wrap (u1 + u2) = u3 := by rw [IntKind.wrap_i64]; omega
  have huu : (u3 != u3) = false := by simp
  clear hu hr2 hr3 hDE hw0
  have hc := (HQ1.out.all (X1, p1) (by simp)).1
  have c0 : v1.cell? ⟨X1, 0, none⟩ = some (.int .i64 p1.k) := cell_of_row _ _ 0 _ _ _ hc
  have c1 : v1.cell? ⟨X1, 1, none⟩ = some (.int .i64 p1.t) := cell_of_row _ _ 1 _ _ _ hc
  have c2 : v1.cell? ⟨X1, 2, none⟩ = some (.int .i64 p1.l) := cell_of_row _ _ 2 _ _ _ hc
  have c3 : v1.cell? ⟨X1, 3, none⟩ = some (.slice p1.st.a p1.st.n p1.st.c) := cell_of_row _ _ 3 _ _ _ hc
  have c4 : v1.cell? ⟨X1, 4, none⟩ = some (.slice p1.re.a p1.re.n p1.re.c) := cell_of_row _ _ 4 _ _ _ hc
  have c5 : v1.cell? ⟨X1, 5, none⟩ = some (.slice p1.ma.a p1.ma.n p1.ma.c) := cell_of_row _ _ 5 _ _ _ hc
  have c6 : v1.cell? ⟨X1, 6, none⟩ = some (.slice p1.mo.a p1.mo.n p1.mo.c) := cell_of_row _ _ 6 _ _ _ hc
  have c7 : v1.cell? ⟨X1, 7, none⟩ = some (.int .i64 p1.g) := cell_of_row _ _ 7 _ _ _ hc
  have c8 : v1.cell? ⟨X1, 8, none⟩ = some (.int .i64 p1.i) := cell_of_row _ _ 8 _ _ _ hc
  have c9 : v1.cell? ⟨X1, 9, none⟩ = some (.bool p1.o) := cell_of_row _ _ 9 _ _ _ hc
  clear hc
  go_wp2_with fail
  refine (HN2.out _ (HKB.out _ HQ1.out.below) (HQ1.out.all (X1, p1) (by simp)).2).mono ?_
  rintro e w5 ⟨p2, rfl, hI, hRo, hb⟩
  have HI2 := hid (hI.eq HDE.out)
  have HQ2 := hid (((HQ1.out).stays hb).add hRo.at)
  obtain ⟨X2, hX⟩ : ∃ X, w5.heap.size = X := ⟨_, rfl⟩
  rw [hX] at HQ2
  clear hI hRo hb HQ1
  clear c0 c1 c2 c3 c4 c5 c6 c7 c8 c9
  go_upto_region 7 with fail
  rw [hX] at *
  clear hX
  generalize World.alloc w5 _ = v2 at HQ2 ⊢
  have hc := (HQ2.out.all (B, ⟨pk, t, l, ⟨sa, sn, sc, sZ⟩, ⟨ra, rn, rc, rZ⟩, ⟨ma, mn, mc, mZ⟩, ⟨va, vn, vc, vZ⟩, g, d, o⟩) (by simp)).1
  have c0 : v2.cell? ⟨B, 0, none⟩ = some (.int .i64 pk) := cell_of_row _ _ 0 _ _ _ hc
  have c1 : v2.cell? ⟨B, 1, none⟩ = some (.int .i64 t) := cell_of_row _ _ 1 _ _ _ hc
  have c2 : v2.cell? ⟨B, 2, none⟩ = some (.int .i64 l) := cell_of_row _ _ 2 _ _ _ hc
  have c3 : v2.cell? ⟨B, 3, none⟩ = some (.slice sa sn sc) := cell_of_row _ _ 3 _ _ _ hc
  have c4 : v2.cell? ⟨B, 4, none⟩ = some (.slice ra rn rc) := cell_of_row _ _ 4 _ _ _ hc
  have c5 : v2.cell? ⟨B, 5, none⟩ = some (.slice ma mn mc) := cell_of_row _ _ 5 _ _ _ hc
  have c6 : v2.cell? ⟨B, 6, none⟩ = some (.slice va vn vc) := cell_of_row _ _ 6 _ _ _ hc
  have c7 : v2.cell? ⟨B, 7, none⟩ = some (.int .i64 g) := cell_of_row _ _ 7 _ _ _ hc
  have c8 : v2.cell? ⟨B, 8, none⟩ = some (.int .i64 d) := cell_of_row _ _ 8 _ _ _ hc
  have c9 : v2.cell? ⟨B, 9, none⟩ = some (.bool o) := cell_of_row _ _ 9 _ _ _ hc
  clear hc
  go_wp2_with fail
  refine (HN3.out _ (HKB.out _ HQ2.out.below) (HQ2.out.all (B, ⟨pk, t, l, ⟨sa, sn, sc, sZ⟩, ⟨ra, rn, rc, rZ⟩, ⟨ma, mn, mc, mZ⟩, ⟨va, vn, vc, vZ⟩, g, d, o⟩) (by simp)).2).mono ?_
  rintro e w6 ⟨p3, rfl, hI, hRo, hb⟩
  have HI3 := hid hI
  have HQ3 := hid (((HQ2.out).stays hb).add hRo.at)
  obtain ⟨X3, hX⟩ : ∃ X, w6.heap.size = X := ⟨_, rfl⟩
  rw [hX] at HQ3
  clear hI hRo hb HQ2
  clear c0 c1 c2 c3 c4 c5 c6 c7 c8 c9
  go_upto_region 8 with fail
  rw [hX] at *
  clear hX
  generalize World.alloc w6 _ = v3 at HQ3 ⊢
  have HS := hid (fun W h h' => sameplant_any p2 p3 D3 HI2.out HI3.out hD3n W h h')
  have hc := (HQ3.out.all (X2, p2) (by simp)).1
  have c0 : v3.cell? ⟨X2, 0, none⟩ = some (.int .i64 p2.k) := cell_of_row _ _ 0 _ _ _ hc
  have c1 : v3.cell? ⟨X2, 1, none⟩ = some (.int .i64 p2.t) := cell_of_row _ _ 1 _ _ _ hc
  have c2 : v3.cell? ⟨X2, 2, none⟩ = some (.int .i64 p2.l) := cell_of_row _ _ 2 _ _ _ hc
  have c3 : v3.cell? ⟨X2, 3, none⟩ = some (.slice p2.st.a p2.st.n p2.st.c) := cell_of_row _ _ 3 _ _ _ hc
  have c4 : v3.cell? ⟨X2, 4, none⟩ = some (.slice p2.re.a p2.re.n p2.re.c) := cell_of_row _ _ 4 _ _ _ hc
  have c5 : v3.cell? ⟨X2, 5, none⟩ = some (.slice p2.ma.a p2.ma.n p2.ma.c) := cell_of_row _ _ 5 _ _ _ hc
  have c6 : v3.cell? ⟨X2, 6, none⟩ = some (.slice p2.mo.a p2.mo.n p2.mo.c) := cell_of_row _ _ 6 _ _ _ hc
  have c7 : v3.cell? ⟨X2, 7, none⟩ = some (.int .i64 p2.g) := cell_of_row _ _ 7 _ _ _ hc
  have c8 : v3.cell? ⟨X2, 8, none⟩ = some (.int .i64 p2.i) := cell_of_row _ _ 8 _ _ _ hc
  have c9 : v3.cell? ⟨X2, 9, none⟩ = some (.bool p2.o) := cell_of_row _ _ 9 _ _ _ hc
  clear hc
  have hc := (HQ3.out.all (X3, p3) (by simp)).1
  have d0 : v3.cell? ⟨X3, 0, none⟩ = some (.int .i64 p3.k) := cell_of_row _ _ 0 _ _ _ hc
  have d1 : v3.cell? ⟨X3, 1, none⟩ = some (.int .i64 p3.t) := cell_of_row _ _ 1 _ _ _ hc
  have d2 : v3.cell? ⟨X3, 2, none⟩ = some (.int .i64 p3.l) := cell_of_row _ _ 2 _ _ _ hc
  have d3 : v3.cell? ⟨X3, 3, none⟩ = some (.slice p3.st.a p3.st.n p3.st.c) := cell_of_row _ _ 3 _ _ _ hc
  have d4 : v3.cell? ⟨X3, 4, none⟩ = some (.slice p3.re.a p3.re.n p3.re.c) := cell_of_row _ _ 4 _ _ _ hc
  have d5 : v3.cell? ⟨X3, 5, none⟩ = some (.slice p3.ma.a p3.ma.n p3.ma.c) := cell_of_row _ _ 5 _ _ _ hc
  have d6 : v3.cell? ⟨X3, 6, none⟩ = some (.slice p3.mo.a p3.mo.n p3.mo.c) := cell_of_row _ _ 6 _ _ _ hc
  have d7 : v3.cell? ⟨X3, 7, none⟩ = some (.int .i64 p3.g) := cell_of_row _ _ 7 _ _ _ hc
  have d8 : v3.cell? ⟨X3, 8, none⟩ = some (.int .i64 p3.i) := cell_of_row _ _ 8 _ _ _ hc
  have d9 : v3.cell? ⟨X3, 9, none⟩ = some (.bool p3.o) := cell_of_row _ _ 9 _ _ _ hc
  clear hc
  go_upto_region 10 with (go_at_call 19; refine (HS.out _ (HQ3.out.all (X2, p2) (by simp)).2 (HQ3.out.all (X3, p3) (by simp)).2).mono ?_; rintro e w8 ⟨rfl, hb⟩; have HQ4 := hid (HQ3.out.stays hb); clear c0 c1 c2 c3 c4 c5 c6 c7 c8 c9; clear d0 d1 d2 d3 d4 d5 d6 d7 d8 d9; clear hb)
  clear HQ3 HN1 HN2 HN3 HS hwu hws huu
  by_cases hz : u3 = 0
  · subst hz
    have HS := hid (fun W h h' => sameplant_any p3 ⟨pk, t, l, ⟨sa, sn, sc, sZ⟩, ⟨ra, rn, rc, rZ⟩, ⟨ma, mn, mc, mZ⟩, ⟨va, vn, vc, vZ⟩, g, d, o⟩ D3 HI3.out (br_zero HR3.out) hD3n W h h')
    have hc := (HQ4.out.all (B, ⟨pk, t, l, ⟨sa, sn, sc, sZ⟩, ⟨ra, rn, rc, rZ⟩, ⟨ma, mn, mc, mZ⟩, ⟨va, vn, vc, vZ⟩, g, d, o⟩) (by simp)).1
    have c0 : w8.cell? ⟨B, 0, none⟩ = some (.int .i64 pk) := cell_of_row _ _ 0 _ _ _ hc
    have c1 : w8.cell? ⟨B, 1, none⟩ = some (.int .i64 t) := cell_of_row _ _ 1 _ _ _ hc
    have c2 : w8.cell? ⟨B, 2, none⟩ = some (.int .i64 l) := cell_of_row _ _ 2 _ _ _ hc
    have c3 : w8.cell? ⟨B, 3, none⟩ = some (.slice sa sn sc) := cell_of_row _ _ 3 _ _ _ hc
    have c4 : w8.cell? ⟨B, 4, none⟩ = some (.slice ra rn rc) := cell_of_row _ _ 4 _ _ _ hc
    have c5 : w8.cell? ⟨B, 5, none⟩ = some (.slice ma mn mc) := cell_of_row _ _ 5 _ _ _ hc
    have c6 : w8.cell? ⟨B, 6, none⟩ = some (.slice va vn vc) := cell_of_row _ _ 6 _ _ _ hc
    have c7 : w8.cell? ⟨B, 7, none⟩ = some (.int .i64 g) := cell_of_row _ _ 7 _ _ _ hc
    have c8 : w8.cell? ⟨B, 8, none⟩ = some (.int .i64 d) := cell_of_row _ _ 8 _ _ _ hc
    have c9 : w8.cell? ⟨B, 9, none⟩ = some (.bool o) := cell_of_row _ _ 9 _ _ _ hc
    clear hc
    have hc := (HQ4.out.all (X3, p3) (by simp)).1
    have d0 : w8.cell? ⟨X3, 0, none⟩ = some (.int .i64 p3.k) := cell_of_row _ _ 0 _ _ _ hc
    have d1 : w8.cell? ⟨X3, 1, none⟩ = some (.int .i64 p3.t) := cell_of_row _ _ 1 _ _ _ hc
    have d2 : w8.cell? ⟨X3, 2, none⟩ = some (.int .i64 p3.l) := cell_of_row _ _ 2 _ _ _ hc
    have d3 : w8.cell? ⟨X3, 3, none⟩ = some (.slice p3.st.a p3.st.n p3.st.c) := cell_of_row _ _ 3 _ _ _ hc
    have d4 : w8.cell? ⟨X3, 4, none⟩ = some (.slice p3.re.a p3.re.n p3.re.c) := cell_of_row _ _ 4 _ _ _ hc
    have d5 : w8.cell? ⟨X3, 5, none⟩ = some (.slice p3.ma.a p3.ma.n p3.ma.c) := cell_of_row _ _ 5 _ _ _ hc
    have d6 : w8.cell? ⟨X3, 6, none⟩ = some (.slice p3.mo.a p3.mo.n p3.mo.c) := cell_of_row _ _ 6 _ _ _ hc
    have d7 : w8.cell? ⟨X3, 7, none⟩ = some (.int .i64 p3.g) := cell_of_row _ _ 7 _ _ _ hc
    have d8 : w8.cell? ⟨X3, 8, none⟩ = some (.int .i64 p3.i) := cell_of_row _ _ 8 _ _ _ hc
    have d9 : w8.cell? ⟨X3, 9, none⟩ = some (.bool p3.o) := cell_of_row _ _ 9 _ _ _ hc
    clear hc
    go_wp2_with (first
      | (go_at_call 19; refine (HS.out _ (HQ4.out.all (X3, p3) (by simp)).2 (HQ4.out.all (B, ⟨pk, t, l, ⟨sa, sn, sc, sZ⟩, ⟨ra, rn, rc, rZ⟩, ⟨ma, mn, mc, mZ⟩, ⟨va, vn, vc, vZ⟩, g, d, o⟩) (by simp)).2).mono ?_; rintro e w9 ⟨rfl, hb⟩; have HQ5 := hid (HQ4.out.stays hb); clear c0 c1 c2 c3 c4 c5 c6 c7 c8 c9; clear d0 d1 d2 d3 d4 d5 d6 d7 d8 d9; clear hb)
      | (go_at_call 14; refine (known_any _).mono ?_; rintro e w9 ⟨rfl, hb⟩; have HQ6 := hid (HQ5.out.stays hb); clear hb))
    go_ret
    exact ⟨rfl, HQ6.out.below⟩
  have hz' : (u3 == 0) = false := by simpa using hz
  obtain ⟨k, _, hk⟩ := br_dright HR3.out
  obtain ⟨hR, hDn, _, hE⟩ := br_eighths HR3.out hk hz
  obtain rfl : pk = (k : Int) := hk
  have hkm := hR.lt
  have hkm' : (k : Int) < (m : Int) := by omega
  obtain ⟨N, hN⟩ : ∃ N, (K k).mn = N := ⟨_, rfl⟩
  obtain ⟨k3, t3, l3, ⟨xa, xn, xc, xZ⟩, ⟨ya, yn, yc, yZ⟩, L5, L6, g3, i3, o3⟩ := p3
  have l1 : sn = N := by rw [← hN]; exact hR.pl.st.len
  have l2 : rn = N := by rw [← hN]; exact hR.pl.re.len
  have l3' : xn = N := by rw [← hN, ← hDn]; exact HI3.out.st.len
  have l4' : yn = N := by rw [← hN, ← hDn]; exact HI3.out.re.len
  subst l1; subst l2; subst l3'; subst l4'
  have HRT := hid hR
  have HNN := hid hN
  have HKM := hid hkm
  have hvn : yn ≤ 1000 := by have := hR.ks.mn k hkm; omega
  have HEE : Hid (∀ j, j < yn → (0 ≤ xZ j ∧ xZ j ≤ 1000000) ∧ (0 ≤ yZ j ∧ yZ j ≤ 7) ∧ (0 ≤ sZ j ∧ sZ j ≤ 1000000) ∧ (0 ≤ rZ j ∧ rZ j ≤ 7) ∧ (xZ j < 1000000 → 8 * (xZ j - sZ j) + yZ j - rZ j = u3 * (K k).A j)) := hid (fun j hj => by
    have hj' : j < (K k).mn := by rw [hN]; exact hj
    have hj'' : j < D3.n := by rw [hDn]; exact hj'
    have e1 : xZ j = D3.S j := HI3.out.st.at' j hj''
    have e2 : yZ j = D3.R j := HI3.out.re.at' j hj''
    obtain ⟨q1, q2, q3⟩ := hE j hj'
    rw [e1, e2]
    exact ⟨q1, q2, hR.pl.st.z j hj', hR.pl.re.z j hj', q3⟩)
  have HTA : Hid (∀ W, Below B w W → KdAt W (K k)) := hid (fun W hb => (HKB.out W hb k HKM.out).2)
  obtain ⟨⟨kb, koff, ke, hj1⟩, hj2⟩ := (HKB.out w8 HQ4.out.below) k hkm
  clear hj1 hj2
  subst ke
  clear hR hDn hE hN hkm hz hub
  have hc := (HQ4.out.all (B, ⟨(k : Int), t, l, ⟨sa, yn, sc, sZ⟩, ⟨ra, yn, rc, rZ⟩, ⟨ma, mn, mc, mZ⟩, ⟨va, vn, vc, vZ⟩, g, d, o⟩) (by simp)).1
  have c0 : w8.cell? ⟨B, 0, none⟩ = some (.int .i64 (k : Int)) := cell_of_row _ _ 0 _ _ _ hc
  have c3 : w8.cell? ⟨B, 3, none⟩ = some (.slice sa yn sc) := cell_of_row _ _ 3 _ _ _ hc
  have c4 : w8.cell? ⟨B, 4, none⟩ = some (.slice ra yn rc) := cell_of_row _ _ 4 _ _ _ hc
  clear hc
  have hc := (HQ4.out.all (X3, ⟨k3, t3, l3, ⟨xa, yn, xc, xZ⟩, ⟨ya, yn, yc, yZ⟩, L5, L6, g3, i3, o3⟩) (by simp)).1
  have d3 : w8.cell? ⟨X3, 3, none⟩ = some (.slice xa yn xc) := cell_of_row _ _ 3 _ _ _ hc
  have d4 : w8.cell? ⟨X3, 4, none⟩ = some (.slice ya yn yc) := cell_of_row _ _ 4 _ _ _ hc
  clear hc
  have hnn : ((yn : Int) != (yn : Int)) = false := by simp
  obtain ⟨kb', koff', e', _, z0, z1, z2⟩ := kat (HKB.out _ HQ4.out.below) HKM.out
  cases e'
  rw [HNN.out] at z2
  go_upto_region 15 with fail
  clear c0 c3 c4 d3 d4 z0 z1 z2 hnn hz'
  have HQ5 : Hid (QS [(X3, ⟨k3, t3, l3, ⟨xa, yn, xc, xZ⟩, ⟨ya, yn, yc, yZ⟩, L5, L6, g3, i3, o3⟩), (X2, p2), (X1, p1), (B, ⟨(k : Int), t, l, ⟨sa, yn, sc, sZ⟩, ⟨ra, yn, rc, rZ⟩, ⟨ma, mn, mc, mZ⟩, ⟨va, vn, vc, vZ⟩, g, d, o⟩)] B w w8) := HQ4
  clear HQ4
  go_loopw [130] (fun iv wr => ∃ i : Nat, i ≤ yn ∧ iv = .int .i64 i ∧ Hid (QS [(X3, ⟨k3, t3, l3, ⟨xa, yn, xc, xZ⟩, ⟨ya, yn, yc, yZ⟩, L5, L6, g3, i3, o3⟩), (X2, p2), (X1, p1), (B, ⟨(k : Int), t, l, ⟨sa, yn, sc, sZ⟩, ⟨ra, yn, rc, rZ⟩, ⟨ma, mn, mc, mZ⟩, ⟨va, vn, vc, vZ⟩, g, d, o⟩)] B w wr)) (fun iv _ => yn - (intOf iv).toNat)
  case atStart => exact ⟨0, Nat.zero_le _, rfl, HQ5⟩
  case round =>
    clear HQ5
    obtain ⟨i, hi, rfl, HM⟩ := hrel
    by_cases hlt : i < yn
    · have hiv : (i : Int) < (yn : Int) := by omega
      obtain ⟨mb, moff, me, _, a0, a1'⟩ := mat (HTA.out _ HM.out.below).m (j := i) (by rw [HNN.out]; exact hlt)
      obtain ⟨cg, hcg⟩ : ∃ x, (K k).C i = x := ⟨_, rfl⟩
      obtain ⟨am, ham⟩ : ∃ x, (K k).A i = x := ⟨_, rfl⟩
      rw [hcg] at a0; rw [ham] at a1'
      have hnm := heap_new wr (makeBox cg am)
      have HNM := hid hnm
      have HQ6 := hid (HM.out.stays ((Below.refl _ wr).alloc (Nat.le_refl _) (makeBox cg am)))
      obtain ⟨sb, soff, se, _, _⟩ := iat (HM.out.all (B, ⟨(k : Int), t, l, ⟨sa, yn, sc, sZ⟩, ⟨ra, yn, rc, rZ⟩, ⟨ma, mn, mc, mZ⟩, ⟨va, vn, vc, vZ⟩, g, d, o⟩) (by simp)).2.st (j := i) hlt
      obtain ⟨rb, roff, re, _, _⟩ := iat (HM.out.all (B, ⟨(k : Int), t, l, ⟨sa, yn, sc, sZ⟩, ⟨ra, yn, rc, rZ⟩, ⟨ma, mn, mc, mZ⟩, ⟨va, vn, vc, vZ⟩, g, d, o⟩) (by simp)).2.re (j := i) hlt
      obtain ⟨xb, xoff, xe, _, _⟩ := iat (HM.out.all (X3, ⟨k3, t3, l3, ⟨xa, yn, xc, xZ⟩, ⟨ya, yn, yc, yZ⟩, L5, L6, g3, i3, o3⟩) (by simp)).2.st (j := i) hlt
      obtain ⟨yb, yoff, ye, _, _⟩ := iat (HM.out.all (X3, ⟨k3, t3, l3, ⟨xa, yn, xc, xZ⟩, ⟨ya, yn, yc, yZ⟩, L5, L6, g3, i3, o3⟩) (by simp)).2.re (j := i) hlt
      dsimp only at se re xe ye
      subst se; subst re; subst xe; subst ye
      obtain ⟨q1, q2, q3, q4, q5⟩ := HEE.out i hlt
      rw [ham] at q5
      have HLT := hid hlt
      obtain ⟨Xm, hXm⟩ : ∃ Xm, wr.heap.size = Xm := ⟨_, rfl⟩
      rw [hXm] at HNM
      clear hcg ham hnm
      go_upto_region 17 with fail
      clear a0 a1' hXm HM me
      generalize World.alloc wr _ = w9 at HQ6 HNM ⊢
      have hc := (HQ6.out.all (B, ⟨(k : Int), t, l, ⟨some ⟨sb, soff, none⟩, yn, sc, sZ⟩, ⟨some ⟨rb, roff, none⟩, yn, rc, rZ⟩, ⟨ma, mn, mc, mZ⟩, ⟨va, vn, vc, vZ⟩, g, d, o⟩) (by simp)).1
      have c0 : w9.cell? ⟨B, 0, none⟩ = some (.int .i64 (k : Int)) := cell_of_row _ _ 0 _ _ _ hc
      have c3 : w9.cell? ⟨B, 3, none⟩ = some (.slice (some ⟨sb, soff, none⟩) yn sc) := cell_of_row _ _ 3 _ _ _ hc
      have c4 : w9.cell? ⟨B, 4, none⟩ = some (.slice (some ⟨rb, roff, none⟩) yn rc) := cell_of_row _ _ 4 _ _ _ hc
      clear hc
      have hc := (HQ6.out.all (X3, ⟨k3, t3, l3, ⟨some ⟨xb, xoff, none⟩, yn, xc, xZ⟩, ⟨some ⟨yb, yoff, none⟩, yn, yc, yZ⟩, L5, L6, g3, i3, o3⟩) (by simp)).1
      have d3 : w9.cell? ⟨X3, 3, none⟩ = some (.slice (some ⟨xb, xoff, none⟩) yn xc) := cell_of_row _ _ 3 _ _ _ hc
      have d4 : w9.cell? ⟨X3, 4, none⟩ = some (.slice (some ⟨yb, yoff, none⟩) yn yc) := cell_of_row _ _ 4 _ _ _ hc
      clear hc
      obtain ⟨x0, hx0⟩ : ∃ x, xZ i = x := ⟨_, rfl⟩
      obtain ⟨y0, hy0⟩ : ∃ x, yZ i = x := ⟨_, rfl⟩
      obtain ⟨s0, hs0⟩ : ∃ x, sZ i = x := ⟨_, rfl⟩
      obtain ⟨r0, hr0⟩ : ∃ x, rZ i = x := ⟨_, rfl⟩
      obtain ⟨_, _, ee, _, j3⟩ := iat (HQ6.out.all (B, ⟨(k : Int), t, l, ⟨some ⟨sb, soff, none⟩, yn, sc, sZ⟩, ⟨some ⟨rb, roff, none⟩, yn, rc, rZ⟩, ⟨ma, mn, mc, mZ⟩, ⟨va, vn, vc, vZ⟩, g, d, o⟩) (by simp)).2.st (j := i) HLT.out
      cases ee
      dsimp only at j3
      rw [hs0] at j3
      obtain ⟨_, _, ee, _, j4⟩ := iat (HQ6.out.all (B, ⟨(k : Int), t, l, ⟨some ⟨sb, soff, none⟩, yn, sc, sZ⟩, ⟨some ⟨rb, roff, none⟩, yn, rc, rZ⟩, ⟨ma, mn, mc, mZ⟩, ⟨va, vn, vc, vZ⟩, g, d, o⟩) (by simp)).2.re (j := i) HLT.out
      cases ee
      dsimp only at j4
      rw [hr0] at j4
      obtain ⟨_, _, ee, _, k3'⟩ := iat (HQ6.out.all (X3, ⟨k3, t3, l3, ⟨some ⟨xb, xoff, none⟩, yn, xc, xZ⟩, ⟨some ⟨yb, yoff, none⟩, yn, yc, yZ⟩, L5, L6, g3, i3, o3⟩) (by simp)).2.st (j := i) HLT.out
      cases ee
      dsimp only at k3'
      rw [hx0] at k3'
      obtain ⟨_, _, ee, _, k4'⟩ := iat (HQ6.out.all (X3, ⟨k3, t3, l3, ⟨some ⟨xb, xoff, none⟩, yn, xc, xZ⟩, ⟨some ⟨yb, yoff, none⟩, yn, yc, yZ⟩, L5, L6, g3, i3, o3⟩) (by simp)).2.re (j := i) HLT.out
      cases ee
      dsimp only at k4'
      rw [hy0] at k4'
      rw [hx0] at q1 q5; rw [hy0] at q2 q5; rw [hs0] at q3 q5; rw [hr0] at q4 q5
      have e1 : w9.cell? ⟨Xm, 1, none⟩ = some (.int .i64 am) := cell_of_row _ Xm 1 _ _ _ HNM.out
      clear hx0 hy0 hs0 hr0 HNM
      by_cases hb : x0 < 1000000
      · have q5 := q5 hb
        obtain ⟨v, hv⟩ : ∃ x, u3 * am = x := ⟨_, rfl⟩
        rw [hv] at q5
        have hwa : IntKind.i64.wrap (x0 - s0) = x0 - s0 := by rw [IntKind.wrap_i64]; omega
        have hwb : IntKind.i64.wrap (8 * (x0 - s0)) = 8 * (x0 - s0) := by rw [IntKind.wrap_i64]; omega
        have hwc : IntKind.i64.wrap (8 * (x0 - s0) + y0) = 8 * (x0 - s0) + y0 := by rw [IntKind.wrap_i64]; omega
        have hwd : IntKind.i64.wrap (8 * (x0 - s0) + y0 - r0) = v := by rw [q5, IntKind.wrap_i64]; omega
        have hwe : IntKind.i64.wrap v = v := by rw [IntKind.wrap_i64]; omega
        have hvv : (v != v) = false := by simp
        clear q1 q2 q3 q4 q5
        go_quiet (fail)
        have HQ7 := hid (HQ6.out.stays (w' := World.drewN w9 nq) (Joins.below_draws _ _ _))
        go_wp2_with fail
        go_roundw
        case rel => exact ⟨i + 1, by have := HLT.out; omega, by go_num, HQ7⟩
        case measure => have := HLT.out; simp [intOf]; omega
      · clear q1 q2 q3 q4 q5
        go_quiet (fail)
        have HQ7 := hid (HQ6.out.stays (w' := World.drewN w9 nq) (Joins.below_draws _ _ _))
        go_wp2_with fail
        go_roundw
        case rel => exact ⟨i + 1, by have := HLT.out; omega, by go_num, HQ7⟩
        case measure => have := HLT.out; simp [intOf]; omega
    · obtain rfl : yn = i := by omega
      go_wp2_with fail
      refine (known_any _).mono ?_
      rintro e we ⟨rfl, hb⟩
      have HE := hid (HM.out.stays hb)
      clear hb
      go_wp2_with fail
      go_ret
      exact ⟨rfl, HE.out.below⟩
end Go.Proofs.Ytnhkblkijiipeaa
