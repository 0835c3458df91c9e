/-
  The walk of Haul.
-/
import Derived.Test.YtnhkblkijiipeaaFBrg
namespace Go.Proofs.Ytnhkblkijiipeaa
open Go.RowKit

/-- A list with one number changed. -/
abbrev setF (Z : Nat → Int) (j : Nat) (x : Int) : Nat → Int := fun q => if q = j then x else Z q
theorem setF_at (Z : Nat → Int) (j : Nat) (x : Int) : setF Z j x j = x := by simp [setF]
/-- A plant from whose make j n units, or what there is, were taken. -/
def hauledD (d : Da) (j : Nat) (n : Int) : Da := ⟨d.k, d.t, d.l, d.n, setF d.S j (d.S j - min n (d.S j)), d.R, d.M, setF d.V j (min (d.V j + min n (d.S j)) 1000000), d.g, d.i, d.o⟩
/-- What Haul hands back. -/
structure HaIs (m : Nat) (K : Nat → Kd) (p : Pl) (cargo n : Int) (D : Da) (u r : Int) : Prop where
  bad : UErr m K p cargo n ≠ 0 → D = zeroD ∧ u = 0 ∧ r = UErr m K p cargo n
  no : ∀ k : Nat, p.k = k → UErr m K p cargo n = 0 → (∀ j, j < (K k).mn → (K k).C j ≠ cargo) → D = dataOf p (K k).mn ∧ u = 0 ∧ r = 0
  yes : ∀ k : Nat, p.k = k → UErr m K p cargo n = 0 → ∀ j, j < (K k).mn → (K k).C j = cargo → D = hauledD (dataOf p (K k).mn) j n ∧ u = min n (p.st.Z j) ∧ r = 0
set_option maxRecDepth 100000 in
set_option maxHeartbeats 25600000 in
theorem haul_any (ko : Option Addr) (m kc : Nat) (K : Nat → Kd) (hm : m ≤ 1000) (hs : Small m K) (p : Pl) (hp : SmallP p) (cargo n : Int) (D : Da) (u r : Int) (hr : HaIs m K p cargo n D u r) (w : World) (hK : Kds w ko m K) (hP : PlAt w p) :
    Calls Try.prog 24 #[.slice ko m kc, pv p, .int .i64 cargo, .int .i64 n] w (UPost D u r w) := by
  have H0 := hid (PZ.start hP)
  have HKB : Hid (∀ W, Below w.heap.size w W → Kds W ko m K) := hid (fun W hb => hK.stays hb)
  obtain ⟨f, hf⟩ : ∃ f, UErr m K p cargo n = f := ⟨_, rfl⟩
  have HF := hid hf
  have HV := hid (fun W h h' => vunits_any ko m kc K hm hs p hp cargo n f hf W h h')
  have HCP := hid (fun W h => copied_any p hp W h)
  have HR := hid hr
  clear hP hK hr hf
  unfold UPost
  obtain ⟨pk, t, l, ⟨sa, sn, sc, sZ⟩, ⟨ra, rn, rc, rZ⟩, ⟨ma, mn, mc, mZ⟩, ⟨va, vn, vc, vZ⟩, g, d, o⟩ := p
  show Calls _ _ #[.slice ko m kc, .agg #[.int .i64 pk, .int .i64 t, .int .i64 l, .slice sa sn sc, .slice ra rn rc, .slice ma mn mc, .slice va vn vc, .int .i64 g, .int .i64 d, .bool o], .int .i64 cargo, .int .i64 n] w _
  obtain ⟨B, hB⟩ : ∃ B, w.heap.size = B := ⟨_, rfl⟩
  rw [hB] at H0 HKB ⊢
  by_cases h0 : f = 0
  · subst h0
    obtain ⟨hpe, hn, hc⟩ := uerr_ok HF.out
    obtain ⟨k, hR⟩ := PErr_right hpe
    obtain rfl : pk = (k : Int) := hR.kp
    have hkm := hR.lt
    have hkm' : (k : Int) < (m : Int) := by omega
    obtain ⟨N, hN⟩ : ∃ N, (K k).mn = N := ⟨_, rfl⟩
    have l1 : sn = N := by rw [← hN]; exact hR.pl.st.len
    have l2 : rn = N := by rw [← hN]; exact hR.pl.re.len
    have l3 : mn = N := by rw [← hN]; exact hR.pl.ma.len
    have l4 : vn = N := by rw [← hN]; exact hR.pl.mo.len
    subst l1; subst l2; subst l3; subst l4
    have HRT := hid hR
    have HNN := hid hN
    have HKM := hid hkm
    have hvn : vn ≤ 1000 := by have := hR.ks.mn k hkm; omega
    have HVN := hid hvn
    have HHN := hid hn
    obtain ⟨⟨kb, koff, ke, _⟩, _⟩ := (HKB.out w (by rw [← hB]; exact Below.refl _ _)) k hkm
    subst ke
    clear hpe hR hN hkm hvn hn hc
    go_enter Try.func24, Try.ntmps24
    go_upto_region 1 with fail
    generalize World.alloc (World.alloc w _) _ = w1 at H0 ⊢
    have c0 := H0.out.c0; have c1 := H0.out.c1; have c2 := H0.out.c2; have c3 := H0.out.c3; have c4 := H0.out.c4; have c5 := H0.out.c5; have c6 := H0.out.c6; have c7 := H0.out.c7; have c8 := H0.out.c8; have c9 := H0.out.c9; have fb := H0.out.fb
    go_upto_region 2 with (go_at_call 43; refine (HV.out _ (HKB.out _ H0.out.below) H0.out.lists).mono ?_; rintro e w2 ⟨rfl, hb⟩; have H1 := hid (H0.out.stays hb); clear c0 c1 c2 c3 c4 c5 c6 c7 c8 c9 fb; clear hb)
    clear H0
    have c0 := H1.out.c0; have c1 := H1.out.c1; have c2 := H1.out.c2; have c3 := H1.out.c3; have c4 := H1.out.c4; have c5 := H1.out.c5; have c6 := H1.out.c6; have c7 := H1.out.c7; have c8 := H1.out.c8; have c9 := H1.out.c9; have fb := H1.out.fb
    go_upto_region 5 with (go_at_call 39; refine (HCP.out _ H1.out.lists).mono ?_; rintro e w3 ⟨b1, b2, b3, b4, e1, e2, e3, e4, he, hr4, hb⟩; have he : e = .returned (.agg #[.int .i64 (k : Int), .int .i64 t, .int .i64 l, .slice b1 vn e1, .slice b2 vn e2, .slice b3 vn e3, .slice b4 vn e4, .int .i64 g, .int .i64 d, .bool o]) := he; subst he; have H2 := hid (H1.out.stays hb); have hle := H1.out.le; have H1 := H2; clear c0 c1 c2 c3 c4 c5 c6 c7 c8 c9 fb; clear hb; have c0 := H1.out.c0; have c1 := H1.out.c1; have c2 := H1.out.c2; have c3 := H1.out.c3; have c4 := H1.out.c4; have c5 := H1.out.c5; have c6 := H1.out.c6; have c7 := H1.out.c7; have c8 := H1.out.c8; have c9 := H1.out.c9; have fb := H1.out.fb)
    have hr4 : R4 w3 w2.heap.size ⟨(k : Int), t, l, ⟨b1, vn, e1, sZ⟩, ⟨b2, vn, e2, rZ⟩, ⟨b3, vn, e3, mZ⟩, ⟨b4, vn, e4, vZ⟩, g, d, o⟩ := hr4
    have HM := hid (H1.out.own hr4 hle)
    clear c0 c1 c2 c3 c4 c5 c6 c7 c8 c9 fb hr4 H1 H2 hle
    generalize World.setCell (World.setCell _ _ _) _ _ = w4 at HM ⊢
    have m0 := HM.out.c0
    obtain ⟨kb', koff', e', _, z0, z1, z2⟩ := kat (HKB.out _ HM.out.below) HKM.out
    cases e'
    have HMD : Hid (∀ W, Kds W (some ⟨kb, koff, none⟩) m K → Calls Try.prog 48 #[.agg #[.string (K k).nm, .slice (K k).ta (K k).tn (K k).tc, .slice (K k).ma (K k).mn (K k).mc]] W (RowPost (K k).mn (K k).C W)) := hid (fun W h => made_any (K k).nm (.slice (K k).ta (K k).tn (K k).tc) ⟨_, _, _, rfl⟩ (K k).ma (K k).mn (K k).mc (K k).C (K k).A (by rw [HNN.out]; exact HVN.out) W (h k HKM.out).2.m)
    go_upto_region 6 with (first
      | (go_at_call 48; refine (HMD.out _ (HKB.out _ HM.out.below)).mono ?_; rintro e w5 ⟨v, rfl, hrow, hb⟩; obtain ⟨ao, c, rfl⟩ := row_slice hrow; have hint := RowI.ints hrow; have HN := hid (HM.out.stays hb); have HI := hid hint; clear m0 z0 z1 z2 hb hrow hint)
      | (go_at_call 47; refine (index_any ao (K k).mn c (K k).C cargo (by rw [HNN.out]; have := HVN.out; omega) _ HI.out).mono ?_; rintro e w6 ⟨x, hx, rfl, rfl⟩; have HX := hid hx; clear hx))
    clear HM HMD HI HCP HV
    rcases HX.out with ⟨i, hi, hci, rfl⟩ | ⟨hno, rfl⟩
    rotate_left
    · obtain ⟨rfl, rfl, rfl⟩ : D = _ ∧ u = 0 ∧ r = 0 := HR.out.no k rfl HF.out (fun j hj e => by have h := of_decide_eq_false (hno j hj); exact h e.symm)
      clear hno HX
      have m0 := HN.out.c0
      have m1 := HN.out.c1
      have m2 := HN.out.c2
      have m3 := HN.out.c3
      have m4 := HN.out.c4
      have m5 := HN.out.c5
      have m6 := HN.out.c6
      have m7 := HN.out.c7
      have m8 := HN.out.c8
      have m9 := HN.out.c9
      have HY := HN.out.ex (B + 1, zeroBox) (by simp)
      have r0 : w5.cell? ⟨B + 1, 0, none⟩ = some (.int .i64 0) := cell_of_row _ (B + 1) 0 _ _ _ HY.1
      have r1 : w5.cell? ⟨B + 1, 1, none⟩ = some (.int .i64 0) := cell_of_row _ (B + 1) 1 _ _ _ HY.1
      have r2 : w5.cell? ⟨B + 1, 2, none⟩ = some (.int .i64 0) := cell_of_row _ (B + 1) 2 _ _ _ HY.1
      have r3 : w5.cell? ⟨B + 1, 3, none⟩ = some (.slice none 0 0) := cell_of_row _ (B + 1) 3 _ _ _ HY.1
      have r4 : w5.cell? ⟨B + 1, 4, none⟩ = some (.slice none 0 0) := cell_of_row _ (B + 1) 4 _ _ _ HY.1
      have r5 : w5.cell? ⟨B + 1, 5, none⟩ = some (.slice none 0 0) := cell_of_row _ (B + 1) 5 _ _ _ HY.1
      have r6 : w5.cell? ⟨B + 1, 6, none⟩ = some (.slice none 0 0) := cell_of_row _ (B + 1) 6 _ _ _ HY.1
      have r7 : w5.cell? ⟨B + 1, 7, none⟩ = some (.int .i64 0) := cell_of_row _ (B + 1) 7 _ _ _ HY.1
      have r8 : w5.cell? ⟨B + 1, 8, none⟩ = some (.int .i64 0) := cell_of_row _ (B + 1) 8 _ _ _ HY.1
      have r9 : w5.cell? ⟨B + 1, 9, none⟩ = some (.bool false) := cell_of_row _ (B + 1) 9 _ _ _ HY.1
      have fr : ∀ j, w5.frozen? ⟨B + 1, j, none⟩ = false := fun j => frozen_of_row _ (B + 1) j _ _ HY.1
      clear HY
      go_wp2_with fail
      obtain ⟨k1, k2, k3⟩ := HN.out.out (Y := B + 1) (by simp) (by omega)
      clear r0 r1 r2 r3 r4 r5 r6 r7 r8 r9 fr m0 m1 m2 m3 m4 m5 m6 m7 m8 m9
      generalize World.setCell (World.setCell _ _ _) _ _ = w9 at k1 k2 k3 ⊢
      have q0 : w9.cell? ⟨B + 1, 0, none⟩ = some (.int .i64 (k : Int)) := cell_of_row _ (B + 1) 0 _ _ _ k2
      have q1 : w9.cell? ⟨B + 1, 1, none⟩ = some (.int .i64 t) := cell_of_row _ (B + 1) 1 _ _ _ k2
      have q2 : w9.cell? ⟨B + 1, 2, none⟩ = some (.int .i64 l) := cell_of_row _ (B + 1) 2 _ _ _ k2
      have q3 : w9.cell? ⟨B + 1, 3, none⟩ = some (.slice b1 vn e1) := cell_of_row _ (B + 1) 3 _ _ _ k2
      have q4 : w9.cell? ⟨B + 1, 4, none⟩ = some (.slice b2 vn e2) := cell_of_row _ (B + 1) 4 _ _ _ k2
      have q5 : w9.cell? ⟨B + 1, 5, none⟩ = some (.slice b3 vn e3) := cell_of_row _ (B + 1) 5 _ _ _ k2
      have q6 : w9.cell? ⟨B + 1, 6, none⟩ = some (.slice b4 vn e4) := cell_of_row _ (B + 1) 6 _ _ _ k2
      have q7 : w9.cell? ⟨B + 1, 7, none⟩ = some (.int .i64 g) := cell_of_row _ (B + 1) 7 _ _ _ k2
      have q8 : w9.cell? ⟨B + 1, 8, none⟩ = some (.int .i64 d) := cell_of_row _ (B + 1) 8 _ _ _ k2
      have q9 : w9.cell? ⟨B + 1, 9, none⟩ = some (.bool o) := cell_of_row _ (B + 1) 9 _ _ _ k2
      refine bodyPost_ret (v := .tuple #[.agg #[.int .i64 (k : Int), .int .i64 t, .int .i64 l, .slice b1 vn e1, .slice b2 vn e2, .slice b3 vn e3, .slice b4 vn e4, .int .i64 g, .int .i64 d, .bool o], .int .i64 0, .int .i64 0]) (by simp [results, Try.results24, go_sem, q0, q1, q2, q3, q4, q5, q6, q7, q8, q9]) rfl ?_
      exact ⟨⟨(k : Int), t, l, ⟨b1, vn, e1, sZ⟩, ⟨b2, vn, e2, rZ⟩, ⟨b3, vn, e3, mZ⟩, ⟨b4, vn, e4, vZ⟩, g, d, o⟩, rfl, own4_is (p := ⟨(k : Int), t, l, ⟨sa, vn, sc, sZ⟩, ⟨ra, vn, rc, rZ⟩, ⟨ma, vn, mc, mZ⟩, ⟨va, vn, vc, vZ⟩, g, d, o⟩) (HRT.out.pl.is) b1 b2 b3 b4 e1 e2 e3 e4, k3, k1⟩
    replace hci : (K k).C i = cargo := by have := of_decide_eq_true hci; exact this.symm
    obtain ⟨hD, hu, rfl⟩ := HR.out.yes k rfl HF.out i hi hci
    subst hD
    replace hu : u = min n (sZ i) := hu
    replace hi : i < vn := by rw [← HNN.out]; exact hi
    have HU := hid hu; have HLI := hid hi
    have hSb := HRT.out.pl.st.z i (by rw [HNN.out]; exact hi)
    have hVb := HRT.out.pl.mo.z i (by rw [HNN.out]; exact hi)
    have hnb := HHN.out
    dsimp only at hSb hVb
    obtain ⟨s0, hs0⟩ : ∃ x, sZ i = x := ⟨_, rfl⟩
    obtain ⟨v0, hv0⟩ : ∃ x, vZ i = x := ⟨_, rfl⟩
    obtain ⟨v9, hv9⟩ : ∃ x, min (v0 + u) 1000000 = x := ⟨_, rfl⟩
    obtain ⟨s9, hs9⟩ : ∃ x, s0 - u = x := ⟨_, rfl⟩
    rw [hs0] at hSb hu; rw [hv0] at hVb
    have hmi : ∀ (w : World) (ts : Array TypeId) (t : TypeId), (Builtin.min_ ts t #[.int .i64 n, .int .i64 s0]).run Try.prog w = .ok (.int .i64 u) w := min_is hu.symm
    have hw9 : IntKind.i64.wrap (s0 - u) = s9 := by rw [IntKind.wrap_i64]; omega
    have HG2 := hid (fun W => grown_any v0 u v9 (by omega) (by omega) hv9 W)
    have HS0 := hid hs0; have HV0 := hid hv0; have HS9 := hid hs9; have HV9 := hid hv9
    have hiv : (i : Int) < (vn : Int) := by omega
    have hineg : ¬ ((i : Int) < 0) := by omega
    obtain ⟨g1, y1, f1, _, _⟩ := HN.out.r4.st.form (show 0 < vn by omega)
    obtain ⟨g4, y4, f4, _, _⟩ := HN.out.r4.mo.form (show 0 < vn by omega)
    obtain ⟨rfl, rfl⟩ : b1 = some ⟨g1, 0, none⟩ ∧ e1 = y1 := by simpa using f1
    obtain ⟨rfl, rfl⟩ : b4 = some ⟨g4, 0, none⟩ ∧ e4 = y4 := by simpa using f4
    clear hSb hVb hnb hs0 hv0 hv9 hs9 hu f1 f4 hci hi HX
    have p3 := HN.out.c3; have p6 := HN.out.c6
    have q3 : w5.cell? ⟨g1, i, none⟩ = some (.int .i64 s0) := by have h := RowI.at HN.out.r4.st HLI.out; dsimp only at h; rw [HS0.out] at h; exact h
    have f3 : w5.frozen? ⟨g1, i, none⟩ = false := World.ownsRow.frozenAt HN.out.r4.st i
    go_upto_region 10 with fail
    have HM3 : Hid (MP ⟨(k : Int), t, l, ⟨some ⟨g1, 0, none⟩, vn, e1, setF sZ i s9⟩, ⟨b2, vn, e2, rZ⟩, ⟨b3, vn, e3, mZ⟩, ⟨some ⟨g4, 0, none⟩, vn, e4, vZ⟩, g, d, o⟩ B (B + 2) B [(B + 1, zeroBox)] w _) := hid (HN.out.put_st rfl i s9)
    clear p3 p6 q3 f3 HN hmi hw9
    generalize World.setCell w5 _ _ = w7 at HM3 ⊢
    have p6 := HM3.out.c6
    have q6 : w7.cell? ⟨g4, i, none⟩ = some (.int .i64 v0) := by have h := RowI.at HM3.out.r4.mo HLI.out; dsimp only at h; rw [HV0.out] at h; exact h
    have f6 : w7.frozen? ⟨g4, i, none⟩ = false := World.ownsRow.frozenAt HM3.out.r4.mo i
    have HM4 := hid ((HM3.out.put_mo rfl i v9).stays ((Below.refl _ _).drew))
    go_cut [] (fun wx => Hid (MP ⟨(k : Int), t, l, ⟨some ⟨g1, 0, none⟩, vn, e1, setF sZ i s9⟩, ⟨b2, vn, e2, rZ⟩, ⟨b3, vn, e3, mZ⟩, ⟨some ⟨g4, 0, none⟩, vn, e4, setF vZ i v9⟩, g, d, o⟩ B (B + 2) B [(B + 1, zeroBox)] w wx))
    case first =>
      go_region_with (go_at_call 41; refine (HG2.out _).mono ?_; rintro e wx ⟨rfl, rfl⟩)
      all_goals go_wp2_with fail
      all_goals go_meet
      all_goals exact HM4
    case rest =>
      clear p6 q6 f6 HM3 HM4
      have HM4 := hcut
      clear hcut
      obtain ⟨w8, hwc⟩ : ∃ x, x = wc := ⟨_, rfl⟩
      rw [← hwc] at HM4 ⊢
      clear hwc
      have m0 := HM4.out.c0
      have m1 := HM4.out.c1
      have m2 := HM4.out.c2
      have m3 := HM4.out.c3
      have m4 := HM4.out.c4
      have m5 := HM4.out.c5
      have m6 := HM4.out.c6
      have m7 := HM4.out.c7
      have m8 := HM4.out.c8
      have m9 := HM4.out.c9
      have HY := HM4.out.ex (B + 1, zeroBox) (by simp)
      have r0 : w8.cell? ⟨B + 1, 0, none⟩ = some (.int .i64 0) := cell_of_row _ (B + 1) 0 _ _ _ HY.1
      have r1 : w8.cell? ⟨B + 1, 1, none⟩ = some (.int .i64 0) := cell_of_row _ (B + 1) 1 _ _ _ HY.1
      have r2 : w8.cell? ⟨B + 1, 2, none⟩ = some (.int .i64 0) := cell_of_row _ (B + 1) 2 _ _ _ HY.1
      have r3 : w8.cell? ⟨B + 1, 3, none⟩ = some (.slice none 0 0) := cell_of_row _ (B + 1) 3 _ _ _ HY.1
      have r4 : w8.cell? ⟨B + 1, 4, none⟩ = some (.slice none 0 0) := cell_of_row _ (B + 1) 4 _ _ _ HY.1
      have r5 : w8.cell? ⟨B + 1, 5, none⟩ = some (.slice none 0 0) := cell_of_row _ (B + 1) 5 _ _ _ HY.1
      have r6 : w8.cell? ⟨B + 1, 6, none⟩ = some (.slice none 0 0) := cell_of_row _ (B + 1) 6 _ _ _ HY.1
      have r7 : w8.cell? ⟨B + 1, 7, none⟩ = some (.int .i64 0) := cell_of_row _ (B + 1) 7 _ _ _ HY.1
      have r8 : w8.cell? ⟨B + 1, 8, none⟩ = some (.int .i64 0) := cell_of_row _ (B + 1) 8 _ _ _ HY.1
      have r9 : w8.cell? ⟨B + 1, 9, none⟩ = some (.bool false) := cell_of_row _ (B + 1) 9 _ _ _ HY.1
      have fr : ∀ j, w8.frozen? ⟨B + 1, j, none⟩ = false := fun j => frozen_of_row _ (B + 1) j _ _ HY.1
      clear HY
      go_wp2_with fail
      obtain ⟨k1, k2, k3⟩ := HM4.out.out (Y := B + 1) (by simp) (by omega)
      clear r0 r1 r2 r3 r4 r5 r6 r7 r8 r9 fr m0 m1 m2 m3 m4 m5 m6 m7 m8 m9
      generalize World.setCell (World.setCell _ _ _) _ _ = w9 at k1 k2 k3 ⊢
      have q0 : w9.cell? ⟨B + 1, 0, none⟩ = some (.int .i64 (k : Int)) := cell_of_row _ (B + 1) 0 _ _ _ k2
      have q1 : w9.cell? ⟨B + 1, 1, none⟩ = some (.int .i64 t) := cell_of_row _ (B + 1) 1 _ _ _ k2
      have q2 : w9.cell? ⟨B + 1, 2, none⟩ = some (.int .i64 l) := cell_of_row _ (B + 1) 2 _ _ _ k2
      have q3 : w9.cell? ⟨B + 1, 3, none⟩ = some (.slice (some ⟨g1, 0, none⟩) vn e1) := cell_of_row _ (B + 1) 3 _ _ _ k2
      have q4 : w9.cell? ⟨B + 1, 4, none⟩ = some (.slice b2 vn e2) := cell_of_row _ (B + 1) 4 _ _ _ k2
      have q5 : w9.cell? ⟨B + 1, 5, none⟩ = some (.slice b3 vn e3) := cell_of_row _ (B + 1) 5 _ _ _ k2
      have q6 : w9.cell? ⟨B + 1, 6, none⟩ = some (.slice (some ⟨g4, 0, none⟩) vn e4) := cell_of_row _ (B + 1) 6 _ _ _ k2
      have q7 : w9.cell? ⟨B + 1, 7, none⟩ = some (.int .i64 g) := cell_of_row _ (B + 1) 7 _ _ _ k2
      have q8 : w9.cell? ⟨B + 1, 8, none⟩ = some (.int .i64 d) := cell_of_row _ (B + 1) 8 _ _ _ k2
      have q9 : w9.cell? ⟨B + 1, 9, none⟩ = some (.bool o) := cell_of_row _ (B + 1) 9 _ _ _ k2
      refine bodyPost_ret (v := .tuple #[.agg #[.int .i64 (k : Int), .int .i64 t, .int .i64 l, .slice (some ⟨g1, 0, none⟩) vn e1, .slice b2 vn e2, .slice b3 vn e3, .slice (some ⟨g4, 0, none⟩) vn e4, .int .i64 g, .int .i64 d, .bool o], .int .i64 u, .int .i64 0]) (by simp [results, Try.results24, go_sem, q0, q1, q2, q3, q4, q5, q6, q7, q8, q9]) rfl ?_
      refine ⟨⟨(k : Int), t, l, ⟨some ⟨g1, 0, none⟩, vn, e1, setF sZ i s9⟩, ⟨b2, vn, e2, rZ⟩, ⟨b3, vn, e3, mZ⟩, ⟨some ⟨g4, 0, none⟩, vn, e4, setF vZ i v9⟩, g, d, o⟩, rfl, ?_, k3, k1⟩
      have e1 : setF sZ i s9 = setF sZ i (sZ i - min n (sZ i)) := by rw [← HU.out, HS0.out, HS9.out]
      have e2 : setF vZ i v9 = setF vZ i (min (vZ i + min n (sZ i)) 1000000) := by rw [← HU.out, HV0.out, HV9.out]
      rw [e1, e2]
      exact ⟨rfl, rfl, rfl, ⟨HNN.out.symm, fun j hj => rfl⟩, ⟨HNN.out.symm, fun j hj => rfl⟩, ⟨HNN.out.symm, fun j hj => rfl⟩, ⟨HNN.out.symm, fun j hj => rfl⟩, rfl, rfl, rfl⟩
  · skip
    have hf0 : (f != 0) = true := by simpa using h0
    obtain ⟨rfl, rfl, rfl⟩ : D = zeroD ∧ u = 0 ∧ r = f := by have h := HR.out.bad (by rw [HF.out]; exact h0); rw [HF.out] at h; exact h
    go_enter Try.func24, Try.ntmps24
    go_upto_region 1 with fail
    generalize World.alloc (World.alloc w _) _ = w1 at H0 ⊢
    have c0 := H0.out.c0; have c1 := H0.out.c1; have c2 := H0.out.c2; have c3 := H0.out.c3; have c4 := H0.out.c4; have c5 := H0.out.c5; have c6 := H0.out.c6; have c7 := H0.out.c7; have c8 := H0.out.c8; have c9 := H0.out.c9; have fb := H0.out.fb
    go_upto_region 2 with (go_at_call 43; refine (HV.out _ (HKB.out _ H0.out.below) H0.out.lists).mono ?_; rintro e w2 ⟨rfl, hb⟩; have H1 := hid (H0.out.stays hb); clear c0 c1 c2 c3 c4 c5 c6 c7 c8 c9 fb; clear hb)
    clear H0
    have r0 := H1.out.r0; have r1 := H1.out.r1; have r2 := H1.out.r2; have r3 := H1.out.r3; have r4 := H1.out.r4; have r5 := H1.out.r5; have r6 := H1.out.r6; have r7 := H1.out.r7; have r8 := H1.out.r8; have r9 := H1.out.r9; have fr := H1.out.fr
    go_wp2_with fail
    have k1 := set10_below (g := B + 1) H1.out.below (Nat.le_succ _) (.int .i64 0) (.int .i64 0) (.int .i64 0) (.slice none 0 0) (.slice none 0 0) (.slice none 0 0) (.slice none 0 0) (.int .i64 0) (.int .i64 0) (.bool false)
    have k2 := set10 H1.out.br (.int .i64 0) (.int .i64 0) (.int .i64 0) (.slice none 0 0) (.slice none 0 0) (.slice none 0 0) (.slice none 0 0) (.int .i64 0) (.int .i64 0) (.bool false)
    have k3 : True := trivial
    clear r0 r1 r2 r3 r4 r5 r6 r7 r8 r9 fr
    generalize World.setCell (World.setCell _ _ _) _ _ = w9 at k1 k2 k3 ⊢
    have q0 : w9.cell? ⟨B + 1, 0, none⟩ = some (.int .i64 0) := cell_of_row _ (B + 1) 0 _ _ _ k2
    have q1 : w9.cell? ⟨B + 1, 1, none⟩ = some (.int .i64 0) := cell_of_row _ (B + 1) 1 _ _ _ k2
    have q2 : w9.cell? ⟨B + 1, 2, none⟩ = some (.int .i64 0) := cell_of_row _ (B + 1) 2 _ _ _ k2
    have q3 : w9.cell? ⟨B + 1, 3, none⟩ = some (.slice none 0 0) := cell_of_row _ (B + 1) 3 _ _ _ k2
    have q4 : w9.cell? ⟨B + 1, 4, none⟩ = some (.slice none 0 0) := cell_of_row _ (B + 1) 4 _ _ _ k2
    have q5 : w9.cell? ⟨B + 1, 5, none⟩ = some (.slice none 0 0) := cell_of_row _ (B + 1) 5 _ _ _ k2
    have q6 : w9.cell? ⟨B + 1, 6, none⟩ = some (.slice none 0 0) := cell_of_row _ (B + 1) 6 _ _ _ k2
    have q7 : w9.cell? ⟨B + 1, 7, none⟩ = some (.int .i64 0) := cell_of_row _ (B + 1) 7 _ _ _ k2
    have q8 : w9.cell? ⟨B + 1, 8, none⟩ = some (.int .i64 0) := cell_of_row _ (B + 1) 8 _ _ _ k2
    have q9 : w9.cell? ⟨B + 1, 9, none⟩ = some (.bool false) := cell_of_row _ (B + 1) 9 _ _ _ k2
    refine bodyPost_ret (v := .tuple #[.agg #[.int .i64 0, .int .i64 0, .int .i64 0, .slice none 0 0, .slice none 0 0, .slice none 0 0, .slice none 0 0, .int .i64 0, .int .i64 0, .bool false], .int .i64 0, .int .i64 r]) (by simp [results, Try.results24, go_sem, q0, q1, q2, q3, q4, q5, q6, q7, q8, q9]) rfl ?_
    exact ⟨zeroP, rfl, zero_is, zero_r4 _ _, k1⟩
end Go.Proofs.Ytnhkblkijiipeaa
