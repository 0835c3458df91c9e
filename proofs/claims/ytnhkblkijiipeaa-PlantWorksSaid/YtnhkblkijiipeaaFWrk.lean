/-
  The walk of Work.
-/
import Derived.Test.YtnhkblkijiipeaaFHau
namespace Go.Proofs.Ytnhkblkijiipeaa
open Go.RowKit

/-- What a day makes of a make; the stock and what was made behind it. -/
def wkN (A S : Nat → Int) (l : Int) (j : Nat) : Int := min (A j * l / 16) (1000000 - S j)
def wkS (A S : Nat → Int) (l : Int) (j : Nat) : Int := S j + wkN A S l j
def wkM (A S M : Nat → Int) (l : Int) (j : Nat) : Int := min (M j + wkN A S l j) 1000000
def workedD (d : Da) (A : Nat → Int) : Da := ⟨d.k, d.t, d.l, d.n, wkS A d.S d.l, d.R, wkM A d.S d.M d.l, d.V, d.g, d.i, d.o⟩
/-- What Work hands back. -/
def WoR (m : Nat) (K : Nat → Kd) (p : Pl) : Da × Int :=
  if PErr m K p ≠ 0 then (zeroD, PErr m K p) else
  if p.o = true ∧ (K p.k.toNat).tn = 0 then (workedD (dataOf p (K p.k.toNat).mn) (K p.k.toNat).A, 0) else (dataOf p (K p.k.toNat).mn, 0)
/-- A plant and an error. -/
def WPost (d : Da) (r : Int) (w : World) (e : Ending) (w' : World) : Prop := ∃ p, e = .returned (.tuple #[pv p, .int .i64 r]) ∧ Is p d ∧ R4 w' w.heap.size p ∧ Below w.heap.size w w'
theorem wo_f {m : Nat} {K : Nat → Kd} {p : Pl} {f : Int} (h : PErr m K p = f) (h0 : ¬ f = 0) : WoR m K p = (zeroD, f) := by unfold WoR; rw [h, if_pos h0]
theorem wo_no {m k : Nat} {K : Nat → Kd} {p : Pl} (h : PErr m K p = 0) (hk : p.k = k) (h1 : ¬ (p.o = true ∧ (K k).tn = 0)) : WoR m K p = (dataOf p (K k).mn, 0) := by
  unfold WoR; rw [if_neg (by simpa using h), hk, Int.toNat_natCast, if_neg h1]
theorem wo_yes {m k : Nat} {K : Nat → Kd} {p : Pl} (h : PErr m K p = 0) (hk : p.k = k) (h1 : p.o = true) (h2 : (K k).tn = 0) : WoR m K p = (workedD (dataOf p (K k).mn) (K k).A, 0) := by
  unfold WoR; rw [if_neg (by simpa using h), hk, Int.toNat_natCast, if_pos ⟨h1, h2⟩]
theorem source_any (s : ByteArray) (ta : Option Addr) (tn tc : Nat) (ma : Option Addr) (mn mc : Nat) (q : Bool) (hq : (((tn : Int)) == 0) = q) (w : World) :
    Calls Try.prog 40 #[.agg #[.string s, .slice ta tn tc, .slice ma mn mc]] w fun e w' => e = .returned (.bool q) ∧ Below w.heap.size w w' := by
  have hb : Below w.heap.size w (w.alloc (.cells #[.string s, .slice ta tn tc, .slice ma mn mc] 40)) := (Below.refl _ _).alloc (Nat.le_refl _) _
  have HB := hid hb
  have hnk := heap_new w (.cells #[.string s, .slice ta tn tc, .slice ma mn mc] 40 (0, 0))
  have HNK := hid hnk
  clear hb hnk
  obtain ⟨X, hX⟩ : ∃ X, w.heap.size = X := ⟨_, rfl⟩
  rw [hX] at HB HNK ⊢
  go_enter Try.func40, Try.ntmps40
  go_upto_region 1 with fail
  clear hX
  generalize World.alloc w _ = w1 at HB HNK ⊢
  have s1 : w1.cell? ⟨X, 1, none⟩ = some (.slice ta tn tc) := cell_of_row _ X 1 _ _ _ HNK.out
  go_wp2_with fail
  go_ret
  exact ⟨rfl, HB.out⟩
set_option maxRecDepth 100000 in
set_option maxHeartbeats 25600000 in
theorem work_any (ko : Option Addr) (m kc : Nat) (K : Nat → Kd) (hm : m ≤ 1000) (hs : Small m K) (p : Pl) (hp : SmallP p) (D : Da) (r : Int) (hr : WoR m K p = (D, r)) (w : World) (hK : Kds w ko m K) (hP : PlAt w p) :
    Calls Try.prog 20 #[.slice ko m kc, pv p] w (WPost D r w) := by
  have H0 := hid (PZ.start hP)
  have HKB : Hid (∀ W, Below w.heap.size w W → Kds W ko m K) := hid (fun W hb => hK.stays hb)
  obtain ⟨f, hf⟩ : ∃ f, PErr m K p = f := ⟨_, rfl⟩
  have HF := hid hf
  have HV := hid (fun W h h' => validate_any ko m kc K hm hs p hp f hf W h h')
  have HCP := hid (fun W h => copied_any p hp W h)
  have HR := hid hr
  have HPB : Hid (∀ W, Below w.heap.size w W → PlAt W p) := hid (fun W hb => hP.stays hb)
  clear hP hK hr hf
  unfold WPost
  obtain ⟨pk, t, l, ⟨sa, sn, sc, sZ⟩, ⟨ra, rn, rc, rZ⟩, ⟨ma, mn, mc, mZ⟩, ⟨va, vn, vc, vZ⟩, g, d, o⟩ := p
  show Calls _ _ #[.slice ko m kc, .agg #[.int .i64 pk, .int .i64 t, .int .i64 l, .slice sa sn sc, .slice ra rn rc, .slice ma mn mc, .slice va vn vc, .int .i64 g, .int .i64 d, .bool o]] w _
  obtain ⟨B, hB⟩ : ∃ B, w.heap.size = B := ⟨_, rfl⟩
  rw [hB] at H0 HKB HPB ⊢
  by_cases h0 : f = 0
  · subst h0
    obtain ⟨k, hR⟩ := PErr_right HF.out
    obtain rfl : pk = (k : Int) := hR.kp
    have hkm := hR.lt
    have hkm' : (k : Int) < (m : Int) := by omega
    obtain ⟨N, hN⟩ : ∃ N, (K k).mn = N := ⟨_, rfl⟩
    have l1 : sn = N := by rw [← hN]; exact hR.pl.st.len
    have l2 : rn = N := by rw [← hN]; exact hR.pl.re.len
    have l3 : mn = N := by rw [← hN]; exact hR.pl.ma.len
    have l4 : vn = N := by rw [← hN]; exact hR.pl.mo.len
    subst l1; subst l2; subst l3; subst l4
    have HRT := hid hR
    have HNN := hid hN
    have HKM := hid hkm
    have hvn : vn ≤ 1000 := by have := hR.ks.mn k hkm; omega
    have HVN := hid hvn
    have htn : (K k).tn ≤ 4 := hR.ks.tn k hkm
    obtain ⟨tn, htq⟩ : ∃ x, (K k).tn = x := ⟨_, rfl⟩
    have HTN := hid htq
    have HTL : Hid (tn ≤ 4) := hid (by rw [← htq]; exact htn)
    obtain ⟨⟨kb, koff, ke, _⟩, _⟩ := (HKB.out w (by rw [← hB]; exact Below.refl _ _)) k hkm
    subst ke
    clear hR hN hkm hvn htn htq
    cases o
    · have hD := wo_no (k := k) HF.out rfl (by simp)
      rw [HR.out] at hD
      obtain ⟨rfl, rfl⟩ : D = _ ∧ r = 0 := by simpa using hD
      go_enter Try.func20, Try.ntmps20
      go_upto_region 1 with fail
      generalize World.alloc (World.alloc w _) _ = w1 at H0 ⊢
      have c0 := H0.out.c0; have c1 := H0.out.c1; have c2 := H0.out.c2; have c3 := H0.out.c3; have c4 := H0.out.c4; have c5 := H0.out.c5; have c6 := H0.out.c6; have c7 := H0.out.c7; have c8 := H0.out.c8; have c9 := H0.out.c9; have fb := H0.out.fb
      go_upto_region 2 with (go_at_call 15; refine (HV.out _ (HKB.out _ H0.out.below) H0.out.lists).mono ?_; rintro e w2 ⟨rfl, hb⟩; have H1 := hid (H0.out.stays hb); clear c0 c1 c2 c3 c4 c5 c6 c7 c8 c9 fb; clear hb)
      clear H0
      have c0 := H1.out.c0; have c1 := H1.out.c1; have c2 := H1.out.c2; have c3 := H1.out.c3; have c4 := H1.out.c4; have c5 := H1.out.c5; have c6 := H1.out.c6; have c7 := H1.out.c7; have c8 := H1.out.c8; have c9 := H1.out.c9; have fb := H1.out.fb
      go_upto_region 5 with (go_at_call 39; refine (HCP.out _ H1.out.lists).mono ?_; rintro e w3 ⟨b1, b2, b3, b4, e1, e2, e3, e4, he, hr4, hb⟩; have he : e = .returned (.agg #[.int .i64 (k : Int), .int .i64 t, .int .i64 l, .slice b1 vn e1, .slice b2 vn e2, .slice b3 vn e3, .slice b4 vn e4, .int .i64 g, .int .i64 d, .bool false]) := he; subst he; have H2 := hid (H1.out.stays hb); have hle := H1.out.le; have H1 := H2; clear c0 c1 c2 c3 c4 c5 c6 c7 c8 c9 fb; clear hb; have c0 := H1.out.c0; have c1 := H1.out.c1; have c2 := H1.out.c2; have c3 := H1.out.c3; have c4 := H1.out.c4; have c5 := H1.out.c5; have c6 := H1.out.c6; have c7 := H1.out.c7; have c8 := H1.out.c8; have c9 := H1.out.c9; have fb := H1.out.fb)
      have hr4 : R4 w3 w2.heap.size ⟨(k : Int), t, l, ⟨b1, vn, e1, sZ⟩, ⟨b2, vn, e2, rZ⟩, ⟨b3, vn, e3, mZ⟩, ⟨b4, vn, e4, vZ⟩, g, d, false⟩ := hr4
      have HM := hid (H1.out.own hr4 hle)
      clear c0 c1 c2 c3 c4 c5 c6 c7 c8 c9 fb hr4 H1 H2 hle
      generalize World.setCell (World.setCell _ _ _) _ _ = w4 at HM ⊢
      have m0 := HM.out.c0; have m9 := HM.out.c9
      obtain ⟨kb', koff', e', _, z0, z1, z2⟩ := kat (HKB.out _ HM.out.below) HKM.out
      cases e'
      rw [HNN.out] at z2; rw [HTN.out] at z1
      have HM2 := hid (HM.out.cons (.cells #[.string (K k).nm, .slice (K k).ta tn (K k).tc, .slice (K k).ma vn (K k).mc] 40 (0, 0)) (by show 40 ≠ 3; decide))
      have hnk := (HM2.out.ex _ (List.mem_cons_self ..)).1
      have HNK := hid hnk
      obtain ⟨Xk, hXk⟩ : ∃ Xk, w4.heap.size = Xk := ⟨_, rfl⟩
      rw [hXk] at HM2 HNK
      go_upto_region 6 with fail
      clear m0 m9 z0 z1 z2 hnk hXk HM
      generalize World.alloc w4 _ = w5 at HM2 HNK ⊢
      have m9 := HM2.out.c9; have s0 := cell_of_row _ Xk 0 _ _ _ HNK.out; have s1 := cell_of_row _ Xk 1 _ _ _ HNK.out
      have s2 := cell_of_row _ Xk 2 _ _ _ HNK.out
      simp only [List.getElem?_toArray, List.getElem?_cons_zero, List.getElem?_cons_succ] at s0 s1 s2
      go_upto_region 7 with fail
      clear m9 s0 s1 s2
      have m0 := HM2.out.c0
      have m1 := HM2.out.c1
      have m2 := HM2.out.c2
      have m3 := HM2.out.c3
      have m4 := HM2.out.c4
      have m5 := HM2.out.c5
      have m6 := HM2.out.c6
      have m7 := HM2.out.c7
      have m8 := HM2.out.c8
      have m9 := HM2.out.c9
      have HY := HM2.out.ex (B + 1, zeroBox) (by simp)
      have r0 : w5.cell? ⟨B + 1, 0, none⟩ = some (.int .i64 0) := cell_of_row _ (B + 1) 0 _ _ _ HY.1
      have r1 : w5.cell? ⟨B + 1, 1, none⟩ = some (.int .i64 0) := cell_of_row _ (B + 1) 1 _ _ _ HY.1
      have r2 : w5.cell? ⟨B + 1, 2, none⟩ = some (.int .i64 0) := cell_of_row _ (B + 1) 2 _ _ _ HY.1
      have r3 : w5.cell? ⟨B + 1, 3, none⟩ = some (.slice none 0 0) := cell_of_row _ (B + 1) 3 _ _ _ HY.1
      have r4 : w5.cell? ⟨B + 1, 4, none⟩ = some (.slice none 0 0) := cell_of_row _ (B + 1) 4 _ _ _ HY.1
      have r5 : w5.cell? ⟨B + 1, 5, none⟩ = some (.slice none 0 0) := cell_of_row _ (B + 1) 5 _ _ _ HY.1
      have r6 : w5.cell? ⟨B + 1, 6, none⟩ = some (.slice none 0 0) := cell_of_row _ (B + 1) 6 _ _ _ HY.1
      have r7 : w5.cell? ⟨B + 1, 7, none⟩ = some (.int .i64 0) := cell_of_row _ (B + 1) 7 _ _ _ HY.1
      have r8 : w5.cell? ⟨B + 1, 8, none⟩ = some (.int .i64 0) := cell_of_row _ (B + 1) 8 _ _ _ HY.1
      have r9 : w5.cell? ⟨B + 1, 9, none⟩ = some (.bool false) := cell_of_row _ (B + 1) 9 _ _ _ HY.1
      have fr : ∀ j, w5.frozen? ⟨B + 1, j, none⟩ = false := fun j => frozen_of_row _ (B + 1) j _ _ HY.1
      clear HY
      go_wp2_with fail
      obtain ⟨k1, k2, k3⟩ := HM2.out.out (Y := B + 1) (by simp) (by omega)
      clear r0 r1 r2 r3 r4 r5 r6 r7 r8 r9 fr m0 m1 m2 m3 m4 m5 m6 m7 m8 m9
      generalize World.setCell (World.setCell _ _ _) _ _ = w9 at k1 k2 k3 ⊢
      have q0 : w9.cell? ⟨B + 1, 0, none⟩ = some (.int .i64 (k : Int)) := cell_of_row _ (B + 1) 0 _ _ _ k2
      have q1 : w9.cell? ⟨B + 1, 1, none⟩ = some (.int .i64 t) := cell_of_row _ (B + 1) 1 _ _ _ k2
      have q2 : w9.cell? ⟨B + 1, 2, none⟩ = some (.int .i64 l) := cell_of_row _ (B + 1) 2 _ _ _ k2
      have q3 : w9.cell? ⟨B + 1, 3, none⟩ = some (.slice b1 vn e1) := cell_of_row _ (B + 1) 3 _ _ _ k2
      have q4 : w9.cell? ⟨B + 1, 4, none⟩ = some (.slice b2 vn e2) := cell_of_row _ (B + 1) 4 _ _ _ k2
      have q5 : w9.cell? ⟨B + 1, 5, none⟩ = some (.slice b3 vn e3) := cell_of_row _ (B + 1) 5 _ _ _ k2
      have q6 : w9.cell? ⟨B + 1, 6, none⟩ = some (.slice b4 vn e4) := cell_of_row _ (B + 1) 6 _ _ _ k2
      have q7 : w9.cell? ⟨B + 1, 7, none⟩ = some (.int .i64 g) := cell_of_row _ (B + 1) 7 _ _ _ k2
      have q8 : w9.cell? ⟨B + 1, 8, none⟩ = some (.int .i64 d) := cell_of_row _ (B + 1) 8 _ _ _ k2
      have q9 : w9.cell? ⟨B + 1, 9, none⟩ = some (.bool false) := cell_of_row _ (B + 1) 9 _ _ _ k2
      refine bodyPost_ret (v := .tuple #[.agg #[.int .i64 (k : Int), .int .i64 t, .int .i64 l, .slice b1 vn e1, .slice b2 vn e2, .slice b3 vn e3, .slice b4 vn e4, .int .i64 g, .int .i64 d, .bool false], .int .i64 0]) (by simp [results, Try.results20, go_sem, q0, q1, q2, q3, q4, q5, q6, q7, q8, q9]) rfl ?_
      exact ⟨⟨(k : Int), t, l, ⟨b1, vn, e1, sZ⟩, ⟨b2, vn, e2, rZ⟩, ⟨b3, vn, e3, mZ⟩, ⟨b4, vn, e4, vZ⟩, g, d, false⟩, rfl, own4_is (p := ⟨(k : Int), t, l, ⟨sa, vn, sc, sZ⟩, ⟨ra, vn, rc, rZ⟩, ⟨ma, vn, mc, mZ⟩, ⟨va, vn, vc, vZ⟩, g, d, false⟩) (HRT.out.pl.is) b1 b2 b3 b4 e1 e2 e3 e4, k3, k1⟩
    by_cases ht0 : tn = 0
    rotate_left
    · have hD := wo_no (k := k) HF.out rfl (by rw [HTN.out]; simp [ht0])
      rw [HR.out] at hD
      obtain ⟨rfl, rfl⟩ : D = _ ∧ r = 0 := by simpa using hD
      have hq : (((tn : Nat) : Int) == 0) = false := by simp; omega
      clear ht0
      go_enter Try.func20, Try.ntmps20
      go_upto_region 1 with fail
      generalize World.alloc (World.alloc w _) _ = w1 at H0 ⊢
      have c0 := H0.out.c0; have c1 := H0.out.c1; have c2 := H0.out.c2; have c3 := H0.out.c3; have c4 := H0.out.c4; have c5 := H0.out.c5; have c6 := H0.out.c6; have c7 := H0.out.c7; have c8 := H0.out.c8; have c9 := H0.out.c9; have fb := H0.out.fb
      go_upto_region 2 with (go_at_call 15; refine (HV.out _ (HKB.out _ H0.out.below) H0.out.lists).mono ?_; rintro e w2 ⟨rfl, hb⟩; have H1 := hid (H0.out.stays hb); clear c0 c1 c2 c3 c4 c5 c6 c7 c8 c9 fb; clear hb)
      clear H0
      have c0 := H1.out.c0; have c1 := H1.out.c1; have c2 := H1.out.c2; have c3 := H1.out.c3; have c4 := H1.out.c4; have c5 := H1.out.c5; have c6 := H1.out.c6; have c7 := H1.out.c7; have c8 := H1.out.c8; have c9 := H1.out.c9; have fb := H1.out.fb
      go_upto_region 5 with (go_at_call 39; refine (HCP.out _ H1.out.lists).mono ?_; rintro e w3 ⟨b1, b2, b3, b4, e1, e2, e3, e4, he, hr4, hb⟩; have he : e = .returned (.agg #[.int .i64 (k : Int), .int .i64 t, .int .i64 l, .slice b1 vn e1, .slice b2 vn e2, .slice b3 vn e3, .slice b4 vn e4, .int .i64 g, .int .i64 d, .bool true]) := he; subst he; have H2 := hid (H1.out.stays hb); have hle := H1.out.le; have H1 := H2; clear c0 c1 c2 c3 c4 c5 c6 c7 c8 c9 fb; clear hb; have c0 := H1.out.c0; have c1 := H1.out.c1; have c2 := H1.out.c2; have c3 := H1.out.c3; have c4 := H1.out.c4; have c5 := H1.out.c5; have c6 := H1.out.c6; have c7 := H1.out.c7; have c8 := H1.out.c8; have c9 := H1.out.c9; have fb := H1.out.fb)
      have hr4 : R4 w3 w2.heap.size ⟨(k : Int), t, l, ⟨b1, vn, e1, sZ⟩, ⟨b2, vn, e2, rZ⟩, ⟨b3, vn, e3, mZ⟩, ⟨b4, vn, e4, vZ⟩, g, d, true⟩ := hr4
      have HM := hid (H1.out.own hr4 hle)
      clear c0 c1 c2 c3 c4 c5 c6 c7 c8 c9 fb hr4 H1 H2 hle
      generalize World.setCell (World.setCell _ _ _) _ _ = w4 at HM ⊢
      have m0 := HM.out.c0; have m9 := HM.out.c9
      obtain ⟨kb', koff', e', _, z0, z1, z2⟩ := kat (HKB.out _ HM.out.below) HKM.out
      cases e'
      rw [HNN.out] at z2; rw [HTN.out] at z1
      have HM2 := hid (HM.out.cons (.cells #[.string (K k).nm, .slice (K k).ta tn (K k).tc, .slice (K k).ma vn (K k).mc] 40 (0, 0)) (by show 40 ≠ 3; decide))
      have hnk := (HM2.out.ex _ (List.mem_cons_self ..)).1
      have HNK := hid hnk
      obtain ⟨Xk, hXk⟩ : ∃ Xk, w4.heap.size = Xk := ⟨_, rfl⟩
      rw [hXk] at HM2 HNK
      go_upto_region 6 with fail
      clear m0 m9 z0 z1 z2 hnk hXk HM
      generalize World.alloc w4 _ = w5 at HM2 HNK ⊢
      have m9 := HM2.out.c9; have s0 := cell_of_row _ Xk 0 _ _ _ HNK.out; have s1 := cell_of_row _ Xk 1 _ _ _ HNK.out
      have s2 := cell_of_row _ Xk 2 _ _ _ HNK.out
      simp only [List.getElem?_toArray, List.getElem?_cons_zero, List.getElem?_cons_succ] at s0 s1 s2
      go_upto_region 7 with (go_at_call 40; refine (source_any _ _ _ _ _ _ _ _ hq _).mono ?_; rintro e w6 ⟨rfl, hb⟩; have HX := hid (HM2.out.stays hb); clear hb s0 s1 s2 m9 hq)
      clear HM2 HNK
      have m0 := HX.out.c0
      have m1 := HX.out.c1
      have m2 := HX.out.c2
      have m3 := HX.out.c3
      have m4 := HX.out.c4
      have m5 := HX.out.c5
      have m6 := HX.out.c6
      have m7 := HX.out.c7
      have m8 := HX.out.c8
      have m9 := HX.out.c9
      have HY := HX.out.ex (B + 1, zeroBox) (by simp)
      have r0 : w6.cell? ⟨B + 1, 0, none⟩ = some (.int .i64 0) := cell_of_row _ (B + 1) 0 _ _ _ HY.1
      have r1 : w6.cell? ⟨B + 1, 1, none⟩ = some (.int .i64 0) := cell_of_row _ (B + 1) 1 _ _ _ HY.1
      have r2 : w6.cell? ⟨B + 1, 2, none⟩ = some (.int .i64 0) := cell_of_row _ (B + 1) 2 _ _ _ HY.1
      have r3 : w6.cell? ⟨B + 1, 3, none⟩ = some (.slice none 0 0) := cell_of_row _ (B + 1) 3 _ _ _ HY.1
      have r4 : w6.cell? ⟨B + 1, 4, none⟩ = some (.slice none 0 0) := cell_of_row _ (B + 1) 4 _ _ _ HY.1
      have r5 : w6.cell? ⟨B + 1, 5, none⟩ = some (.slice none 0 0) := cell_of_row _ (B + 1) 5 _ _ _ HY.1
      have r6 : w6.cell? ⟨B + 1, 6, none⟩ = some (.slice none 0 0) := cell_of_row _ (B + 1) 6 _ _ _ HY.1
      have r7 : w6.cell? ⟨B + 1, 7, none⟩ = some (.int .i64 0) := cell_of_row _ (B + 1) 7 _ _ _ HY.1
      have r8 : w6.cell? ⟨B + 1, 8, none⟩ = some (.int .i64 0) := cell_of_row _ (B + 1) 8 _ _ _ HY.1
      have r9 : w6.cell? ⟨B + 1, 9, none⟩ = some (.bool false) := cell_of_row _ (B + 1) 9 _ _ _ HY.1
      have fr : ∀ j, w6.frozen? ⟨B + 1, j, none⟩ = false := fun j => frozen_of_row _ (B + 1) j _ _ HY.1
      clear HY
      go_wp2_with fail
      obtain ⟨k1, k2, k3⟩ := HX.out.out (Y := B + 1) (by simp) (by omega)
      clear r0 r1 r2 r3 r4 r5 r6 r7 r8 r9 fr m0 m1 m2 m3 m4 m5 m6 m7 m8 m9
      generalize World.setCell (World.setCell _ _ _) _ _ = w9 at k1 k2 k3 ⊢
      have q0 : w9.cell? ⟨B + 1, 0, none⟩ = some (.int .i64 (k : Int)) := cell_of_row _ (B + 1) 0 _ _ _ k2
      have q1 : w9.cell? ⟨B + 1, 1, none⟩ = some (.int .i64 t) := cell_of_row _ (B + 1) 1 _ _ _ k2
      have q2 : w9.cell? ⟨B + 1, 2, none⟩ = some (.int .i64 l) := cell_of_row _ (B + 1) 2 _ _ _ k2
      have q3 : w9.cell? ⟨B + 1, 3, none⟩ = some (.slice b1 vn e1) := cell_of_row _ (B + 1) 3 _ _ _ k2
      have q4 : w9.cell? ⟨B + 1, 4, none⟩ = some (.slice b2 vn e2) := cell_of_row _ (B + 1) 4 _ _ _ k2
      have q5 : w9.cell? ⟨B + 1, 5, none⟩ = some (.slice b3 vn e3) := cell_of_row _ (B + 1) 5 _ _ _ k2
      have q6 : w9.cell? ⟨B + 1, 6, none⟩ = some (.slice b4 vn e4) := cell_of_row _ (B + 1) 6 _ _ _ k2
      have q7 : w9.cell? ⟨B + 1, 7, none⟩ = some (.int .i64 g) := cell_of_row _ (B + 1) 7 _ _ _ k2
      have q8 : w9.cell? ⟨B + 1, 8, none⟩ = some (.int .i64 d) := cell_of_row _ (B + 1) 8 _ _ _ k2
      have q9 : w9.cell? ⟨B + 1, 9, none⟩ = some (.bool true) := cell_of_row _ (B + 1) 9 _ _ _ k2
      refine bodyPost_ret (v := .tuple #[.agg #[.int .i64 (k : Int), .int .i64 t, .int .i64 l, .slice b1 vn e1, .slice b2 vn e2, .slice b3 vn e3, .slice b4 vn e4, .int .i64 g, .int .i64 d, .bool true], .int .i64 0]) (by simp [results, Try.results20, go_sem, q0, q1, q2, q3, q4, q5, q6, q7, q8, q9]) rfl ?_
      exact ⟨⟨(k : Int), t, l, ⟨b1, vn, e1, sZ⟩, ⟨b2, vn, e2, rZ⟩, ⟨b3, vn, e3, mZ⟩, ⟨b4, vn, e4, vZ⟩, g, d, true⟩, rfl, own4_is (p := ⟨(k : Int), t, l, ⟨sa, vn, sc, sZ⟩, ⟨ra, vn, rc, rZ⟩, ⟨ma, vn, mc, mZ⟩, ⟨va, vn, vc, vZ⟩, g, d, true⟩) (HRT.out.pl.is) b1 b2 b3 b4 e1 e2 e3 e4, k3, k1⟩
    subst ht0
    have hD := wo_yes (k := k) HF.out rfl rfl HTN.out
    rw [HR.out] at hD
    obtain ⟨rfl, rfl⟩ : D = _ ∧ r = 0 := by simpa using hD
    have hq : (((0 : Nat) : Int) == 0) = true := by simp
    go_enter Try.func20, Try.ntmps20
    go_upto_region 1 with fail
    generalize World.alloc (World.alloc w _) _ = w1 at H0 ⊢
    have c0 := H0.out.c0; have c1 := H0.out.c1; have c2 := H0.out.c2; have c3 := H0.out.c3; have c4 := H0.out.c4; have c5 := H0.out.c5; have c6 := H0.out.c6; have c7 := H0.out.c7; have c8 := H0.out.c8; have c9 := H0.out.c9; have fb := H0.out.fb
    go_upto_region 2 with (go_at_call 15; refine (HV.out _ (HKB.out _ H0.out.below) H0.out.lists).mono ?_; rintro e w2 ⟨rfl, hb⟩; have H1 := hid (H0.out.stays hb); clear c0 c1 c2 c3 c4 c5 c6 c7 c8 c9 fb; clear hb)
    clear H0
    have c0 := H1.out.c0; have c1 := H1.out.c1; have c2 := H1.out.c2; have c3 := H1.out.c3; have c4 := H1.out.c4; have c5 := H1.out.c5; have c6 := H1.out.c6; have c7 := H1.out.c7; have c8 := H1.out.c8; have c9 := H1.out.c9; have fb := H1.out.fb
    go_upto_region 5 with (go_at_call 39; refine (HCP.out _ H1.out.lists).mono ?_; rintro e w3 ⟨b1, b2, b3, b4, e1, e2, e3, e4, he, hr4, hb⟩; have he : e = .returned (.agg #[.int .i64 (k : Int), .int .i64 t, .int .i64 l, .slice b1 vn e1, .slice b2 vn e2, .slice b3 vn e3, .slice b4 vn e4, .int .i64 g, .int .i64 d, .bool true]) := he; subst he; have H2 := hid (H1.out.stays hb); have hle := H1.out.le; have H1 := H2; clear c0 c1 c2 c3 c4 c5 c6 c7 c8 c9 fb; clear hb; have c0 := H1.out.c0; have c1 := H1.out.c1; have c2 := H1.out.c2; have c3 := H1.out.c3; have c4 := H1.out.c4; have c5 := H1.out.c5; have c6 := H1.out.c6; have c7 := H1.out.c7; have c8 := H1.out.c8; have c9 := H1.out.c9; have fb := H1.out.fb)
    have hr4 : R4 w3 w2.heap.size ⟨(k : Int), t, l, ⟨b1, vn, e1, sZ⟩, ⟨b2, vn, e2, rZ⟩, ⟨b3, vn, e3, mZ⟩, ⟨b4, vn, e4, vZ⟩, g, d, true⟩ := hr4
    have HM := hid (H1.out.own hr4 hle)
    clear c0 c1 c2 c3 c4 c5 c6 c7 c8 c9 fb hr4 H1 H2 hle
    generalize World.setCell (World.setCell _ _ _) _ _ = w4 at HM ⊢
    have m0 := HM.out.c0; have m9 := HM.out.c9
    obtain ⟨kb', koff', e', _, z0, z1, z2⟩ := kat (HKB.out _ HM.out.below) HKM.out
    cases e'
    rw [HNN.out] at z2; rw [HTN.out] at z1
    have HM2 := hid (HM.out.cons (.cells #[.string (K k).nm, .slice (K k).ta 0 (K k).tc, .slice (K k).ma vn (K k).mc] 40 (0, 0)) (by show 40 ≠ 3; decide))
    have hnk := (HM2.out.ex _ (List.mem_cons_self ..)).1
    have HNK := hid hnk
    obtain ⟨Xk, hXk⟩ : ∃ Xk, w4.heap.size = Xk := ⟨_, rfl⟩
    rw [hXk] at HM2 HNK
    go_upto_region 6 with fail
    clear m0 m9 z0 z1 z2 hnk hXk HM
    generalize World.alloc w4 _ = w5 at HM2 HNK ⊢
    have m9 := HM2.out.c9; have s0 := cell_of_row _ Xk 0 _ _ _ HNK.out; have s1 := cell_of_row _ Xk 1 _ _ _ HNK.out
    have s2 := cell_of_row _ Xk 2 _ _ _ HNK.out
    simp only [List.getElem?_toArray, List.getElem?_cons_zero, List.getElem?_cons_succ] at s0 s1 s2
    go_upto_region 8 with (go_at_call 40; refine (source_any _ _ _ _ _ _ _ _ hq _).mono ?_; rintro e w6 ⟨rfl, hb⟩; have HX := hid (HM2.out.stays hb); clear hb s0 s1 s2 m9 hq)
    clear HM2
    have hnk : w6.heap[Xk]? = some (.cells #[.string (K k).nm, .slice (K k).ta 0 (K k).tc, .slice (K k).ma vn (K k).mc] 40 (0, 0)) := (HX.out.ex _ (List.mem_cons_self ..)).1
    have s2 : w6.cell? ⟨Xk, 2, none⟩ = some (.slice (K k).ma vn (K k).mc) := cell_of_row _ Xk 2 _ _ _ hnk
    clear hnk HNK
    go_upto_region 9 with fail
    clear s2 HCP HV
    have HA : Hid (∀ j, j < vn → 1 ≤ (K k).A j ∧ (K k).A j ≤ 1000) := hid (fun j hj => HRT.out.ks.A k HKM.out j (by rw [HNN.out]; exact hj))
    have HSZ : Hid (∀ j, j < vn → 0 ≤ sZ j ∧ sZ j ≤ 1000000) := hid (fun j hj => HRT.out.pl.st.z j (by rw [HNN.out]; exact hj))
    have HMZ : Hid (∀ j, j < vn → 0 ≤ mZ j ∧ mZ j ≤ 1000000) := hid (fun j hj => HRT.out.pl.ma.z j (by rw [HNN.out]; exact hj))
    have HLV : Hid (1 ≤ l ∧ l ≤ 64) := hid HRT.out.pl.l
    have HTA : Hid (∀ W, Below B w W → KdAt W (K k)) := hid (fun W hb => (HKB.out W hb k HKM.out).2)
    have hvn := HVN.out
    have HL0 : Hid (MP ⟨(k : Int), t, l, ⟨b1, vn, e1, mixF (wkS (K k).A sZ l) sZ 0⟩, ⟨b2, vn, e2, rZ⟩, ⟨b3, vn, e3, mixF (wkM (K k).A sZ mZ l) mZ 0⟩, ⟨b4, vn, e4, vZ⟩, g, d, true⟩ B (B + 2) B [(B + 1, zeroBox)] w w6) := hid (by rw [mixF_zero, mixF_zero]; exact HX.out.sub (fun x hx => List.mem_cons_of_mem _ hx))
    clear HX
    go_loopw [37] (fun iv wr => ∃ i : Nat, i ≤ vn ∧ iv = .int .i64 i ∧ Hid (MP ⟨(k : Int), t, l, ⟨b1, vn, e1, mixF (wkS (K k).A sZ l) sZ i⟩, ⟨b2, vn, e2, rZ⟩, ⟨b3, vn, e3, mixF (wkM (K k).A sZ mZ l) mZ i⟩, ⟨b4, vn, e4, vZ⟩, g, d, true⟩ B (B + 2) B [(B + 1, zeroBox)] w wr)) (fun iv _ => vn - (intOf iv).toNat)
    case atStart => exact ⟨0, Nat.zero_le _, rfl, HL0⟩
    case round =>
      clear HL0
      obtain ⟨i, hi, rfl, HM⟩ := hrel
      by_cases hlt : i < vn
      · have hiv : (i : Int) < (vn : Int) := by omega
        obtain ⟨mb, moff, me, _, a0, a1⟩ := mat (HTA.out _ HM.out.below).m (j := i) (by rw [HNN.out]; exact hlt)
        obtain ⟨g1, y1, f1, _, _⟩ := HM.out.r4.st.form (show 0 < vn by omega)
        obtain ⟨rfl, rfl⟩ : b1 = some ⟨g1, 0, none⟩ ∧ e1 = y1 := by simpa using f1
        obtain ⟨g3, y3, f3, _, _⟩ := HM.out.r4.ma.form (show 0 < vn by omega)
        obtain ⟨rfl, rfl⟩ : b3 = some ⟨g3, 0, none⟩ ∧ e3 = y3 := by simpa using f3
        have hA := HA.out i hlt; have hS := HSZ.out i hlt; have hM := HMZ.out i hlt; have hl := HLV.out
        have hn1 : wkN (K k).A sZ l i = min ((K k).A i * l / 16) (1000000 - sZ i) := rfl
        have hs1 : wkS (K k).A sZ l i = sZ i + wkN (K k).A sZ l i := rfl
        have hm1 : wkM (K k).A sZ mZ l i = min (mZ i + wkN (K k).A sZ l i) 1000000 := rfl
        obtain ⟨am, ham⟩ : ∃ x, (K k).A i = x := ⟨_, rfl⟩
        obtain ⟨cg, hcg⟩ : ∃ x, (K k).C i = x := ⟨_, rfl⟩
        obtain ⟨s0, hs0⟩ : ∃ x, sZ i = x := ⟨_, rfl⟩
        obtain ⟨m0, hm0⟩ : ∃ x, mZ i = x := ⟨_, rfl⟩
        obtain ⟨un, hun⟩ : ∃ x, wkN (K k).A sZ l i = x := ⟨_, rfl⟩
        obtain ⟨s9, hs9⟩ : ∃ x, wkS (K k).A sZ l i = x := ⟨_, rfl⟩
        obtain ⟨m9, hm9⟩ : ∃ x, wkM (K k).A sZ mZ l i = x := ⟨_, rfl⟩
        rw [hun, ham, hs0] at hn1; rw [hs9, hs0, hun] at hs1; rw [hm9, hm0, hun] at hm1
        rw [ham] at hA a1; rw [hcg] at a0; rw [hs0] at hS; rw [hm0] at hM
        obtain ⟨pr, hpr⟩ : ∃ x, am * l = x := ⟨_, rfl⟩
        rw [hpr] at hn1
        have hpb : 0 ≤ pr ∧ pr ≤ 64000 := by rw [← hpr]; exact ⟨Int.mul_nonneg (by omega) (by omega), by have h1 : am * l ≤ 1000 * 64 := Int.mul_le_mul hA.2 hl.2 (by omega) (by omega); omega⟩
        obtain ⟨qq, hqq⟩ : ∃ x, pr / 16 = x := ⟨_, rfl⟩
        have t1 : Int.tdiv pr 16 = qq := by rw [← hqq]; exact Int.tdiv_eq_ediv_of_nonneg (by omega)
        rw [hqq] at hn1
        have hqb : 0 ≤ qq ∧ qq ≤ 4000 := by omega
        obtain ⟨rs, hrs⟩ : ∃ x, 1000000 - s0 = x := ⟨_, rfl⟩
        rw [hrs] at hn1
        have w1' : IntKind.i64.wrap pr = pr := by rw [IntKind.wrap_i64]; omega
        have w3' : IntKind.i64.wrap qq = qq := by rw [IntKind.wrap_i64]; omega
        have w4' : IntKind.i64.wrap (1000000 - s0) = rs := by rw [IntKind.wrap_i64]; omega
        have w5' : IntKind.i64.wrap (s0 + un) = s9 := by rw [IntKind.wrap_i64]; omega
        have HS9 := hid hs9; have HM9 := hid hm9; have HHS := hid hs0; have HHM := hid hm0; have HN1 := hid hn1; have HS1 := hid hs1; have HM1e := hid hm1; have HLT := hid hlt
        have HM1 := hid (HM.out.cons (makeBox cg am) (by show 42 ≠ 3; decide))
        have HNM := hid ((HM1.out.ex _ (List.mem_cons_self ..)).1)
        have HG2 := hid (fun W => grown_any m0 un m9 (by omega) (by omega) hm1.symm W)
        obtain ⟨Xm, hXm⟩ : ∃ Xm, wr.heap.size = Xm := ⟨_, rfl⟩
        rw [hXm] at HM1 HNM
        clear hs9 hm9 hs0 hm0 hun ham hcg hA hS hM hl hn1 hs1 hm1 hqq hpb hqb hrs f1 f3
        go_upto_region 11 with fail
        clear a0 a1 hXm HM me
        generalize World.alloc wr _ = w6 at HM1 HNM ⊢
        have d1 : w6.cell? ⟨Xm, 1, none⟩ = some (.int .i64 am) := cell_of_row _ Xm 1 _ _ _ HNM.out
        have p2 := HM1.out.c2; have p3 := HM1.out.c3
        have q3 : w6.cell? ⟨g1, i, none⟩ = some (.int .i64 s0) := by have h := RowI.at HM1.out.r4.st HLT.out; dsimp only at h; rw [mixF_at, HHS.out] at h; exact h
        have HM2 : Hid (MP ⟨(k : Int), t, l, ⟨some ⟨g1, 0, none⟩, vn, e1, mixF (wkS (K k).A sZ l) sZ i⟩, ⟨b2, vn, e2, rZ⟩, ⟨some ⟨g3, 0, none⟩, vn, e3, mixF (wkM (K k).A sZ mZ l) mZ i⟩, ⟨b4, vn, e4, vZ⟩, g, d, true⟩ B (B + 2) B [(B + 1, zeroBox)] w w6) := hid (HM1.out.sub (fun x hx => List.mem_cons_of_mem _ hx))
        have hmin := HN1.out
        clear HM1 HNM
        go_cut [10] (fun s10 wx => s10 = .int .i64 un ∧ Hid (MP ⟨(k : Int), t, l, ⟨some ⟨g1, 0, none⟩, vn, e1, mixF (wkS (K k).A sZ l) sZ i⟩, ⟨b2, vn, e2, rZ⟩, ⟨some ⟨g3, 0, none⟩, vn, e3, mixF (wkM (K k).A sZ mZ l) mZ i⟩, ⟨b4, vn, e4, vZ⟩, g, d, true⟩ B (B + 2) B [(B + 1, zeroBox)] w wx))
        case first =>
          by_cases hbig : rs < qq
          · obtain rfl : un = rs := by omega
            clear hmin
            go_quiet (fail)
            have HM3 := hid (HM2.out.stays (w' := World.drewN w6 nq) (Joins.below_draws _ _ _))
            go_wp2_with fail
            go_meet
            exact ⟨rfl, HM3⟩
          · obtain rfl : un = qq := by omega
            clear hmin
            go_quiet (fail)
            have HM3 := hid (HM2.out.stays (w' := World.drewN w6 nq) (Joins.below_draws _ _ _))
            go_wp2_with fail
            go_meet
            exact ⟨rfl, HM3⟩
        case rest =>
          clear p2 p3 q3 d1 HM2 hmin
          obtain ⟨rfl, HM2⟩ := hcut
          obtain ⟨w7, hwc⟩ : ∃ x, x = wc := ⟨_, rfl⟩
          rw [← hwc] at HM2 ⊢
          clear hwc
          go_upto_region 12 with fail
          have p3 := HM2.out.c3
          have q3 : w7.cell? ⟨g1, i, none⟩ = some (.int .i64 s0) := by have h := RowI.at HM2.out.r4.st HLT.out; dsimp only at h; rw [mixF_at, HHS.out] at h; exact h
          have f3 : w7.frozen? ⟨g1, i, none⟩ = false := World.ownsRow.frozenAt HM2.out.r4.st i
          have hm' := HM2.out.put_st rfl i s9
          rw [mixF_succ _ _ _ HS9.out.symm] at hm'
          have HM3 : Hid (MP ⟨(k : Int), t, l, ⟨some ⟨g1, 0, none⟩, vn, e1, mixF (wkS (K k).A sZ l) sZ (i + 1)⟩, ⟨b2, vn, e2, rZ⟩, ⟨some ⟨g3, 0, none⟩, vn, e3, mixF (wkM (K k).A sZ mZ l) mZ i⟩, ⟨b4, vn, e4, vZ⟩, g, d, true⟩ B (B + 2) B [(B + 1, zeroBox)] w _) := hid hm'
          clear hm'
          go_upto_region 13 with fail
          clear p3 q3 f3 HM2
          generalize World.setCell w7 _ _ = w8 at HM3 ⊢
          have p5 := HM3.out.c5
          have q5 : w8.cell? ⟨g3, i, none⟩ = some (.int .i64 m0) := by have h := RowI.at HM3.out.r4.ma HLT.out; dsimp only at h; rw [mixF_at, HHM.out] at h; exact h
          have f5 : w8.frozen? ⟨g3, i, none⟩ = false := World.ownsRow.frozenAt HM3.out.r4.ma i
          have hm' := HM3.out.put_ma rfl i m9
          rw [mixF_succ _ _ _ HM9.out.symm] at hm'
          have HM4 : Hid (MP ⟨(k : Int), t, l, ⟨some ⟨g1, 0, none⟩, vn, e1, mixF (wkS (K k).A sZ l) sZ (i + 1)⟩, ⟨b2, vn, e2, rZ⟩, ⟨some ⟨g3, 0, none⟩, vn, e3, mixF (wkM (K k).A sZ mZ l) mZ (i + 1)⟩, ⟨b4, vn, e4, vZ⟩, g, d, true⟩ B (B + 2) B [(B + 1, zeroBox)] w _) := hid (hm'.stays ((Below.refl _ _).drew))
          clear hm' HM3
          go_region_with (go_at_call 41; refine (HG2.out _).mono ?_; rintro e wx ⟨rfl, rfl⟩)
          all_goals go_wp2_with fail
          all_goals go_roundw
          all_goals (first | exact ⟨i + 1, by have := HLT.out; omega, by go_num, HM4⟩ | (have := HLT.out; simp [intOf]; omega))
      · obtain rfl : vn = i := by omega
        have m0 := HM.out.c0
        have m1 := HM.out.c1
        have m2 := HM.out.c2
        have m3 := HM.out.c3
        have m4 := HM.out.c4
        have m5 := HM.out.c5
        have m6 := HM.out.c6
        have m7 := HM.out.c7
        have m8 := HM.out.c8
        have m9 := HM.out.c9
        have HY := HM.out.ex (B + 1, zeroBox) (by simp)
        have r0 : wr.cell? ⟨B + 1, 0, none⟩ = some (.int .i64 0) := cell_of_row _ (B + 1) 0 _ _ _ HY.1
        have r1 : wr.cell? ⟨B + 1, 1, none⟩ = some (.int .i64 0) := cell_of_row _ (B + 1) 1 _ _ _ HY.1
        have r2 : wr.cell? ⟨B + 1, 2, none⟩ = some (.int .i64 0) := cell_of_row _ (B + 1) 2 _ _ _ HY.1
        have r3 : wr.cell? ⟨B + 1, 3, none⟩ = some (.slice none 0 0) := cell_of_row _ (B + 1) 3 _ _ _ HY.1
        have r4 : wr.cell? ⟨B + 1, 4, none⟩ = some (.slice none 0 0) := cell_of_row _ (B + 1) 4 _ _ _ HY.1
        have r5 : wr.cell? ⟨B + 1, 5, none⟩ = some (.slice none 0 0) := cell_of_row _ (B + 1) 5 _ _ _ HY.1
        have r6 : wr.cell? ⟨B + 1, 6, none⟩ = some (.slice none 0 0) := cell_of_row _ (B + 1) 6 _ _ _ HY.1
        have r7 : wr.cell? ⟨B + 1, 7, none⟩ = some (.int .i64 0) := cell_of_row _ (B + 1) 7 _ _ _ HY.1
        have r8 : wr.cell? ⟨B + 1, 8, none⟩ = some (.int .i64 0) := cell_of_row _ (B + 1) 8 _ _ _ HY.1
        have r9 : wr.cell? ⟨B + 1, 9, none⟩ = some (.bool false) := cell_of_row _ (B + 1) 9 _ _ _ HY.1
        have fr : ∀ j, wr.frozen? ⟨B + 1, j, none⟩ = false := fun j => frozen_of_row _ (B + 1) j _ _ HY.1
        clear HY
        go_wp2_with fail
        obtain ⟨k1, k2, k3⟩ := HM.out.out (Y := B + 1) (by simp) (by omega)
        clear r0 r1 r2 r3 r4 r5 r6 r7 r8 r9 fr m0 m1 m2 m3 m4 m5 m6 m7 m8 m9
        generalize World.setCell (World.setCell _ _ _) _ _ = w9 at k1 k2 k3 ⊢
        have q0 : w9.cell? ⟨B + 1, 0, none⟩ = some (.int .i64 (k : Int)) := cell_of_row _ (B + 1) 0 _ _ _ k2
        have q1 : w9.cell? ⟨B + 1, 1, none⟩ = some (.int .i64 t) := cell_of_row _ (B + 1) 1 _ _ _ k2
        have q2 : w9.cell? ⟨B + 1, 2, none⟩ = some (.int .i64 l) := cell_of_row _ (B + 1) 2 _ _ _ k2
        have q3 : w9.cell? ⟨B + 1, 3, none⟩ = some (.slice b1 vn e1) := cell_of_row _ (B + 1) 3 _ _ _ k2
        have q4 : w9.cell? ⟨B + 1, 4, none⟩ = some (.slice b2 vn e2) := cell_of_row _ (B + 1) 4 _ _ _ k2
        have q5 : w9.cell? ⟨B + 1, 5, none⟩ = some (.slice b3 vn e3) := cell_of_row _ (B + 1) 5 _ _ _ k2
        have q6 : w9.cell? ⟨B + 1, 6, none⟩ = some (.slice b4 vn e4) := cell_of_row _ (B + 1) 6 _ _ _ k2
        have q7 : w9.cell? ⟨B + 1, 7, none⟩ = some (.int .i64 g) := cell_of_row _ (B + 1) 7 _ _ _ k2
        have q8 : w9.cell? ⟨B + 1, 8, none⟩ = some (.int .i64 d) := cell_of_row _ (B + 1) 8 _ _ _ k2
        have q9 : w9.cell? ⟨B + 1, 9, none⟩ = some (.bool true) := cell_of_row _ (B + 1) 9 _ _ _ k2
        refine bodyPost_ret (v := .tuple #[.agg #[.int .i64 (k : Int), .int .i64 t, .int .i64 l, .slice b1 vn e1, .slice b2 vn e2, .slice b3 vn e3, .slice b4 vn e4, .int .i64 g, .int .i64 d, .bool true], .int .i64 0]) (by simp [results, Try.results20, go_sem, q0, q1, q2, q3, q4, q5, q6, q7, q8, q9]) rfl ?_
        refine ⟨⟨(k : Int), t, l, ⟨b1, vn, e1, mixF (wkS (K k).A sZ l) sZ vn⟩, ⟨b2, vn, e2, rZ⟩, ⟨b3, vn, e3, mixF (wkM (K k).A sZ mZ l) mZ vn⟩, ⟨b4, vn, e4, vZ⟩, g, d, true⟩, rfl, ?_, k3, k1⟩
        exact ⟨rfl, rfl, rfl, ⟨HNN.out.symm, fun j hj => mixF_end (by rw [← HNN.out]; exact hj)⟩, ⟨HNN.out.symm, fun j hj => rfl⟩, ⟨HNN.out.symm, fun j hj => mixF_end (by rw [← HNN.out]; exact hj)⟩, ⟨HNN.out.symm, fun j hj => rfl⟩, rfl, rfl, rfl⟩
  · have hD := wo_f HF.out h0
    rw [HR.out] at hD
    obtain ⟨rfl, rfl⟩ : D = zeroD ∧ r = f := by simpa using hD
    have hf0 : (r != 0) = true := by simpa using h0
    go_enter Try.func20, Try.ntmps20
    go_upto_region 1 with fail
    generalize World.alloc (World.alloc w _) _ = w1 at H0 ⊢
    have c0 := H0.out.c0; have c1 := H0.out.c1; have c2 := H0.out.c2; have c3 := H0.out.c3; have c4 := H0.out.c4; have c5 := H0.out.c5; have c6 := H0.out.c6; have c7 := H0.out.c7; have c8 := H0.out.c8; have c9 := H0.out.c9; have fb := H0.out.fb
    go_upto_region 2 with (go_at_call 15; refine (HV.out _ (HKB.out _ H0.out.below) H0.out.lists).mono ?_; rintro e w2 ⟨rfl, hb⟩; have H1 := hid (H0.out.stays hb); clear c0 c1 c2 c3 c4 c5 c6 c7 c8 c9 fb; clear hb)
    clear H0
    have r0 := H1.out.r0; have r1 := H1.out.r1; have r2 := H1.out.r2; have r3 := H1.out.r3; have r4 := H1.out.r4; have r5 := H1.out.r5; have r6 := H1.out.r6; have r7 := H1.out.r7; have r8 := H1.out.r8; have r9 := H1.out.r9; have fr := H1.out.fr
    go_wp2_with fail
    have k1 := set10_below (g := B + 1) H1.out.below (Nat.le_succ _) (.int .i64 0) (.int .i64 0) (.int .i64 0) (.slice none 0 0) (.slice none 0 0) (.slice none 0 0) (.slice none 0 0) (.int .i64 0) (.int .i64 0) (.bool false)
    have k2 := set10 H1.out.br (.int .i64 0) (.int .i64 0) (.int .i64 0) (.slice none 0 0) (.slice none 0 0) (.slice none 0 0) (.slice none 0 0) (.int .i64 0) (.int .i64 0) (.bool false)
    have k3 : True := trivial
    clear r0 r1 r2 r3 r4 r5 r6 r7 r8 r9 fr
    generalize World.setCell (World.setCell _ _ _) _ _ = w9 at k1 k2 k3 ⊢
    have q0 : w9.cell? ⟨B + 1, 0, none⟩ = some (.int .i64 0) := cell_of_row _ (B + 1) 0 _ _ _ k2
    have q1 : w9.cell? ⟨B + 1, 1, none⟩ = some (.int .i64 0) := cell_of_row _ (B + 1) 1 _ _ _ k2
    have q2 : w9.cell? ⟨B + 1, 2, none⟩ = some (.int .i64 0) := cell_of_row _ (B + 1) 2 _ _ _ k2
    have q3 : w9.cell? ⟨B + 1, 3, none⟩ = some (.slice none 0 0) := cell_of_row _ (B + 1) 3 _ _ _ k2
    have q4 : w9.cell? ⟨B + 1, 4, none⟩ = some (.slice none 0 0) := cell_of_row _ (B + 1) 4 _ _ _ k2
    have q5 : w9.cell? ⟨B + 1, 5, none⟩ = some (.slice none 0 0) := cell_of_row _ (B + 1) 5 _ _ _ k2
    have q6 : w9.cell? ⟨B + 1, 6, none⟩ = some (.slice none 0 0) := cell_of_row _ (B + 1) 6 _ _ _ k2
    have q7 : w9.cell? ⟨B + 1, 7, none⟩ = some (.int .i64 0) := cell_of_row _ (B + 1) 7 _ _ _ k2
    have q8 : w9.cell? ⟨B + 1, 8, none⟩ = some (.int .i64 0) := cell_of_row _ (B + 1) 8 _ _ _ k2
    have q9 : w9.cell? ⟨B + 1, 9, none⟩ = some (.bool false) := cell_of_row _ (B + 1) 9 _ _ _ k2
    refine bodyPost_ret (v := .tuple #[.agg #[.int .i64 0, .int .i64 0, .int .i64 0, .slice none 0 0, .slice none 0 0, .slice none 0 0, .slice none 0 0, .int .i64 0, .int .i64 0, .bool false], .int .i64 r]) (by simp [results, Try.results20, go_sem, q0, q1, q2, q3, q4, q5, q6, q7, q8, q9]) rfl ?_
    exact ⟨zeroP, rfl, zero_is, zero_r4 _ _, k1⟩
end Go.Proofs.Ytnhkblkijiipeaa
