/-
  The walk of Bring.
-/
import Derived.Test.YtnhkblkijiipeaaFMut
import Derived.Test.YtnhkblkijiipeaaFNew
import Derived.Deep.RegionWith
namespace Go.Proofs.Ytnhkblkijiipeaa
open Go.RowKit

/-- The first i of a list are new. -/
def mixF (f Z : Nat → Int) (i : Nat) : Nat → Int := fun q => if q < i then f q else Z q
theorem mixF_zero (f Z : Nat → Int) : mixF f Z 0 = Z := funext fun q => by simp [mixF]
theorem mixF_at (f Z : Nat → Int) (i : Nat) : mixF f Z i i = Z i := by simp [mixF]
theorem mixF_succ (f Z : Nat → Int) (i : Nat) {x : Int} (hx : x = f i) : (fun q => if q = i then x else mixF f Z i q) = mixF f Z (i + 1) := funext fun q => by
  subst hx
  unfold mixF
  by_cases e : q = i
  · subst e; simp
  · by_cases h : q < i
    · simp [e, h, show q < i + 1 by omega]
    · simp [e, h, show ¬ q < i + 1 by omega]
theorem mixF_end {f Z : Nat → Int} {n j : Nat} (h : j < n) : mixF f Z n j = f j := by simp [mixF, h]
def takesK (k : Kd) (x : Int) : Bool := anyP k.tn (fun j => decide (x = k.T j))
/-- Eighths; what becomes of a list. -/
def brX (A R : Nat → Int) (n : Int) (j : Nat) : Int := R j + n * A j
def brS (A R S : Nat → Int) (n : Int) (j : Nat) : Int := min (S j + brX A R n j / 8) 1000000
def brR (A R : Nat → Int) (n : Int) (j : Nat) : Int := brX A R n j % 8
/-- A plant to which n units were given. -/
def broughtD (d : Da) (A : Nat → Int) (n : Int) : Da := ⟨d.k, d.t, d.l, d.n, brS A d.R d.S n, brR A d.R n, brS A d.R d.M n, d.V, min (d.g + n) 1000000, d.i, d.o⟩
/-- What Bring hands back. -/
def BrR (m : Nat) (K : Nat → Kd) (p : Pl) (cargo n : Int) : Da × Int × Int :=
  if UErr m K p cargo n ≠ 0 then (zeroD, 0, UErr m K p cargo n) else
  if p.o = true ∧ takesK (K p.k.toNat) cargo = true then (broughtD (dataOf p (K p.k.toNat).mn) (K p.k.toNat).A n, n, 0) else (dataOf p (K p.k.toNat).mn, 0, 0)
/-- A plant, a number, an error. -/
def UPost (d : Da) (u r : Int) (w : World) (e : Ending) (w' : World) : Prop := ∃ p, e = .returned (.tuple #[pv p, .int .i64 u, .int .i64 r]) ∧ Is p d ∧ R4 w' w.heap.size p ∧ Below w.heap.size w w'
theorem zero_r4 (w : World) (B : Nat) : R4 w B zeroP := ⟨World.ownsRow_nil _ _ _ _, World.ownsRow_nil _ _ _ _, World.ownsRow_nil _ _ _ _, World.ownsRow_nil _ _ _ _, fun _ h => (by cases h), fun _ h => (by cases h), fun _ h => (by cases h), fun _ h => (by cases h), fun _ h => (by cases h), fun _ h => (by cases h)⟩
theorem br_f {m : Nat} {K : Nat → Kd} {p : Pl} {cargo n f : Int} (h : UErr m K p cargo n = f) (h0 : ¬ f = 0) : BrR m K p cargo n = (zeroD, 0, f) := by unfold BrR; rw [h, if_pos h0]
theorem br_no {m k : Nat} {K : Nat → Kd} {p : Pl} {cargo n : Int} (h : UErr m K p cargo n = 0) (hk : p.k = k) (h1 : ¬ (p.o = true ∧ takesK (K k) cargo = true)) : BrR m K p cargo n = (dataOf p (K k).mn, 0, 0) := by
  unfold BrR; rw [if_neg (by simpa using h), hk, Int.toNat_natCast, if_neg h1]
theorem br_yes {m k : Nat} {K : Nat → Kd} {p : Pl} {cargo n : Int} (h : UErr m K p cargo n = 0) (hk : p.k = k) (h1 : p.o = true) (h2 : takesK (K k) cargo = true) : BrR m K p cargo n = (broughtD (dataOf p (K k).mn) (K k).A n, n, 0) := by
  unfold BrR; rw [if_neg (by simpa using h), hk, Int.toNat_natCast, if_pos ⟨h1, h2⟩]
set_option maxRecDepth 100000 in
set_option maxHeartbeats 25600000 in
theorem bring_any (ko : Option Addr) (m kc : Nat) (K : Nat → Kd) (hm : m ≤ 1000) (hs : Small m K) (p : Pl) (hp : SmallP p) (cargo n : Int) (D : Da) (u r : Int) (hr : BrR m K p cargo n = (D, u, r)) (w : World) (hK : Kds w ko m K) (hP : PlAt w p) :
    Calls Try.prog 22 #[.slice ko m kc, pv p, .int .i64 cargo, .int .i64 n] w (UPost D u r w) := by
  have H0 := hid (PZ.start hP)
  have HKB : Hid (∀ W, Below w.heap.size w W → Kds W ko m K) := hid (fun W hb => hK.stays hb)
  obtain ⟨f, hf⟩ : ∃ f, UErr m K p cargo n = f := ⟨_, rfl⟩
  have HF := hid hf
  have HV := hid (fun W h h' => vunits_any ko m kc K hm hs p hp cargo n f hf W h h')
  have HCP := hid (fun W h => copied_any p hp W h)
  have HR := hid hr
  clear hP hK hr hf
  unfold UPost
  obtain ⟨pk, t, l, ⟨sa, sn, sc, sZ⟩, ⟨ra, rn, rc, rZ⟩, ⟨ma, mn, mc, mZ⟩, ⟨va, vn, vc, vZ⟩, g, d, o⟩ := p
  show Calls _ _ #[.slice ko m kc, .agg #[.int .i64 pk, .int .i64 t, .int .i64 l, .slice sa sn sc, .slice ra rn rc, .slice ma mn mc, .slice va vn vc, .int .i64 g, .int .i64 d, .bool o], .int .i64 cargo, .int .i64 n] w _
  obtain ⟨B, hB⟩ : ∃ B, w.heap.size = B := ⟨_, rfl⟩
  rw [hB] at H0 HKB ⊢
  by_cases h0 : f = 0
  · subst h0
    obtain ⟨hpe, hn, hc⟩ := uerr_ok HF.out
    obtain ⟨k, hR⟩ := PErr_right hpe
    obtain rfl : pk = (k : Int) := hR.kp
    have hkm := hR.lt
    have hkm' : (k : Int) < (m : Int) := by omega
    obtain ⟨N, hN⟩ : ∃ N, (K k).mn = N := ⟨_, rfl⟩
    have l1 : sn = N := by rw [← hN]; exact hR.pl.st.len
    have l2 : rn = N := by rw [← hN]; exact hR.pl.re.len
    have l3 : mn = N := by rw [← hN]; exact hR.pl.ma.len
    have l4 : vn = N := by rw [← hN]; exact hR.pl.mo.len
    subst l1; subst l2; subst l3; subst l4
    have HRT := hid hR
    have HNN := hid hN
    have hk0 : (K k).tn ≤ 1000000 := by have := hR.ks.tn k hkm; omega
    obtain ⟨q, hq⟩ : ∃ q, takesK (K k) cargo = q := ⟨_, rfl⟩
    have HTK := hid hq
    have HCT := hid (fun W h => contains_any (K k).ta (K k).tn (K k).tc (K k).T cargo q hk0 hq W h)
    have HKM := hid hkm
    obtain ⟨⟨kb, koff, ke, _⟩, _⟩ := (HKB.out w (by rw [← hB]; exact Below.refl _ _)) k hkm
    subst ke
    clear hpe hR hN hk0 hq hkm
    cases o
    · have hD := br_no (k := k) HF.out rfl (by simp)
      rw [HR.out] at hD
      obtain ⟨rfl, rfl, rfl⟩ : D = _ ∧ u = 0 ∧ r = 0 := by simpa using hD
      go_enter Try.func22, Try.ntmps22
      go_upto_region 1 with fail
      generalize World.alloc (World.alloc w _) _ = w1 at H0 ⊢
      have c0 := H0.out.c0; have c1 := H0.out.c1; have c2 := H0.out.c2; have c3 := H0.out.c3; have c4 := H0.out.c4; have c5 := H0.out.c5; have c6 := H0.out.c6; have c7 := H0.out.c7; have c8 := H0.out.c8; have c9 := H0.out.c9; have fb := H0.out.fb
      go_upto_region 2 with (go_at_call 43; refine (HV.out _ (HKB.out _ H0.out.below) H0.out.lists).mono ?_; rintro e w2 ⟨rfl, hb⟩; have H1 := hid (H0.out.stays hb); clear c0 c1 c2 c3 c4 c5 c6 c7 c8 c9 fb; clear hb)
      clear H0
      have c0 := H1.out.c0; have c1 := H1.out.c1; have c2 := H1.out.c2; have c3 := H1.out.c3; have c4 := H1.out.c4; have c5 := H1.out.c5; have c6 := H1.out.c6; have c7 := H1.out.c7; have c8 := H1.out.c8; have c9 := H1.out.c9; have fb := H1.out.fb
      go_upto_region 5 with (go_at_call 39; refine (HCP.out _ H1.out.lists).mono ?_; rintro e w3 ⟨b1, b2, b3, b4, e1, e2, e3, e4, he, hr4, hb⟩; have he : e = .returned (.agg #[.int .i64 (k : Int), .int .i64 t, .int .i64 l, .slice b1 vn e1, .slice b2 vn e2, .slice b3 vn e3, .slice b4 vn e4, .int .i64 g, .int .i64 d, .bool false]) := he; subst he; have H2 := hid (H1.out.stays hb); have hle := H1.out.le; have H1 := H2; clear c0 c1 c2 c3 c4 c5 c6 c7 c8 c9 fb; clear hb; have c0 := H1.out.c0; have c1 := H1.out.c1; have c2 := H1.out.c2; have c3 := H1.out.c3; have c4 := H1.out.c4; have c5 := H1.out.c5; have c6 := H1.out.c6; have c7 := H1.out.c7; have c8 := H1.out.c8; have c9 := H1.out.c9; have fb := H1.out.fb)
      have hr4 : R4 w3 w2.heap.size ⟨(k : Int), t, l, ⟨b1, vn, e1, sZ⟩, ⟨b2, vn, e2, rZ⟩, ⟨b3, vn, e3, mZ⟩, ⟨b4, vn, e4, vZ⟩, g, d, false⟩ := hr4
      have HM := hid (H1.out.own hr4 hle)
      clear c0 c1 c2 c3 c4 c5 c6 c7 c8 c9 fb hr4 H1 H2 hle
      generalize World.setCell (World.setCell _ _ _) _ _ = w4 at HM ⊢
      have m0 := HM.out.c0; have m9 := HM.out.c9
      obtain ⟨kb', koff', e', _, z0, z1, z2⟩ := kat (HKB.out _ HM.out.below) HKM.out
      cases e'
      rw [HNN.out] at z2
      have HM2 := hid (HM.out.cons (.cells #[.string (K k).nm, .slice (K k).ta (K k).tn (K k).tc, .slice (K k).ma vn (K k).mc] 40 (0, 0)) (by show 40 ≠ 3; decide))
      have hnk := (HM2.out.ex _ (List.mem_cons_self ..)).1
      have HNK := hid hnk
      obtain ⟨Xk, hXk⟩ : ∃ Xk, w4.heap.size = Xk := ⟨_, rfl⟩
      rw [hXk] at HM2 HNK
      go_upto_region 6 with fail
      clear m0 m9 z0 z1 z2 hnk hXk HM
      have HTA : Hid (∀ W, Below B w W → KdAt W (K k)) := hid (fun W hb => (HKB.out W hb k HKM.out).2)
      generalize World.alloc w4 _ = w5 at HM2 HNK ⊢
      have m9 := HM2.out.c9; have s1 := cell_of_row _ Xk 1 _ _ _ HNK.out
      have s2 := cell_of_row _ Xk 2 _ _ _ HNK.out
      simp only [List.getElem?_toArray, List.getElem?_cons_zero, List.getElem?_cons_succ] at s1 s2
      have m0 := HM2.out.c0; have m1 := HM2.out.c1; have m2 := HM2.out.c2; have m3 := HM2.out.c3; have m4 := HM2.out.c4; have m5 := HM2.out.c5; have m6 := HM2.out.c6; have m7 := HM2.out.c7; have m8 := HM2.out.c8
      have HY := HM2.out.ex _ (List.mem_cons_of_mem _ (List.mem_cons_self ..))
      have r0 : w5.cell? ⟨B + 1, 0, none⟩ = some (.int .i64 0) := cell_of_row _ (B + 1) 0 _ _ _ HY.1
      have r1 : w5.cell? ⟨B + 1, 1, none⟩ = some (.int .i64 0) := cell_of_row _ (B + 1) 1 _ _ _ HY.1
      have r2 : w5.cell? ⟨B + 1, 2, none⟩ = some (.int .i64 0) := cell_of_row _ (B + 1) 2 _ _ _ HY.1
      have r3 : w5.cell? ⟨B + 1, 3, none⟩ = some (.slice none 0 0) := cell_of_row _ (B + 1) 3 _ _ _ HY.1
      have r4 : w5.cell? ⟨B + 1, 4, none⟩ = some (.slice none 0 0) := cell_of_row _ (B + 1) 4 _ _ _ HY.1
      have r5 : w5.cell? ⟨B + 1, 5, none⟩ = some (.slice none 0 0) := cell_of_row _ (B + 1) 5 _ _ _ HY.1
      have r6 : w5.cell? ⟨B + 1, 6, none⟩ = some (.slice none 0 0) := cell_of_row _ (B + 1) 6 _ _ _ HY.1
      have r7 : w5.cell? ⟨B + 1, 7, none⟩ = some (.int .i64 0) := cell_of_row _ (B + 1) 7 _ _ _ HY.1
      have r8 : w5.cell? ⟨B + 1, 8, none⟩ = some (.int .i64 0) := cell_of_row _ (B + 1) 8 _ _ _ HY.1
      have r9 : w5.cell? ⟨B + 1, 9, none⟩ = some (.bool false) := cell_of_row _ (B + 1) 9 _ _ _ HY.1
      have fr : ∀ j, w5.frozen? ⟨B + 1, j, none⟩ = false := fun j => frozen_of_row _ (B + 1) j _ _ HY.1
      clear HY
      go_wp2_with fail
      obtain ⟨k1, k2, k3⟩ := HM2.out.out (Y := B + 1) (List.mem_cons_of_mem _ (List.mem_cons_self ..)) (by omega)
      clear r0 r1 r2 r3 r4 r5 r6 r7 r8 r9 fr m0 m1 m2 m3 m4 m5 m6 m7 m8 m9 s1 s2
      generalize World.setCell (World.setCell _ _ _) _ _ = w9 at k1 k2 k3 ⊢
      have q0 : w9.cell? ⟨B + 1, 0, none⟩ = some (.int .i64 (k : Int)) := cell_of_row _ (B + 1) 0 _ _ _ k2
      have q1 : w9.cell? ⟨B + 1, 1, none⟩ = some (.int .i64 t) := cell_of_row _ (B + 1) 1 _ _ _ k2
      have q2 : w9.cell? ⟨B + 1, 2, none⟩ = some (.int .i64 l) := cell_of_row _ (B + 1) 2 _ _ _ k2
      have q3 : w9.cell? ⟨B + 1, 3, none⟩ = some (.slice b1 vn e1) := cell_of_row _ (B + 1) 3 _ _ _ k2
      have q4 : w9.cell? ⟨B + 1, 4, none⟩ = some (.slice b2 vn e2) := cell_of_row _ (B + 1) 4 _ _ _ k2
      have q5 : w9.cell? ⟨B + 1, 5, none⟩ = some (.slice b3 vn e3) := cell_of_row _ (B + 1) 5 _ _ _ k2
      have q6 : w9.cell? ⟨B + 1, 6, none⟩ = some (.slice b4 vn e4) := cell_of_row _ (B + 1) 6 _ _ _ k2
      have q7 : w9.cell? ⟨B + 1, 7, none⟩ = some (.int .i64 g) := cell_of_row _ (B + 1) 7 _ _ _ k2
      have q8 : w9.cell? ⟨B + 1, 8, none⟩ = some (.int .i64 d) := cell_of_row _ (B + 1) 8 _ _ _ k2
      have q9 : w9.cell? ⟨B + 1, 9, none⟩ = some (.bool false) := cell_of_row _ (B + 1) 9 _ _ _ k2
      refine bodyPost_ret (v := .tuple #[.agg #[.int .i64 (k : Int), .int .i64 t, .int .i64 l, .slice b1 vn e1, .slice b2 vn e2, .slice b3 vn e3, .slice b4 vn e4, .int .i64 g, .int .i64 d, .bool false], .int .i64 0, .int .i64 0]) (by simp [results, Try.results22, go_sem, q0, q1, q2, q3, q4, q5, q6, q7, q8, q9]) rfl ?_
      exact ⟨⟨(k : Int), t, l, ⟨b1, vn, e1, sZ⟩, ⟨b2, vn, e2, rZ⟩, ⟨b3, vn, e3, mZ⟩, ⟨b4, vn, e4, vZ⟩, g, d, false⟩, rfl, own4_is (p := ⟨(k : Int), t, l, ⟨sa, vn, sc, sZ⟩, ⟨ra, vn, rc, rZ⟩, ⟨ma, vn, mc, mZ⟩, ⟨va, vn, vc, vZ⟩, g, d, false⟩) (HRT.out.pl.is) b1 b2 b3 b4 e1 e2 e3 e4, k3, k1⟩
    cases q
    · have hD := br_no (k := k) HF.out rfl (by rw [HTK.out]; simp)
      rw [HR.out] at hD
      obtain ⟨rfl, rfl, rfl⟩ : D = _ ∧ u = 0 ∧ r = 0 := by simpa using hD
      go_enter Try.func22, Try.ntmps22
      go_upto_region 1 with fail
      generalize World.alloc (World.alloc w _) _ = w1 at H0 ⊢
      have c0 := H0.out.c0; have c1 := H0.out.c1; have c2 := H0.out.c2; have c3 := H0.out.c3; have c4 := H0.out.c4; have c5 := H0.out.c5; have c6 := H0.out.c6; have c7 := H0.out.c7; have c8 := H0.out.c8; have c9 := H0.out.c9; have fb := H0.out.fb
      go_upto_region 2 with (go_at_call 43; refine (HV.out _ (HKB.out _ H0.out.below) H0.out.lists).mono ?_; rintro e w2 ⟨rfl, hb⟩; have H1 := hid (H0.out.stays hb); clear c0 c1 c2 c3 c4 c5 c6 c7 c8 c9 fb; clear hb)
      clear H0
      have c0 := H1.out.c0; have c1 := H1.out.c1; have c2 := H1.out.c2; have c3 := H1.out.c3; have c4 := H1.out.c4; have c5 := H1.out.c5; have c6 := H1.out.c6; have c7 := H1.out.c7; have c8 := H1.out.c8; have c9 := H1.out.c9; have fb := H1.out.fb
      go_upto_region 5 with (go_at_call 39; refine (HCP.out _ H1.out.lists).mono ?_; rintro e w3 ⟨b1, b2, b3, b4, e1, e2, e3, e4, he, hr4, hb⟩; have he : e = .returned (.agg #[.int .i64 (k : Int), .int .i64 t, .int .i64 l, .slice b1 vn e1, .slice b2 vn e2, .slice b3 vn e3, .slice b4 vn e4, .int .i64 g, .int .i64 d, .bool true]) := he; subst he; have H2 := hid (H1.out.stays hb); have hle := H1.out.le; have H1 := H2; clear c0 c1 c2 c3 c4 c5 c6 c7 c8 c9 fb; clear hb; have c0 := H1.out.c0; have c1 := H1.out.c1; have c2 := H1.out.c2; have c3 := H1.out.c3; have c4 := H1.out.c4; have c5 := H1.out.c5; have c6 := H1.out.c6; have c7 := H1.out.c7; have c8 := H1.out.c8; have c9 := H1.out.c9; have fb := H1.out.fb)
      have hr4 : R4 w3 w2.heap.size ⟨(k : Int), t, l, ⟨b1, vn, e1, sZ⟩, ⟨b2, vn, e2, rZ⟩, ⟨b3, vn, e3, mZ⟩, ⟨b4, vn, e4, vZ⟩, g, d, true⟩ := hr4
      have HM := hid (H1.out.own hr4 hle)
      clear c0 c1 c2 c3 c4 c5 c6 c7 c8 c9 fb hr4 H1 H2 hle
      generalize World.setCell (World.setCell _ _ _) _ _ = w4 at HM ⊢
      have m0 := HM.out.c0; have m9 := HM.out.c9
      obtain ⟨kb', koff', e', _, z0, z1, z2⟩ := kat (HKB.out _ HM.out.below) HKM.out
      cases e'
      rw [HNN.out] at z2
      have HM2 := hid (HM.out.cons (.cells #[.string (K k).nm, .slice (K k).ta (K k).tn (K k).tc, .slice (K k).ma vn (K k).mc] 40 (0, 0)) (by show 40 ≠ 3; decide))
      have hnk := (HM2.out.ex _ (List.mem_cons_self ..)).1
      have HNK := hid hnk
      obtain ⟨Xk, hXk⟩ : ∃ Xk, w4.heap.size = Xk := ⟨_, rfl⟩
      rw [hXk] at HM2 HNK
      go_upto_region 6 with fail
      clear m0 m9 z0 z1 z2 hnk hXk HM
      have HTA : Hid (∀ W, Below B w W → KdAt W (K k)) := hid (fun W hb => (HKB.out W hb k HKM.out).2)
      generalize World.alloc w4 _ = w5 at HM2 HNK ⊢
      have m9 := HM2.out.c9; have s1 := cell_of_row _ Xk 1 _ _ _ HNK.out
      have s2 := cell_of_row _ Xk 2 _ _ _ HNK.out
      simp only [List.getElem?_toArray, List.getElem?_cons_zero, List.getElem?_cons_succ] at s1 s2
      have m0 := HM2.out.c0; have m1 := HM2.out.c1; have m2 := HM2.out.c2; have m3 := HM2.out.c3; have m4 := HM2.out.c4; have m5 := HM2.out.c5; have m6 := HM2.out.c6; have m7 := HM2.out.c7; have m8 := HM2.out.c8
      have HY := HM2.out.ex _ (List.mem_cons_of_mem _ (List.mem_cons_self ..))
      have r0 : w5.cell? ⟨B + 1, 0, none⟩ = some (.int .i64 0) := cell_of_row _ (B + 1) 0 _ _ _ HY.1
      have r1 : w5.cell? ⟨B + 1, 1, none⟩ = some (.int .i64 0) := cell_of_row _ (B + 1) 1 _ _ _ HY.1
      have r2 : w5.cell? ⟨B + 1, 2, none⟩ = some (.int .i64 0) := cell_of_row _ (B + 1) 2 _ _ _ HY.1
      have r3 : w5.cell? ⟨B + 1, 3, none⟩ = some (.slice none 0 0) := cell_of_row _ (B + 1) 3 _ _ _ HY.1
      have r4 : w5.cell? ⟨B + 1, 4, none⟩ = some (.slice none 0 0) := cell_of_row _ (B + 1) 4 _ _ _ HY.1
      have r5 : w5.cell? ⟨B + 1, 5, none⟩ = some (.slice none 0 0) := cell_of_row _ (B + 1) 5 _ _ _ HY.1
      have r6 : w5.cell? ⟨B + 1, 6, none⟩ = some (.slice none 0 0) := cell_of_row _ (B + 1) 6 _ _ _ HY.1
      have r7 : w5.cell? ⟨B + 1, 7, none⟩ = some (.int .i64 0) := cell_of_row _ (B + 1) 7 _ _ _ HY.1
      have r8 : w5.cell? ⟨B + 1, 8, none⟩ = some (.int .i64 0) := cell_of_row _ (B + 1) 8 _ _ _ HY.1
      have r9 : w5.cell? ⟨B + 1, 9, none⟩ = some (.bool false) := cell_of_row _ (B + 1) 9 _ _ _ HY.1
      have fr : ∀ j, w5.frozen? ⟨B + 1, j, none⟩ = false := fun j => frozen_of_row _ (B + 1) j _ _ HY.1
      clear HY
      go_wp2_with (go_at_call 44; refine (HCT.out _ (HTA.out _ HM2.out.below).t).mono ?_; rintro e w6 ⟨rfl, rfl⟩)
      obtain ⟨k1, k2, k3⟩ := HM2.out.out (Y := B + 1) (List.mem_cons_of_mem _ (List.mem_cons_self ..)) (by omega)
      clear r0 r1 r2 r3 r4 r5 r6 r7 r8 r9 fr m0 m1 m2 m3 m4 m5 m6 m7 m8 m9 s1 s2
      generalize World.setCell (World.setCell _ _ _) _ _ = w9 at k1 k2 k3 ⊢
      have q0 : w9.cell? ⟨B + 1, 0, none⟩ = some (.int .i64 (k : Int)) := cell_of_row _ (B + 1) 0 _ _ _ k2
      have q1 : w9.cell? ⟨B + 1, 1, none⟩ = some (.int .i64 t) := cell_of_row _ (B + 1) 1 _ _ _ k2
      have q2 : w9.cell? ⟨B + 1, 2, none⟩ = some (.int .i64 l) := cell_of_row _ (B + 1) 2 _ _ _ k2
      have q3 : w9.cell? ⟨B + 1, 3, none⟩ = some (.slice b1 vn e1) := cell_of_row _ (B + 1) 3 _ _ _ k2
      have q4 : w9.cell? ⟨B + 1, 4, none⟩ = some (.slice b2 vn e2) := cell_of_row _ (B + 1) 4 _ _ _ k2
      have q5 : w9.cell? ⟨B + 1, 5, none⟩ = some (.slice b3 vn e3) := cell_of_row _ (B + 1) 5 _ _ _ k2
      have q6 : w9.cell? ⟨B + 1, 6, none⟩ = some (.slice b4 vn e4) := cell_of_row _ (B + 1) 6 _ _ _ k2
      have q7 : w9.cell? ⟨B + 1, 7, none⟩ = some (.int .i64 g) := cell_of_row _ (B + 1) 7 _ _ _ k2
      have q8 : w9.cell? ⟨B + 1, 8, none⟩ = some (.int .i64 d) := cell_of_row _ (B + 1) 8 _ _ _ k2
      have q9 : w9.cell? ⟨B + 1, 9, none⟩ = some (.bool true) := cell_of_row _ (B + 1) 9 _ _ _ k2
      refine bodyPost_ret (v := .tuple #[.agg #[.int .i64 (k : Int), .int .i64 t, .int .i64 l, .slice b1 vn e1, .slice b2 vn e2, .slice b3 vn e3, .slice b4 vn e4, .int .i64 g, .int .i64 d, .bool true], .int .i64 0, .int .i64 0]) (by simp [results, Try.results22, go_sem, q0, q1, q2, q3, q4, q5, q6, q7, q8, q9]) rfl ?_
      exact ⟨⟨(k : Int), t, l, ⟨b1, vn, e1, sZ⟩, ⟨b2, vn, e2, rZ⟩, ⟨b3, vn, e3, mZ⟩, ⟨b4, vn, e4, vZ⟩, g, d, true⟩, rfl, own4_is (p := ⟨(k : Int), t, l, ⟨sa, vn, sc, sZ⟩, ⟨ra, vn, rc, rZ⟩, ⟨ma, vn, mc, mZ⟩, ⟨va, vn, vc, vZ⟩, g, d, true⟩) (HRT.out.pl.is) b1 b2 b3 b4 e1 e2 e3 e4, k3, k1⟩
    have hD := br_yes (k := k) HF.out rfl rfl HTK.out
    rw [HR.out] at hD
    obtain ⟨rfl, rfl, rfl⟩ : D = _ ∧ n = u ∧ r = 0 := by have h := hD; simp only [Prod.mk.injEq] at h; exact ⟨h.1, h.2.1.symm, h.2.2⟩
    go_enter Try.func22, Try.ntmps22
    go_upto_region 1 with fail
    generalize World.alloc (World.alloc w _) _ = w1 at H0 ⊢
    have c0 := H0.out.c0; have c1 := H0.out.c1; have c2 := H0.out.c2; have c3 := H0.out.c3; have c4 := H0.out.c4; have c5 := H0.out.c5; have c6 := H0.out.c6; have c7 := H0.out.c7; have c8 := H0.out.c8; have c9 := H0.out.c9; have fb := H0.out.fb
    go_upto_region 2 with (go_at_call 43; refine (HV.out _ (HKB.out _ H0.out.below) H0.out.lists).mono ?_; rintro e w2 ⟨rfl, hb⟩; have H1 := hid (H0.out.stays hb); clear c0 c1 c2 c3 c4 c5 c6 c7 c8 c9 fb; clear hb)
    clear H0
    have c0 := H1.out.c0; have c1 := H1.out.c1; have c2 := H1.out.c2; have c3 := H1.out.c3; have c4 := H1.out.c4; have c5 := H1.out.c5; have c6 := H1.out.c6; have c7 := H1.out.c7; have c8 := H1.out.c8; have c9 := H1.out.c9; have fb := H1.out.fb
    go_upto_region 5 with (go_at_call 39; refine (HCP.out _ H1.out.lists).mono ?_; rintro e w3 ⟨b1, b2, b3, b4, e1, e2, e3, e4, he, hr4, hb⟩; have he : e = .returned (.agg #[.int .i64 (k : Int), .int .i64 t, .int .i64 l, .slice b1 vn e1, .slice b2 vn e2, .slice b3 vn e3, .slice b4 vn e4, .int .i64 g, .int .i64 d, .bool true]) := he; subst he; have H2 := hid (H1.out.stays hb); have hle := H1.out.le; have H1 := H2; clear c0 c1 c2 c3 c4 c5 c6 c7 c8 c9 fb; clear hb; have c0 := H1.out.c0; have c1 := H1.out.c1; have c2 := H1.out.c2; have c3 := H1.out.c3; have c4 := H1.out.c4; have c5 := H1.out.c5; have c6 := H1.out.c6; have c7 := H1.out.c7; have c8 := H1.out.c8; have c9 := H1.out.c9; have fb := H1.out.fb)
    have hr4 : R4 w3 w2.heap.size ⟨(k : Int), t, l, ⟨b1, vn, e1, sZ⟩, ⟨b2, vn, e2, rZ⟩, ⟨b3, vn, e3, mZ⟩, ⟨b4, vn, e4, vZ⟩, g, d, true⟩ := hr4
    have HM := hid (H1.out.own hr4 hle)
    clear c0 c1 c2 c3 c4 c5 c6 c7 c8 c9 fb hr4 H1 H2 hle
    generalize World.setCell (World.setCell _ _ _) _ _ = w4 at HM ⊢
    have m0 := HM.out.c0; have m9 := HM.out.c9
    obtain ⟨kb', koff', e', _, z0, z1, z2⟩ := kat (HKB.out _ HM.out.below) HKM.out
    cases e'
    rw [HNN.out] at z2
    have HM2 := hid (HM.out.cons (.cells #[.string (K k).nm, .slice (K k).ta (K k).tn (K k).tc, .slice (K k).ma vn (K k).mc] 40 (0, 0)) (by show 40 ≠ 3; decide))
    have hnk := (HM2.out.ex _ (List.mem_cons_self ..)).1
    have HNK := hid hnk
    obtain ⟨Xk, hXk⟩ : ∃ Xk, w4.heap.size = Xk := ⟨_, rfl⟩
    rw [hXk] at HM2 HNK
    go_upto_region 6 with fail
    clear m0 m9 z0 z1 z2 hnk hXk HM
    have HTA : Hid (∀ W, Below B w W → KdAt W (K k)) := hid (fun W hb => (HKB.out W hb k HKM.out).2)
    generalize World.alloc w4 _ = w5 at HM2 HNK ⊢
    have m9 := HM2.out.c9; have s1 := cell_of_row _ Xk 1 _ _ _ HNK.out
    have s2 := cell_of_row _ Xk 2 _ _ _ HNK.out
    simp only [List.getElem?_toArray, List.getElem?_cons_zero, List.getElem?_cons_succ] at s1 s2
    go_upto_region 8 with (go_at_call 44; refine (HCT.out _ (HTA.out _ HM2.out.below).t).mono ?_; rintro e w6 ⟨rfl, rfl⟩)
    clear m9 s1
    go_wp2_with fail
    clear s2
    have HA : Hid (∀ j, j < vn → 1 ≤ (K k).A j ∧ (K k).A j ≤ 1000) := hid (fun j hj => HRT.out.ks.A k HKM.out j (by rw [HNN.out]; exact hj))
    have HSZ : Hid (∀ j, j < vn → 0 ≤ sZ j ∧ sZ j ≤ 1000000) := hid (fun j hj => HRT.out.pl.st.z j (by rw [HNN.out]; exact hj))
    have HRZ : Hid (∀ j, j < vn → 0 ≤ rZ j ∧ rZ j ≤ 7) := hid (fun j hj => HRT.out.pl.re.z j (by rw [HNN.out]; exact hj))
    have HMZ : Hid (∀ j, j < vn → 0 ≤ mZ j ∧ mZ j ≤ 1000000) := hid (fun j hj => HRT.out.pl.ma.z j (by rw [HNN.out]; exact hj))
    have hvn : vn ≤ 1000 := by have := HRT.out.ks.mn k HKM.out; rw [HNN.out] at this; omega
    have HL0 : Hid (MP ⟨(k : Int), t, l, ⟨b1, vn, e1, mixF (brS (K k).A rZ sZ n) sZ 0⟩, ⟨b2, vn, e2, mixF (brR (K k).A rZ n) rZ 0⟩, ⟨b3, vn, e3, mixF (brS (K k).A rZ mZ n) mZ 0⟩, ⟨b4, vn, e4, vZ⟩, g, d, true⟩ B (B + 2) B [(B + 1, zeroBox)] w w5) := hid (by rw [mixF_zero, mixF_zero, mixF_zero]; exact HM2.out.sub (fun x hx => List.mem_cons_of_mem _ hx))
    clear HM2 HNK HCT HTK
    go_loopw [46] (fun iv wr => ∃ i : Nat, i ≤ vn ∧ iv = .int .i64 i ∧ Hid (MP ⟨(k : Int), t, l, ⟨b1, vn, e1, mixF (brS (K k).A rZ sZ n) sZ i⟩, ⟨b2, vn, e2, mixF (brR (K k).A rZ n) rZ i⟩, ⟨b3, vn, e3, mixF (brS (K k).A rZ mZ n) mZ i⟩, ⟨b4, vn, e4, vZ⟩, g, d, true⟩ B (B + 2) B [(B + 1, zeroBox)] w wr)) (fun iv _ => vn - (intOf iv).toNat)
    case atStart => exact ⟨0, Nat.zero_le _, rfl, HL0⟩
    case round =>
      clear HL0
      obtain ⟨i, hi, rfl, HM⟩ := hrel
      by_cases hlt : i < vn
      · have hiv : (i : Int) < (vn : Int) := by omega
        obtain ⟨mb, moff, me, _, a0, a1⟩ := mat (HTA.out _ HM.out.below).m (j := i) (by rw [HNN.out]; exact hlt)
        obtain ⟨g1, y1, f1, _, _⟩ := HM.out.r4.st.form (show 0 < vn by omega)
        obtain ⟨g2, y2, f2, _, _⟩ := HM.out.r4.re.form (show 0 < vn by omega)
        obtain ⟨g3, y3, f3, _, _⟩ := HM.out.r4.ma.form (show 0 < vn by omega)
        obtain ⟨rfl, rfl⟩ : b1 = some ⟨g1, 0, none⟩ ∧ e1 = y1 := by simpa using f1
        obtain ⟨rfl, rfl⟩ : b2 = some ⟨g2, 0, none⟩ ∧ e2 = y2 := by simpa using f2
        obtain ⟨rfl, rfl⟩ : b3 = some ⟨g3, 0, none⟩ ∧ e3 = y3 := by simpa using f3
        have hA := HA.out i hlt; have hS := HSZ.out i hlt; have hR := HRZ.out i hlt; have hM := HMZ.out i hlt
        have hx1 : brX (K k).A rZ n i = rZ i + n * (K k).A i := rfl
        have hs1 : brS (K k).A rZ sZ n i = min (sZ i + brX (K k).A rZ n i / 8) 1000000 := rfl
        have hm1 : brS (K k).A rZ mZ n i = min (mZ i + brX (K k).A rZ n i / 8) 1000000 := rfl
        have hr1 : brR (K k).A rZ n i = brX (K k).A rZ n i % 8 := rfl
        obtain ⟨am, ham⟩ : ∃ x, (K k).A i = x := ⟨_, rfl⟩
        obtain ⟨cg, hcg⟩ : ∃ x, (K k).C i = x := ⟨_, rfl⟩
        obtain ⟨s0, hs0⟩ : ∃ x, sZ i = x := ⟨_, rfl⟩
        obtain ⟨r0, hr0⟩ : ∃ x, rZ i = x := ⟨_, rfl⟩
        obtain ⟨m0, hm0⟩ : ∃ x, mZ i = x := ⟨_, rfl⟩
        obtain ⟨xx, hxx⟩ : ∃ x, brX (K k).A rZ n i = x := ⟨_, rfl⟩
        obtain ⟨s9, hs9⟩ : ∃ x, brS (K k).A rZ sZ n i = x := ⟨_, rfl⟩
        obtain ⟨m9, hm9⟩ : ∃ x, brS (K k).A rZ mZ n i = x := ⟨_, rfl⟩
        obtain ⟨r9, hr9⟩ : ∃ x, brR (K k).A rZ n i = x := ⟨_, rfl⟩
        rw [hxx, hr0, ham] at hx1; rw [hs9, hs0, hxx] at hs1; rw [hm9, hm0, hxx] at hm1; rw [hr9, hxx] at hr1
        rw [ham] at hA a1; rw [hcg] at a0; rw [hs0] at hS; rw [hr0] at hR; rw [hm0] at hM
        obtain ⟨pr, hpr⟩ : ∃ x, n * am = x := ⟨_, rfl⟩
        rw [hpr] at hx1
        have hpb : 0 ≤ pr ∧ pr ≤ 1000000000 := by rw [← hpr]; exact ⟨Int.mul_nonneg hn.1 (by omega), by have h1 : n * am ≤ 1000000 * am := Int.mul_le_mul_of_nonneg_right hn.2 (by omega); omega⟩
        obtain ⟨qq, hqq⟩ : ∃ x, xx / 8 = x := ⟨_, rfl⟩
        have t1 : Int.tdiv xx 8 = qq := by rw [← hqq]; exact Int.tdiv_eq_ediv_of_nonneg (by omega)
        have t2 : Int.tmod xx 8 = r9 := by rw [hr1]; exact Int.tmod_eq_emod_of_nonneg (by omega)
        rw [hqq] at hs1 hm1
        have hqb : 0 ≤ qq ∧ qq ≤ 1000000000 := by omega
        have w1' : IntKind.i64.wrap pr = pr := by rw [IntKind.wrap_i64]; omega
        have w2' : IntKind.i64.wrap (r0 + pr) = xx := by rw [IntKind.wrap_i64]; omega
        have w3' : IntKind.i64.wrap qq = qq := by rw [IntKind.wrap_i64]; omega
        have w4' : IntKind.i64.wrap r9 = r9 := by rw [IntKind.wrap_i64]; omega
        have HG1 := hid (fun W => grown_any s0 qq s9 (by omega) (by omega) hs1.symm W)
        have HG2 := hid (fun W => grown_any m0 qq m9 (by omega) (by omega) hm1.symm W)
        have HS9 := hid hs9; have HM9 := hid hm9; have HR9 := hid hr9; have HHS := hid hs0; have HHM := hid hm0; have HHR := hid hr0
        have HM1 := hid (HM.out.cons (makeBox cg am) (by show 42 ≠ 3; decide))
        have HNM := hid ((HM1.out.ex _ (List.mem_cons_self ..)).1)
        obtain ⟨Xm, hXm⟩ : ∃ Xm, wr.heap.size = Xm := ⟨_, rfl⟩
        rw [hXm] at HM1 HNM
        clear hs9 hm9 hr9 hs0 hm0 hr0 hxx ham hcg hA hS hR hM hx1 hs1 hm1 hr1 hqq hpb hqb f1 f2 f3
        go_upto_region 11 with fail
        clear a0 a1 hXm HM me
        generalize World.alloc wr _ = w6 at HM1 HNM ⊢
        have p4 := HM1.out.c4
        have q4 : w6.cell? ⟨g2, i, none⟩ = some (.int .i64 r0) := by have h := RowI.at HM1.out.r4.re hlt; dsimp only at h; rw [mixF_at, HHR.out] at h; exact h
        have d1 : w6.cell? ⟨Xm, 1, none⟩ = some (.int .i64 am) := cell_of_row _ Xm 1 _ _ _ HNM.out
        go_quiet (fail)
        have HM2 := hid (HM1.out.sub (E' := [(B + 1, zeroBox)]) (fun x hx => List.mem_cons_of_mem _ hx))
        have HM3 := hid (HM2.out.stays (w' := World.drewN w6 nq) (Joins.below_draws _ _ _))
        clear p4 q4 d1 HM1 HM2 HNM
        go_upto_region 12 with fail
        generalize World.drewN w6 nq = w7 at HM3 ⊢
        have p3 := HM3.out.c3
        have q3 : w7.cell? ⟨g1, i, none⟩ = some (.int .i64 s0) := by have h := RowI.at HM3.out.r4.st hlt; dsimp only at h; rw [mixF_at, HHS.out] at h; exact h
        have f3 : w7.frozen? ⟨g1, i, none⟩ = false := World.ownsRow.frozenAt HM3.out.r4.st i
        have hm' := HM3.out.put_st rfl i s9
        rw [mixF_succ _ _ _ HS9.out.symm] at hm'
        have HM4 := hid (hm'.stays ((Below.refl _ _).drew))
        clear hm'
        go_cut [] (fun wx => Hid (MP ⟨(k : Int), t, l, ⟨some ⟨g1, 0, none⟩, vn, e1, mixF (brS (K k).A rZ sZ n) sZ (i + 1)⟩, ⟨some ⟨g2, 0, none⟩, vn, e2, mixF (brR (K k).A rZ n) rZ i⟩, ⟨some ⟨g3, 0, none⟩, vn, e3, mixF (brS (K k).A rZ mZ n) mZ i⟩, ⟨b4, vn, e4, vZ⟩, g, d, true⟩ B (B + 2) B [(B + 1, zeroBox)] w wx))
        case first =>
          go_region_with (go_at_call 41; refine (HG1.out _).mono ?_; rintro e wx ⟨rfl, rfl⟩)
          all_goals go_wp2_with fail
          all_goals go_meet
          all_goals exact HM4
        case rest =>
          clear p3 q3 f3 HM3 HM4
          have HM4 := hcut
          clear hcut
          obtain ⟨w8, hwc⟩ : ∃ x, x = wc := ⟨_, rfl⟩
          rw [← hwc] at HM4 ⊢
          clear hwc
          go_upto_region 13 with fail
          have p5 := HM4.out.c5
          have q5 : w8.cell? ⟨g3, i, none⟩ = some (.int .i64 m0) := by have h := RowI.at HM4.out.r4.ma hlt; dsimp only at h; rw [mixF_at, HHM.out] at h; exact h
          have f5 : w8.frozen? ⟨g3, i, none⟩ = false := World.ownsRow.frozenAt HM4.out.r4.ma i
          have hm' := HM4.out.put_ma rfl i m9
          rw [mixF_succ _ _ _ HM9.out.symm] at hm'
          have HM5 := hid (hm'.stays ((Below.refl _ _).drew))
          clear hm'
          go_cut [] (fun wx => Hid (MP ⟨(k : Int), t, l, ⟨some ⟨g1, 0, none⟩, vn, e1, mixF (brS (K k).A rZ sZ n) sZ (i + 1)⟩, ⟨some ⟨g2, 0, none⟩, vn, e2, mixF (brR (K k).A rZ n) rZ i⟩, ⟨some ⟨g3, 0, none⟩, vn, e3, mixF (brS (K k).A rZ mZ n) mZ (i + 1)⟩, ⟨b4, vn, e4, vZ⟩, g, d, true⟩ B (B + 2) B [(B + 1, zeroBox)] w wx))
          case first =>
            go_region_with (go_at_call 41; refine (HG2.out _).mono ?_; rintro e wx ⟨rfl, rfl⟩)
            all_goals go_wp2_with fail
            all_goals go_meet
            all_goals exact HM5
          case rest =>
            clear p5 q5 f5 HM4 HM5
            have HM5 := hcut
            clear hcut
            obtain ⟨w9, hwc⟩ : ∃ x, x = wc := ⟨_, rfl⟩
            rw [← hwc] at HM5 ⊢
            clear hwc
            go_upto_region 14 with fail
            have p4 := HM5.out.c4
            have q4 : w9.cell? ⟨g2, i, none⟩ = some (.int .i64 r0) := by have h := RowI.at HM5.out.r4.re hlt; dsimp only at h; rw [mixF_at, HHR.out] at h; exact h
            have f4 : w9.frozen? ⟨g2, i, none⟩ = false := World.ownsRow.frozenAt HM5.out.r4.re i
            have hm' := HM5.out.put_re rfl i r9
            rw [mixF_succ _ _ _ HR9.out.symm] at hm'
            have HM6 := hid hm'
            clear hm'
            go_wp2_with fail
            clear p4 q4 f4 HM5
            go_roundw
            case rel => exact ⟨i + 1, by omega, by go_num, HM6⟩
            case measure => simp [intOf]; omega
      · obtain rfl : vn = i := by omega
        obtain ⟨gg, hgg⟩ : ∃ x, min (g + n) 1000000 = x := ⟨_, rfl⟩
        have hgb := HRT.out.pl.g
        dsimp only at hgb
        have HG3 := hid (fun W => grown_any g n gg (by omega) (by omega) hgg W)
        have HGG := hid hgg
        have m7 := HM.out.c7; have f7 := HM.out.fz 7
        have hm' := hid (HM.out.set_g gg)
        clear hgg hgb
        go_upto_region 17 with (go_at_call 41; refine (HG3.out _).mono ?_; rintro e wx ⟨rfl, rfl⟩)
        clear m7 f7 HM
        generalize World.setCell wr _ _ = w5 at hm' ⊢
        have HM2 := hm'
        have m0 := HM2.out.c0
        have m1 := HM2.out.c1
        have m2 := HM2.out.c2
        have m3 := HM2.out.c3
        have m4 := HM2.out.c4
        have m5 := HM2.out.c5
        have m6 := HM2.out.c6
        have m7 := HM2.out.c7
        have m8 := HM2.out.c8
        have m9 := HM2.out.c9
        have HY := HM2.out.ex _ (List.mem_cons_self ..)
        have r0 : w5.cell? ⟨B + 1, 0, none⟩ = some (.int .i64 0) := cell_of_row _ (B + 1) 0 _ _ _ HY.1
        have r1 : w5.cell? ⟨B + 1, 1, none⟩ = some (.int .i64 0) := cell_of_row _ (B + 1) 1 _ _ _ HY.1
        have r2 : w5.cell? ⟨B + 1, 2, none⟩ = some (.int .i64 0) := cell_of_row _ (B + 1) 2 _ _ _ HY.1
        have r3 : w5.cell? ⟨B + 1, 3, none⟩ = some (.slice none 0 0) := cell_of_row _ (B + 1) 3 _ _ _ HY.1
        have r4 : w5.cell? ⟨B + 1, 4, none⟩ = some (.slice none 0 0) := cell_of_row _ (B + 1) 4 _ _ _ HY.1
        have r5 : w5.cell? ⟨B + 1, 5, none⟩ = some (.slice none 0 0) := cell_of_row _ (B + 1) 5 _ _ _ HY.1
        have r6 : w5.cell? ⟨B + 1, 6, none⟩ = some (.slice none 0 0) := cell_of_row _ (B + 1) 6 _ _ _ HY.1
        have r7 : w5.cell? ⟨B + 1, 7, none⟩ = some (.int .i64 0) := cell_of_row _ (B + 1) 7 _ _ _ HY.1
        have r8 : w5.cell? ⟨B + 1, 8, none⟩ = some (.int .i64 0) := cell_of_row _ (B + 1) 8 _ _ _ HY.1
        have r9 : w5.cell? ⟨B + 1, 9, none⟩ = some (.bool false) := cell_of_row _ (B + 1) 9 _ _ _ HY.1
        have fr : ∀ j, w5.frozen? ⟨B + 1, j, none⟩ = false := fun j => frozen_of_row _ (B + 1) j _ _ HY.1
        clear HY
        go_wp2_with fail
        obtain ⟨k1, k2, k3⟩ := HM2.out.out (Y := B + 1) (List.mem_cons_self ..) (by omega)
        clear r0 r1 r2 r3 r4 r5 r6 r7 r8 r9 fr m0 m1 m2 m3 m4 m5 m6 m7 m8 m9
        generalize World.setCell (World.setCell _ _ _) _ _ = w9 at k1 k2 k3 ⊢
        have q0 : w9.cell? ⟨B + 1, 0, none⟩ = some (.int .i64 (k : Int)) := cell_of_row _ (B + 1) 0 _ _ _ k2
        have q1 : w9.cell? ⟨B + 1, 1, none⟩ = some (.int .i64 t) := cell_of_row _ (B + 1) 1 _ _ _ k2
        have q2 : w9.cell? ⟨B + 1, 2, none⟩ = some (.int .i64 l) := cell_of_row _ (B + 1) 2 _ _ _ k2
        have q3 : w9.cell? ⟨B + 1, 3, none⟩ = some (.slice b1 vn e1) := cell_of_row _ (B + 1) 3 _ _ _ k2
        have q4 : w9.cell? ⟨B + 1, 4, none⟩ = some (.slice b2 vn e2) := cell_of_row _ (B + 1) 4 _ _ _ k2
        have q5 : w9.cell? ⟨B + 1, 5, none⟩ = some (.slice b3 vn e3) := cell_of_row _ (B + 1) 5 _ _ _ k2
        have q6 : w9.cell? ⟨B + 1, 6, none⟩ = some (.slice b4 vn e4) := cell_of_row _ (B + 1) 6 _ _ _ k2
        have q7 : w9.cell? ⟨B + 1, 7, none⟩ = some (.int .i64 gg) := cell_of_row _ (B + 1) 7 _ _ _ k2
        have q8 : w9.cell? ⟨B + 1, 8, none⟩ = some (.int .i64 d) := cell_of_row _ (B + 1) 8 _ _ _ k2
        have q9 : w9.cell? ⟨B + 1, 9, none⟩ = some (.bool true) := cell_of_row _ (B + 1) 9 _ _ _ k2
        refine bodyPost_ret (v := .tuple #[.agg #[.int .i64 (k : Int), .int .i64 t, .int .i64 l, .slice b1 vn e1, .slice b2 vn e2, .slice b3 vn e3, .slice b4 vn e4, .int .i64 gg, .int .i64 d, .bool true], .int .i64 n, .int .i64 0]) (by simp [results, Try.results22, go_sem, q0, q1, q2, q3, q4, q5, q6, q7, q8, q9]) rfl ?_
        refine ⟨⟨(k : Int), t, l, ⟨b1, vn, e1, mixF (brS (K k).A rZ sZ n) sZ vn⟩, ⟨b2, vn, e2, mixF (brR (K k).A rZ n) rZ vn⟩, ⟨b3, vn, e3, mixF (brS (K k).A rZ mZ n) mZ vn⟩, ⟨b4, vn, e4, vZ⟩, gg, d, true⟩, rfl, ?_, k3, k1⟩
        exact ⟨rfl, rfl, rfl, ⟨HNN.out.symm, fun j hj => mixF_end (by rw [← HNN.out]; exact hj)⟩, ⟨HNN.out.symm, fun j hj => mixF_end (by rw [← HNN.out]; exact hj)⟩, ⟨HNN.out.symm, fun j hj => mixF_end (by rw [← HNN.out]; exact hj)⟩, ⟨HNN.out.symm, fun j hj => rfl⟩, HGG.out.symm, rfl, rfl⟩
  · have hD := br_f HF.out h0
    rw [HR.out] at hD
    obtain ⟨rfl, rfl, rfl⟩ : D = zeroD ∧ u = 0 ∧ r = f := by simpa using hD
    have hf0 : (r != 0) = true := by simpa using h0
    go_enter Try.func22, Try.ntmps22
    go_upto_region 1 with fail
    generalize World.alloc (World.alloc w _) _ = w1 at H0 ⊢
    have c0 := H0.out.c0; have c1 := H0.out.c1; have c2 := H0.out.c2; have c3 := H0.out.c3; have c4 := H0.out.c4; have c5 := H0.out.c5; have c6 := H0.out.c6; have c7 := H0.out.c7; have c8 := H0.out.c8; have c9 := H0.out.c9; have fb := H0.out.fb
    go_upto_region 2 with (go_at_call 43; refine (HV.out _ (HKB.out _ H0.out.below) H0.out.lists).mono ?_; rintro e w2 ⟨rfl, hb⟩; have H1 := hid (H0.out.stays hb); clear c0 c1 c2 c3 c4 c5 c6 c7 c8 c9 fb; clear hb)
    clear H0
    have r0 := H1.out.r0; have r1 := H1.out.r1; have r2 := H1.out.r2; have r3 := H1.out.r3; have r4 := H1.out.r4; have r5 := H1.out.r5; have r6 := H1.out.r6; have r7 := H1.out.r7; have r8 := H1.out.r8; have r9 := H1.out.r9; have fr := H1.out.fr
    go_wp2_with fail
    have k1 := set10_below (g := B + 1) H1.out.below (Nat.le_succ _) (.int .i64 0) (.int .i64 0) (.int .i64 0) (.slice none 0 0) (.slice none 0 0) (.slice none 0 0) (.slice none 0 0) (.int .i64 0) (.int .i64 0) (.bool false)
    have k2 := set10 H1.out.br (.int .i64 0) (.int .i64 0) (.int .i64 0) (.slice none 0 0) (.slice none 0 0) (.slice none 0 0) (.slice none 0 0) (.int .i64 0) (.int .i64 0) (.bool false)
    have k3 : True := trivial
    clear r0 r1 r2 r3 r4 r5 r6 r7 r8 r9 fr
    generalize World.setCell (World.setCell _ _ _) _ _ = w9 at k1 k2 k3 ⊢
    have q0 : w9.cell? ⟨B + 1, 0, none⟩ = some (.int .i64 0) := cell_of_row _ (B + 1) 0 _ _ _ k2
    have q1 : w9.cell? ⟨B + 1, 1, none⟩ = some (.int .i64 0) := cell_of_row _ (B + 1) 1 _ _ _ k2
    have q2 : w9.cell? ⟨B + 1, 2, none⟩ = some (.int .i64 0) := cell_of_row _ (B + 1) 2 _ _ _ k2
    have q3 : w9.cell? ⟨B + 1, 3, none⟩ = some (.slice none 0 0) := cell_of_row _ (B + 1) 3 _ _ _ k2
    have q4 : w9.cell? ⟨B + 1, 4, none⟩ = some (.slice none 0 0) := cell_of_row _ (B + 1) 4 _ _ _ k2
    have q5 : w9.cell? ⟨B + 1, 5, none⟩ = some (.slice none 0 0) := cell_of_row _ (B + 1) 5 _ _ _ k2
    have q6 : w9.cell? ⟨B + 1, 6, none⟩ = some (.slice none 0 0) := cell_of_row _ (B + 1) 6 _ _ _ k2
    have q7 : w9.cell? ⟨B + 1, 7, none⟩ = some (.int .i64 0) := cell_of_row _ (B + 1) 7 _ _ _ k2
    have q8 : w9.cell? ⟨B + 1, 8, none⟩ = some (.int .i64 0) := cell_of_row _ (B + 1) 8 _ _ _ k2
    have q9 : w9.cell? ⟨B + 1, 9, none⟩ = some (.bool false) := cell_of_row _ (B + 1) 9 _ _ _ k2
    refine bodyPost_ret (v := .tuple #[.agg #[.int .i64 0, .int .i64 0, .int .i64 0, .slice none 0 0, .slice none 0 0, .slice none 0 0, .slice none 0 0, .int .i64 0, .int .i64 0, .bool false], .int .i64 0, .int .i64 r]) (by simp [results, Try.results22, go_sem, q0, q1, q2, q3, q4, q5, q6, q7, q8, q9]) rfl ?_
    exact ⟨zeroP, rfl, zero_is, zero_r4 _ _, k1⟩
end Go.Proofs.Ytnhkblkijiipeaa
