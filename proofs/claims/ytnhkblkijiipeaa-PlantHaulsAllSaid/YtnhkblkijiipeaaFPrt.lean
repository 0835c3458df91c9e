/-
  What is given in two goes, as numbers.
-/
import Derived.Test.YtnhkblkijiipeaaFBrg
namespace Go.Proofs.Ytnhkblkijiipeaa
open Go.RowKit

/-- Two plants say the same. -/
structure DEq (d d' : Da) : Prop where
  k : d.k = d'.k
  t : d.t = d'.t
  l : d.l = d'.l
  n : d.n = d'.n
  S : ∀ j, j < d'.n → d.S j = d'.S j
  R : ∀ j, j < d'.n → d.R j = d'.R j
  M : ∀ j, j < d'.n → d.M j = d'.M j
  V : ∀ j, j < d'.n → d.V j = d'.V j
  g : d.g = d'.g
  i : d.i = d'.i
  o : d.o = d'.o
theorem LIs.eq {l : Li} {n n' : Nat} {Z Z' : Nat → Int} (h : LIs l n Z) (e : n = n') (hz : ∀ j, j < n' → Z j = Z' j) : LIs l n' Z' := ⟨h.len.trans e, fun j hj => (h.at' j (by omega)).trans (hz j hj)⟩
theorem Is.eq {p : Pl} {d d' : Da} (h : Is p d) (e : DEq d d') : Is p d' :=
  ⟨h.k.trans e.k, h.t.trans e.t, h.l.trans e.l, h.st.eq e.n e.S, h.re.eq e.n e.R, h.ma.eq e.n e.M, h.mo.eq e.n e.V, h.g.trans e.g, h.i.trans e.i, h.o.trans e.o⟩
theorem br_cases {m : Nat} {K : Nat → Kd} {p : Pl} {cargo n : Int} {D : Da} {u : Int} (h : BrR m K p cargo n = (D, u, 0)) :
    ∃ k, Right m K p k ∧ (0 ≤ n ∧ n ≤ 1000000) ∧ (0 ≤ cargo ∧ cargo ≤ 15) ∧ ((p.o = true ∧ takesK (K k) cargo = true ∧ D = broughtD (dataOf p (K k).mn) (K k).A n ∧ u = n) ∨ (¬ (p.o = true ∧ takesK (K k) cargo = true) ∧ D = dataOf p (K k).mn ∧ u = 0)) := by
  unfold BrR at h
  by_cases hu : UErr m K p cargo n = 0
  · rw [if_neg (by simpa using hu)] at h
    obtain ⟨hpe, hn, hc⟩ := uerr_ok hu
    obtain ⟨k, hR⟩ := PErr_right hpe
    rw [hR.kp, Int.toNat_natCast] at h
    refine ⟨k, hR, hn, hc, ?_⟩
    by_cases ht : p.o = true ∧ takesK (K k) cargo = true
    · rw [if_pos ht] at h
      simp only [Prod.mk.injEq] at h
      exact Or.inl ⟨ht.1, ht.2, h.1.symm, h.2.1.symm⟩
    · rw [if_neg ht] at h
      simp only [Prod.mk.injEq] at h
      exact Or.inr ⟨ht, h.1.symm, h.2.1.symm⟩
  · rw [if_pos hu] at h
    simp only [Prod.mk.injEq] at h
    exact absurd h.2.2 hu
theorem br_err {m : Nat} {K : Nat → Kd} {p : Pl} {cargo n : Int} {D : Da} {u r : Int} (h : BrR m K p cargo n = (D, u, r)) (h0 : r ≠ 0) : u = 0 := by
  unfold BrR at h
  by_cases hu : UErr m K p cargo n = 0
  · rw [if_neg (by simpa using hu)] at h
    split at h
    · simp only [Prod.mk.injEq] at h; exact absurd h.2.2.symm h0
    · simp only [Prod.mk.injEq] at h; exact h.2.1.symm
  · rw [if_pos hu] at h
    simp only [Prod.mk.injEq] at h
    exact h.2.1.symm
theorem brought_right {m : Nat} {K : Nat → Kd} {p : Pl} {k : Nat} {n : Int} (hR : Right m K p k) (hn : 0 ≤ n) : DRight m K (broughtD (dataOf p (K k).mn) (K k).A n) k := by
  have hx : ∀ j, j < (K k).mn → 0 ≤ brX (K k).A p.re.Z n j := fun j hj => by
    have h1 := (hR.ks.A k hR.lt j hj).1
    have h2 := (hR.pl.re.z j hj).1
    have h3 : 0 ≤ n * (K k).A j := Int.mul_nonneg hn (by omega)
    show 0 ≤ p.re.Z j + n * (K k).A j
    omega
  have hg : 0 ≤ min (p.g + n) 1000000 ∧ min (p.g + n) 1000000 ≤ 1000000 := by have := hR.pl.g; omega
  refine ⟨hR.ks, hR.e0, hR.kp, hR.lt, rfl, ⟨hR.pl.t, hR.pl.l, fun j hj => ?_, fun j hj => ?_, fun j hj => ?_, hR.pl.mo.z, hg, hR.pl.i⟩⟩
  · have h1 := hx j hj
    have h2 := (hR.pl.st.z j hj).1
    show 0 ≤ min (p.st.Z j + brX (K k).A p.re.Z n j / 8) 1000000 ∧ min (p.st.Z j + brX (K k).A p.re.Z n j / 8) 1000000 ≤ 1000000
    omega
  · show 0 ≤ brX (K k).A p.re.Z n j % 8 ∧ brX (K k).A p.re.Z n j % 8 ≤ 7
    omega
  · have h1 := hx j hj
    have h2 := (hR.pl.ma.z j hj).1
    show 0 ≤ min (p.ma.Z j + brX (K k).A p.re.Z n j / 8) 1000000 ∧ min (p.ma.Z j + brX (K k).A p.re.Z n j / 8) 1000000 ≤ 1000000
    omega
theorem br_dright {m : Nat} {K : Nat → Kd} {p : Pl} {cargo n : Int} {D : Da} {u : Int} (h : BrR m K p cargo n = (D, u, 0)) : ∃ k, DRight m K D k ∧ p.k = k := by
  obtain ⟨k, hR, hn, _, ⟨_, _, rfl, _⟩ | ⟨_, rfl, _⟩⟩ := br_cases h
  · exact ⟨k, brought_right hR hn.1, hR.kp⟩
  · exact ⟨k, hR.data, hR.kp⟩
theorem two_goes {R1 q1 S T x y : Int} (_h : 0 ≤ x) (_hx : 0 ≤ y + x) (hq : y / 8 = q1) (hr : y % 8 = R1) (hT : T = min (S + q1) 1000000) : min (T + (R1 + x) / 8) 1000000 = min (S + (y + x) / 8) 1000000 ∧ (R1 + x) % 8 = (y + x) % 8 := by
  omega
theorem br_parts {m : Nat} {K : Nat → Kd} {p p1 : Pl} {cargo n1 n2 : Int} {D1 D2 D3 : Da} {u1 u2 r2 u3 r3 : Int} (h1 : BrR m K p cargo n1 = (D1, u1, 0)) (hI : Is p1 D1)
    (h2 : BrR m K p1 cargo n2 = (D2, u2, r2)) (h3 : BrR m K p cargo (n1 + n2) = (D3, u3, r3)) (hn2 : 0 ≤ n2) (hs : n1 + n2 ≤ 1000000) :
    r2 = 0 ∧ r3 = 0 ∧ DEq D2 D3 ∧ u1 + u2 = u3 := by
  obtain ⟨k, hR, hn, hc, hcase⟩ := br_cases h1
  obtain ⟨k', hD1, hk'⟩ := br_dright h1
  obtain rfl : k' = k := by have := hR.kp; omega
  have hP1 : PErr m K p1 = 0 := (hD1.right hI).err
  have e2 : UErr m K p1 cargo n2 = 0 := uerr_0 hP1 (inB_iff.2 ⟨hn2, by omega⟩) (inB_iff.2 hc)
  have e3 : UErr m K p cargo (n1 + n2) = 0 := uerr_0 hR.err (inB_iff.2 ⟨by omega, hs⟩) (inB_iff.2 hc)
  have kp1 : p1.k = k' := (hD1.right hI).kp
  rcases hcase with ⟨ho, ht, rfl, rfl⟩ | ⟨hno, rfl, rfl⟩
  · have ho1 : p1.o = true := hI.o.trans ho
    rw [br_yes e2 kp1 ho1 ht] at h2
    rw [br_yes e3 hR.kp ho ht] at h3
    simp only [Prod.mk.injEq] at h2 h3
    obtain ⟨rfl, rfl, rfl⟩ := h2
    obtain ⟨rfl, rfl, rfl⟩ := h3
    have hx : ∀ j, j < (K k').mn → 0 ≤ n2 * (K k').A j ∧ 0 ≤ brX (K k').A p.re.Z u1 j := fun j hj => by
      have a1 := (hR.ks.A k' hR.lt j hj).1
      have a2 := (hR.pl.re.z j hj).1
      have a3 : 0 ≤ u1 * (K k').A j := Int.mul_nonneg hn.1 (by omega)
      exact ⟨Int.mul_nonneg hn2 (by omega), by show 0 ≤ p.re.Z j + u1 * (K k').A j; omega⟩
    have hadd : ∀ j, brX (K k').A p.re.Z (u1 + n2) j = brX (K k').A p.re.Z u1 j + n2 * (K k').A j := fun j => by
      show p.re.Z j + (u1 + n2) * (K k').A j = p.re.Z j + u1 * (K k').A j + n2 * (K k').A j
      rw [Int.add_mul]; omega
    have hre : ∀ j, j < (K k').mn → p1.re.Z j = brX (K k').A p.re.Z u1 j % 8 := fun j hj => hI.re.at' j hj
    have hst : ∀ j, j < (K k').mn → p1.st.Z j = min (p.st.Z j + brX (K k').A p.re.Z u1 j / 8) 1000000 := fun j hj => hI.st.at' j hj
    have hma : ∀ j, j < (K k').mn → p1.ma.Z j = min (p.ma.Z j + brX (K k').A p.re.Z u1 j / 8) 1000000 := fun j hj => hI.ma.at' j hj
    have hx2 : ∀ j, j < (K k').mn → brX (K k').A p1.re.Z n2 j = brX (K k').A p.re.Z u1 j % 8 + n2 * (K k').A j := fun j hj => by
      show p1.re.Z j + n2 * (K k').A j = _
      rw [hre j hj]
    refine ⟨rfl, rfl, ⟨hI.k, hI.t, hI.l, rfl, fun j hj => ?_, fun j hj => ?_, fun j hj => ?_, fun j hj => hI.mo.at' j hj, ?_, hI.i, hI.o⟩, rfl⟩
    · have hj : j < (K k').mn := hj
      show min (p1.st.Z j + brX (K k').A p1.re.Z n2 j / 8) 1000000 = min (p.st.Z j + brX (K k').A p.re.Z (u1 + n2) j / 8) 1000000
      rw [hadd, hx2 j hj]
      exact (two_goes (hx j hj).1 (by have := hx j hj; omega) rfl rfl (hst j hj)).1
    · have hj : j < (K k').mn := hj
      show brX (K k').A p1.re.Z n2 j % 8 = brX (K k').A p.re.Z (u1 + n2) j % 8
      rw [hadd, hx2 j hj]
      exact (two_goes (hx j hj).1 (by have := hx j hj; omega) rfl rfl (hst j hj)).2
    · have hj : j < (K k').mn := hj
      show min (p1.ma.Z j + brX (K k').A p1.re.Z n2 j / 8) 1000000 = min (p.ma.Z j + brX (K k').A p.re.Z (u1 + n2) j / 8) 1000000
      rw [hadd, hx2 j hj]
      exact (two_goes (hx j hj).1 (by have := hx j hj; omega) rfl rfl (hma j hj)).1
    · have e : p1.g = min (p.g + u1) 1000000 := hI.g
      show min (p1.g + n2) 1000000 = min (p.g + (u1 + n2)) 1000000
      omega
  · have hno1 : ¬ (p1.o = true ∧ takesK (K k') cargo = true) := fun h => hno ⟨by have e : p1.o = p.o := hI.o; rw [← e]; exact h.1, h.2⟩
    rw [br_no e2 kp1 hno1] at h2
    rw [br_no e3 hR.kp hno] at h3
    simp only [Prod.mk.injEq] at h2 h3
    obtain ⟨rfl, rfl, rfl⟩ := h2
    obtain ⟨rfl, rfl, rfl⟩ := h3
    exact ⟨rfl, rfl, ⟨hI.k, hI.t, hI.l, rfl, hI.st.at', hI.re.at', hI.ma.at', hI.mo.at', hI.g, hI.i, hI.o⟩, rfl⟩
/-- Nothing was given: the plant as it was. -/
theorem br_zero {m : Nat} {K : Nat → Kd} {p : Pl} {cargo n : Int} {D : Da} (h : BrR m K p cargo n = (D, 0, 0)) : Is p D := by
  obtain ⟨k, hR, _, _, ⟨_, _, rfl, rfl⟩ | ⟨_, rfl, _⟩⟩ := br_cases h
  · have hx : ∀ j, brX (K k).A p.re.Z 0 j = p.re.Z j := fun j => by
      show p.re.Z j + 0 * (K k).A j = _
      rw [Int.zero_mul, Int.add_zero]
    refine hR.pl.is.eq ⟨rfl, rfl, rfl, rfl, fun j hj => ?_, fun j hj => ?_, fun j hj => ?_, fun _ _ => rfl, ?_, rfl, rfl⟩
    · have hj : j < (K k).mn := hj
      have h1 := hR.pl.st.z j hj
      have h2 := hR.pl.re.z j hj
      show p.st.Z j = min (p.st.Z j + brX (K k).A p.re.Z 0 j / 8) 1000000
      rw [hx]; omega
    · have hj : j < (K k).mn := hj
      have h2 := hR.pl.re.z j hj
      show p.re.Z j = brX (K k).A p.re.Z 0 j % 8
      rw [hx]; omega
    · have hj : j < (K k).mn := hj
      have h1 := hR.pl.ma.z j hj
      have h2 := hR.pl.re.z j hj
      show p.ma.Z j = min (p.ma.Z j + brX (K k).A p.re.Z 0 j / 8) 1000000
      rw [hx]; omega
    · have := hR.pl.g
      show p.g = min (p.g + 0) 1000000
      omega
  · exact hR.pl.is
/-- The eighths. -/
theorem br_eighths {m k : Nat} {K : Nat → Kd} {p : Pl} {cargo n : Int} {D : Da} {u : Int} (h : BrR m K p cargo n = (D, u, 0)) (hk : p.k = k) (hu : u ≠ 0) :
    Right m K p k ∧ D.n = (K k).mn ∧ (0 ≤ u ∧ u ≤ 1000000) ∧ ∀ j, j < (K k).mn → (0 ≤ D.S j ∧ D.S j ≤ 1000000) ∧ (0 ≤ D.R j ∧ D.R j ≤ 7) ∧ (D.S j < 1000000 → 8 * (D.S j - p.st.Z j) + D.R j - p.re.Z j = u * (K k).A j) := by
  obtain ⟨k', hR, hn, _, ⟨_, _, rfl, rfl⟩ | ⟨_, rfl, h0⟩⟩ := br_cases h
  · obtain rfl : k' = k := by have := hR.kp; omega
    refine ⟨hR, rfl, hn, fun j hj => ?_⟩
    have hd := brought_right hR hn.1
    refine ⟨hd.ok.S j hj, hd.ok.R j hj, ?_⟩
    have h1 := hR.pl.st.z j hj
    have h2 := hR.pl.re.z j hj
    show min (p.st.Z j + brX (K k').A p.re.Z u j / 8) 1000000 < 1000000 → 8 * (min (p.st.Z j + brX (K k').A p.re.Z u j / 8) 1000000 - p.st.Z j) + brX (K k').A p.re.Z u j % 8 - p.re.Z j = u * (K k').A j
    have hx : brX (K k').A p.re.Z u j = p.re.Z j + u * (K k').A j := rfl
    obtain ⟨x, hxx⟩ : ∃ x, brX (K k').A p.re.Z u j = x := ⟨_, rfl⟩
    obtain ⟨y, hy⟩ : ∃ y, u * (K k').A j = y := ⟨_, rfl⟩
    rw [hxx, hy] at hx
    rw [hxx, hy]
    omega
  · exact absurd h0 hu
/-- Boxes of plants side by side. -/
structure QS (ps : List (Nat × Pl)) (B : Nat) (w wr : World) : Prop where
  below : Below B w wr
  le : B ≤ wr.heap.size
  all : ∀ x ∈ ps, wr.heap[x.1]? = some (.cells #[.int .i64 x.2.k, .int .i64 x.2.t, .int .i64 x.2.l, .slice x.2.st.a x.2.st.n x.2.st.c, .slice x.2.re.a x.2.re.n x.2.re.c, .slice x.2.ma.a x.2.ma.n x.2.ma.c, .slice x.2.mo.a x.2.mo.n x.2.mo.c, .int .i64 x.2.g, .int .i64 x.2.i, .bool x.2.o] 25 (0, 0)) ∧ PlAt wr x.2
theorem QS.stays {ps : List (Nat × Pl)} {B : Nat} {w wr w' : World} (h : QS ps B w wr) (hb : Below wr.heap.size wr w') : QS ps B w w' :=
  ⟨h.below.trans (hb.mono h.le), Nat.le_trans h.le hb.size, fun x hx => ⟨(hb.block _ (heap_lt (h.all x hx).1)).trans (h.all x hx).1, (h.all x hx).2.stays hb⟩⟩
theorem QS.add {ps : List (Nat × Pl)} {B : Nat} {w wr : World} {p : Pl} (h : QS ps B w wr) (hp : PlAt wr p) : QS ((wr.heap.size, p) :: ps) B w (wr.alloc (boxOf p)) := by
  have hb : Below wr.heap.size wr (wr.alloc (boxOf p)) := (Below.refl _ _).alloc (Nat.le_refl _) _
  have h' := h.stays hb
  refine ⟨h'.below, h'.le, fun x hx => ?_⟩
  rcases List.mem_cons.1 hx with rfl | hx
  · exact ⟨heap_new _ _, hp.stays hb⟩
  · exact h'.all x hx
theorem PB.qs {p : Pl} {B : Nat} {w wr : World} (h : PB p B B w wr) : QS [(B, p)] B w wr := ⟨h.below, h.le, fun x hx => by
  simp only [List.mem_singleton] at hx
  subst hx
  exact ⟨h.bx, h.lists⟩⟩
end Go.Proofs.Ytnhkblkijiipeaa
