/-
  Kinds of plants and plants: as values, in memory, what is right.
-/
import Derived.Test.YtnhkblkijiipeaaQKit
namespace Go.Proofs.Ytnhkblkijiipeaa
open Go.RowKit

theorem heap_new (w : World) (o : Obj) : (w.alloc o).heap[w.heap.size]? = some o := by
  show (w.heap.push o)[_]? = _
  rw [Array.getElem?_push, if_pos rfl]
/-- A kind: Name, Takes, Makes (cargoes and amounts). -/
structure Kd where
  nm : ByteArray
  ta : Option Addr
  tn : Nat
  tc : Nat
  T : Nat → Int
  ma : Option Addr
  mn : Nat
  mc : Nat
  C : Nat → Int
  A : Nat → Int
abbrev kv (k : Kd) : Value := .agg #[.string k.nm, .slice k.ta k.tn k.tc, .slice k.ma k.mn k.mc]
theorem iat {w : World} {ao : Option Addr} {n : Nat} {Z : Nat → Int} (h : Ints w ao n Z) {j : Nat} (hj : j < n) : ∃ b off : Nat, ao = some ⟨b, off, none⟩ ∧ b < w.heap.size ∧ w.cell? ⟨b, off + j, none⟩ = some (.int .i64 (Z j)) := h j hj
/-- Makes in memory. -/
def Mks (w : World) (ao : Option Addr) (n : Nat) (C A : Nat → Int) : Prop := ∀ j, j < n → ∃ b off : Nat, ao = some ⟨b, off, none⟩ ∧ b < w.heap.size ∧
  w.cell? ⟨b, off + j * 2, none⟩ = some (.int .i64 (C j)) ∧ w.cell? ⟨b, off + j * 2 + 1, none⟩ = some (.int .i64 (A j))
theorem Mks.stays {w w' : World} {ao : Option Addr} {n : Nat} {C A : Nat → Int} (h : Mks w ao n C A) (hb : Below w.heap.size w w') : Mks w' ao n C A := fun j hj => by
  obtain ⟨b, off, e, hz, h0, h1⟩ := h j hj
  exact ⟨b, off, e, by have := hb.size; omega, (hb.cell (p := ⟨b, off + j * 2, none⟩) hz).trans h0, (hb.cell (p := ⟨b, off + j * 2 + 1, none⟩) hz).trans h1⟩
/-- The lists of a kind in memory. -/
structure KdAt (w : World) (k : Kd) : Prop where
  t : Ints w k.ta k.tn k.T
  m : Mks w k.ma k.mn k.C k.A
theorem KdAt.stays {w w' : World} {k : Kd} (h : KdAt w k) (hb : Below w.heap.size w w') : KdAt w' k := ⟨h.t.stays hb, h.m.stays hb⟩
/-- Kinds in memory, m of them. -/
def Kds (w : World) (ko : Option Addr) (m : Nat) (K : Nat → Kd) : Prop := ∀ j, j < m → (∃ b off : Nat, ko = some ⟨b, off, none⟩ ∧ b < w.heap.size ∧
  w.cell? ⟨b, off + j * 3, none⟩ = some (.string (K j).nm) ∧ w.cell? ⟨b, off + j * 3 + 1, none⟩ = some (.slice (K j).ta (K j).tn (K j).tc) ∧ w.cell? ⟨b, off + j * 3 + 2, none⟩ = some (.slice (K j).ma (K j).mn (K j).mc)) ∧ KdAt w (K j)
theorem Kds.stays {w w' : World} {ko : Option Addr} {m : Nat} {K : Nat → Kd} (h : Kds w ko m K) (hb : Below w.heap.size w w') : Kds w' ko m K := fun j hj => by
  obtain ⟨⟨b, off, e, hz, h0, h1, h2⟩, hk⟩ := h j hj
  exact ⟨⟨b, off, e, by have := hb.size; omega, (hb.cell (p := ⟨b, off + j * 3, none⟩) hz).trans h0, (hb.cell (p := ⟨b, off + j * 3 + 1, none⟩) hz).trans h1, (hb.cell (p := ⟨b, off + j * 3 + 2, none⟩) hz).trans h2⟩, hk.stays hb⟩
/-- A list of numbers. -/
structure Li where
  a : Option Addr
  n : Nat
  c : Nat
  Z : Nat → Int
abbrev lv (l : Li) : Value := .slice l.a l.n l.c
abbrev LiAt (w : World) (l : Li) : Prop := Ints w l.a l.n l.Z
/-- A plant: Kind, Tile, Level, Stock, Rest, Made, Moved, Got, Idle, Open. -/
structure Pl where
  k : Int
  t : Int
  l : Int
  st : Li
  re : Li
  ma : Li
  mo : Li
  g : Int
  i : Int
  o : Bool
abbrev pv (p : Pl) : Value := .agg #[.int .i64 p.k, .int .i64 p.t, .int .i64 p.l, lv p.st, lv p.re, lv p.ma, lv p.mo, .int .i64 p.g, .int .i64 p.i, .bool p.o]
structure PlAt (w : World) (p : Pl) : Prop where
  st : LiAt w p.st
  re : LiAt w p.re
  ma : LiAt w p.ma
  mo : LiAt w p.mo
theorem PlAt.stays {w w' : World} {p : Pl} (h : PlAt w p) (hb : Below w.heap.size w w') : PlAt w' p := ⟨h.st.stays hb, h.re.stays hb, h.ma.stays hb, h.mo.stays hb⟩

/-- Whether p holds anywhere. -/
def anyP (m : Nat) (p : Nat → Bool) : Bool := (List.range m).any p
theorem anyP_iff {m : Nat} {p : Nat → Bool} : anyP m p = true ↔ ∃ i, i < m ∧ p i = true := by simp [anyP]
theorem anyP_no {m : Nat} {p : Nat → Bool} (h : ∀ j, j < m → p j = false) : anyP m p = false := by
  cases h' : anyP m p
  · rfl
  · obtain ⟨i, hi, hp⟩ := anyP_iff.1 h'; rw [h i hi] at hp; cases hp
theorem anyP_yes {m i : Nat} {p : Nat → Bool} (hi : i < m) (h : p i = true) : anyP m p = true := anyP_iff.2 ⟨i, hi, h⟩
theorem anyP_no' {m : Nat} {p : Nat → Bool} (h : anyP m p = false) {i : Nat} (hi : i < m) : p i = false := by
  cases h' : p i
  · rfl
  · rw [anyP_yes hi h'] at h; cases h
theorem snoc_no {p : Nat → Bool} {i : Nat} (h : ∀ j, j < i → p j = false) (hi : p i = false) : ∀ j, j < i + 1 → p j = false := fun j hj => by
  by_cases e : j = i
  · subst e; exact hi
  · exact h j (by omega)
/-- A number in bounds. -/
def inB (a x b : Int) : Bool := decide (a ≤ x) && decide (x ≤ b)
theorem inB_iff {a x b : Int} : inB a x b = true ↔ a ≤ x ∧ x ≤ b := by simp [inB]
theorem inB_no {a x b : Int} (h : inB a x b = false) : ¬ (a ≤ x ∧ x ≤ b) := fun k => by rw [inB_iff.2 k] at h; cases h
/-- A name: 1 to 12 letters. -/
def isNm (s : ByteArray) : Bool := decide (1 ≤ s.size) && decide (s.size ≤ 12) && (List.range s.size).all fun i => decide (97 ≤ (s.data.getD i 0).toNat) && decide ((s.data.getD i 0).toNat ≤ 122)
/-- The cargo at i is none, or doesn't stand behind the one ahead. -/
def badC (Z : Nat → Int) (i : Nat) : Bool := !inB 0 (Z i) 15 || (decide (0 < i) && decide (Z i ≤ Z (i - 1)))
/-- A list of cargoes of a kind. -/
def okL (n : Nat) (Z : Nat → Int) : Bool := !anyP n (badC Z) && decide (n ≤ 4)
def badA (A : Nat → Int) (i : Nat) : Bool := !inB 1 (A i) 1000
def okK (k : Kd) : Bool := isNm k.nm && okL k.tn k.T && okL k.mn k.C && !anyP k.mn (badA k.A)
/-- A kind with the name of one ahead of it. -/
def dupK (K : Nat → Kd) (i : Nat) : Bool := anyP i (fun k => decide ((K i).nm = (K k).nm))
/-- The error of a list of kinds. -/
def KErr (m : Nat) (K : Nat → Kd) : Int := if 16 < m then 4 else if anyP m (fun i => !okK (K i)) = true then 1 else if anyP m (dupK K) = true then 3 else 0
/-- A list of n counts from 0 to b. -/
def okN (l : Li) (n : Nat) (b : Int) : Bool := decide (l.n = n) && !anyP l.n (fun j => !inB 0 (l.Z j) b)
def okP (n : Nat) (p : Pl) : Bool := inB 0 p.t 1000000 && inB 1 p.l 64 && okN p.st n 1000000 && okN p.re n 7 && okN p.ma n 1000000 && okN p.mo n 1000000 && inB 0 p.g 1000000 && inB 0 p.i 1000000
/-- The error of a plant. -/
def PErr (m : Nat) (K : Nat → Kd) (p : Pl) : Int := if KErr m K ≠ 0 then KErr m K else if inB 0 p.k (m - 1) = false then 2 else if okP (K p.k.toNat).mn p = true then 0 else 1
/-- Kinds that are right. -/
structure Kinds (m : Nat) (K : Nat → Kd) : Prop where
  le : m ≤ 16
  tn : ∀ j, j < m → (K j).tn ≤ 4
  mn : ∀ j, j < m → (K j).mn ≤ 4
  T : ∀ j, j < m → ∀ i, i < (K j).tn → 0 ≤ (K j).T i ∧ (K j).T i ≤ 15
  C : ∀ j, j < m → ∀ i, i < (K j).mn → 0 ≤ (K j).C i ∧ (K j).C i ≤ 15
  tasc : ∀ j, j < m → ∀ i, i + 1 < (K j).tn → (K j).T i < (K j).T (i + 1)
  casc : ∀ j, j < m → ∀ i, i + 1 < (K j).mn → (K j).C i < (K j).C (i + 1)
  A : ∀ j, j < m → ∀ i, i < (K j).mn → 1 ≤ (K j).A i ∧ (K j).A i ≤ 1000
theorem okL_le {n : Nat} {Z : Nat → Int} (h : okL n Z = true) : n ≤ 4 ∧ (∀ i, i < n → 0 ≤ Z i ∧ Z i ≤ 15) ∧ ∀ i, i + 1 < n → Z i < Z (i + 1) := by
  unfold okL at h
  simp only [Bool.and_eq_true, Bool.not_eq_true', decide_eq_true_eq] at h
  refine ⟨h.2, fun i hi => ?_, fun i hi => ?_⟩
  · have := anyP_no' h.1 hi
    unfold badC at this
    simp only [Bool.or_eq_false_iff, Bool.not_eq_false'] at this
    exact inB_iff.1 this.1
  · have := anyP_no' h.1 hi
    unfold badC at this
    simp only [Bool.or_eq_false_iff, Bool.and_eq_false_iff, decide_eq_false_iff_not, Nat.add_sub_cancel] at this
    rcases this.2 with h | h <;> omega
theorem KErr_kinds {m : Nat} {K : Nat → Kd} (h : KErr m K = 0) : Kinds m K := by
  unfold KErr at h
  by_cases h1 : 16 < m
  · rw [if_pos h1] at h; exact absurd h (by decide)
  · rw [if_neg h1] at h
    cases ha : anyP m (fun i => !okK (K i))
    · have hk : ∀ j, j < m → isNm (K j).nm = true ∧ okL (K j).tn (K j).T = true ∧ okL (K j).mn (K j).C = true ∧ anyP (K j).mn (badA (K j).A) = false := fun j hj => by
        have := anyP_no' ha hj
        simp only [Bool.not_eq_false', okK, Bool.and_eq_true, Bool.not_eq_true'] at this
        exact ⟨this.1.1.1, this.1.1.2, this.1.2, this.2⟩
      exact ⟨by omega, fun j hj => (okL_le (hk j hj).2.1).1, fun j hj => (okL_le (hk j hj).2.2.1).1, fun j hj => (okL_le (hk j hj).2.1).2.1, fun j hj => (okL_le (hk j hj).2.2.1).2.1, fun j hj => (okL_le (hk j hj).2.1).2.2, fun j hj => (okL_le (hk j hj).2.2.1).2.2,
        fun j hj i hi => by have := anyP_no' (hk j hj).2.2.2 hi; unfold badA at this; exact inB_iff.1 (by simpa using this)⟩
    · rw [ha, if_pos rfl] at h; exact absurd h (by decide)
/-- A list of n counts up to b. -/
structure Cnt (l : Li) (n : Nat) (b : Int) : Prop where
  len : l.n = n
  z : ∀ j, j < n → 0 ≤ l.Z j ∧ l.Z j ≤ b
theorem okN_iff {l : Li} {n : Nat} {b : Int} : okN l n b = true ↔ Cnt l n b := by
  unfold okN
  simp only [Bool.and_eq_true, Bool.not_eq_true', decide_eq_true_eq]
  constructor
  · rintro ⟨h1, h2⟩
    exact ⟨h1, fun j hj => inB_iff.1 (by have := anyP_no' h2 (i := j) (by omega); simpa using this)⟩
  · rintro ⟨h1, h2⟩
    exact ⟨h1, anyP_no fun j hj => by rw [inB_iff.2 (h2 j (by omega))]; rfl⟩
/-- A plant that is right. -/
structure Plant (n : Nat) (p : Pl) : Prop where
  t : 0 ≤ p.t ∧ p.t ≤ 1000000
  l : 1 ≤ p.l ∧ p.l ≤ 64
  st : Cnt p.st n 1000000
  re : Cnt p.re n 7
  ma : Cnt p.ma n 1000000
  mo : Cnt p.mo n 1000000
  g : 0 ≤ p.g ∧ p.g ≤ 1000000
  i : 0 ≤ p.i ∧ p.i ≤ 1000000
theorem okP_iff {n : Nat} {p : Pl} : okP n p = true ↔ Plant n p := by
  unfold okP
  simp only [Bool.and_eq_true, inB_iff, okN_iff]
  exact ⟨fun ⟨⟨⟨⟨⟨⟨⟨a, b⟩, c⟩, d⟩, e⟩, f⟩, g⟩, h⟩ => ⟨a, b, c, d, e, f, g, h⟩, fun ⟨a, b, c, d, e, f, g, h⟩ => ⟨⟨⟨⟨⟨⟨⟨a, b⟩, c⟩, d⟩, e⟩, f⟩, g⟩, h⟩⟩
/-- A plant of kinds, all right. -/
structure Right (m : Nat) (K : Nat → Kd) (p : Pl) (k : Nat) : Prop where
  ks : Kinds m K
  e0 : KErr m K = 0
  kp : p.k = k
  lt : k < m
  pl : Plant (K k).mn p
theorem PErr_right {m : Nat} {K : Nat → Kd} {p : Pl} (h : PErr m K p = 0) : ∃ k, Right m K p k := by
  unfold PErr at h
  by_cases h0 : KErr m K = 0
  · rw [if_neg (by simpa using h0)] at h
    cases hk : inB 0 p.k (m - 1)
    · rw [if_pos hk] at h; exact absurd h (by decide)
    · rw [if_neg (by rw [hk]; simp)] at h
      by_cases hp : okP (K p.k.toNat).mn p = true
      · have := inB_iff.1 hk
        exact ⟨p.k.toNat, KErr_kinds h0, h0, by omega, by omega, okP_iff.1 hp⟩
      · rw [if_neg hp] at h; exact absurd h (by decide)
  · rw [if_pos h0] at h; exact absurd h h0
theorem Right.err {m : Nat} {K : Nat → Kd} {p : Pl} {k : Nat} (h : Right m K p k) : PErr m K p = 0 := by
  unfold PErr
  rw [if_neg (by simpa using h.e0), if_neg, if_pos]
  · rw [h.kp]; exact okP_iff.2 (by simpa using h.pl)
  · rw [h.kp, inB_iff.2 ⟨by omega, by have := h.lt; omega⟩]; simp
end Go.Proofs.Ytnhkblkijiipeaa
