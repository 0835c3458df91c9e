/-
  Parcels and cargoes: as values, in memory, what is right and what stands ahead.
-/
import Derived.Test.YtnfcibcpmaehoaaQKit
namespace Go.Proofs.Ytnfcibcpmaehoaa
open Go.RowKit

theorem heap_new (w : World) (o : Obj) : (w.alloc o).heap[w.heap.size]? = some o := by
  show (w.heap.push o)[_]? = _
  rw [Array.getElem?_push, if_pos rfl]
/-- A parcel: Kind, From, Tile, Age, Count, Share. -/
structure Par where
  k : Int
  f : Int
  t : Int
  a : Int
  c : Int
  s : Int
instance : Inhabited Par := ⟨⟨0, 0, 0, 0, 0, 0⟩⟩
abbrev pv (p : Par) : Value := .agg #[.int .i64 p.k, .int .i64 p.f, .int .i64 p.t, .int .i64 p.a, .int .i64 p.c, .int .i64 p.s]
/-- Parcels in memory, n of them. -/
def Pars (w : World) (po : Option Addr) (n : Nat) (P : Nat → Par) : Prop := ∀ j, j < n → ∃ b off : Nat, po = some ⟨b, off, none⟩ ∧ b < w.heap.size ∧
  w.cell? ⟨b, off + j * 6, none⟩ = some (.int .i64 (P j).k) ∧ w.cell? ⟨b, off + j * 6 + 1, none⟩ = some (.int .i64 (P j).f) ∧ w.cell? ⟨b, off + j * 6 + 2, none⟩ = some (.int .i64 (P j).t) ∧
  w.cell? ⟨b, off + j * 6 + 3, none⟩ = some (.int .i64 (P j).a) ∧ w.cell? ⟨b, off + j * 6 + 4, none⟩ = some (.int .i64 (P j).c) ∧ w.cell? ⟨b, off + j * 6 + 5, none⟩ = some (.int .i64 (P j).s)
theorem Pars.stays {w w' : World} {po : Option Addr} {n : Nat} {P : Nat → Par} (h : Pars w po n P) (hb : Below w.heap.size w w') : Pars w' po n P := fun j hj => by
  obtain ⟨b, off, e, hz, h0, h1, h2, h3, h4, h5⟩ := h j hj
  exact ⟨b, off, e, by have := hb.size; omega, (hb.cell (p := ⟨b, off + j * 6, none⟩) hz).trans h0, (hb.cell (p := ⟨b, off + j * 6 + 1, none⟩) hz).trans h1, (hb.cell (p := ⟨b, off + j * 6 + 2, none⟩) hz).trans h2,
    (hb.cell (p := ⟨b, off + j * 6 + 3, none⟩) hz).trans h3, (hb.cell (p := ⟨b, off + j * 6 + 4, none⟩) hz).trans h4, (hb.cell (p := ⟨b, off + j * 6 + 5, none⟩) hz).trans h5⟩
/-- A cargo: Name, Rate, Fast, Slow. -/
structure Cg where
  n : ByteArray
  r : Int
  f : Int
  l : Int
instance : Inhabited Cg := ⟨⟨ByteArray.empty, 0, 0, 0⟩⟩
abbrev cv (c : Cg) : Value := .agg #[.string c.n, .int .i64 c.r, .int .i64 c.f, .int .i64 c.l]
def Cgs (w : World) (co : Option Addr) (m : Nat) (C : Nat → Cg) : Prop := ∀ j, j < m → ∃ b off : Nat, co = some ⟨b, off, none⟩ ∧ b < w.heap.size ∧
  w.cell? ⟨b, off + j * 4, none⟩ = some (.string (C j).n) ∧ w.cell? ⟨b, off + j * 4 + 1, none⟩ = some (.int .i64 (C j).r) ∧ w.cell? ⟨b, off + j * 4 + 2, none⟩ = some (.int .i64 (C j).f) ∧ w.cell? ⟨b, off + j * 4 + 3, none⟩ = some (.int .i64 (C j).l)
theorem Cgs.stays {w w' : World} {po : Option Addr} {n : Nat} {P : Nat → Cg} (h : Cgs w po n P) (hb : Below w.heap.size w w') : Cgs w' po n P := fun j hj => by
  obtain ⟨b, off, e, hz, h0, h1, h2, h3⟩ := h j hj
  exact ⟨b, off, e, by have := hb.size; omega, (hb.cell (p := ⟨b, off + j * 4, none⟩) hz).trans h0, (hb.cell (p := ⟨b, off + j * 4 + 1, none⟩) hz).trans h1, (hb.cell (p := ⟨b, off + j * 4 + 2, none⟩) hz).trans h2,
    (hb.cell (p := ⟨b, off + j * 4 + 3, none⟩) hz).trans h3⟩

/-- What stands ahead: by Kind, From, Tile, Age. -/
def lt4 (p q : Par) : Prop := p.k < q.k ∨ p.k = q.k ∧ (p.f < q.f ∨ p.f = q.f ∧ (p.t < q.t ∨ p.t = q.t ∧ p.a < q.a))
instance (p q : Par) : Decidable (lt4 p q) := by unfold lt4; infer_instance
theorem lt4.asymm {p q : Par} (h : lt4 p q) : ¬ lt4 q p := by unfold lt4 at *; omega
/-- What a parcel may hold. -/
structure okP (p : Par) : Prop where
  c1 : 1 ≤ p.c
  c2 : p.c ≤ 1000000
  a1 : 0 ≤ p.a
  a2 : p.a ≤ 255
  s1 : 0 ≤ p.s
  s2 : p.s ≤ 1000000000000
  k1 : 0 ≤ p.k
  k2 : p.k ≤ 1000000
  f1 : 0 ≤ p.f
  f2 : p.f ≤ 1000000
  t1 : 0 ≤ p.t
  t2 : p.t ≤ 1000000
def isP (p : Par) : Bool := decide (1 ≤ p.c) && decide (p.c ≤ 1000000) && (decide (0 ≤ p.a) && decide (p.a ≤ 255)) && (decide (0 ≤ p.s) && decide (p.s ≤ 1000000000000)) && (decide (0 ≤ p.k) && decide (p.k ≤ 1000000)) && (decide (0 ≤ p.f) && decide (p.f ≤ 1000000)) && (decide (0 ≤ p.t) && decide (p.t ≤ 1000000))
theorem isP_iff {p : Par} : isP p = true ↔ okP p := by
  simp only [isP, Bool.and_eq_true, decide_eq_true_eq]
  exact ⟨fun ⟨⟨⟨⟨⟨⟨a, b⟩, c, d⟩, e, f⟩, g, h⟩, i, j⟩, k, l⟩ => ⟨a, b, c, d, e, f, g, h, i, j, k, l⟩, fun ⟨a, b, c, d, e, f, g, h, i, j, k, l⟩ => ⟨⟨⟨⟨⟨⟨a, b⟩, c, d⟩, e, f⟩, g, h⟩, i, j⟩, k, l⟩⟩
/-- The parcel at i is no parcel, or doesn't stand behind the one ahead. -/
def badP (P : Nat → Par) (i : Nat) : Bool := !isP (P i) || (decide (0 < i) && !decide (lt4 (P (i - 1)) (P i)))
/-- Whether p holds anywhere. -/
def anyP (m : Nat) (p : Nat → Bool) : Bool := (List.range m).any p
theorem anyP_iff {m : Nat} {p : Nat → Bool} : anyP m p = true ↔ ∃ i, i < m ∧ p i = true := by simp [anyP]
theorem anyP_no {m : Nat} {p : Nat → Bool} (h : ∀ j, j < m → p j = false) : anyP m p = false := by
  cases h' : anyP m p
  · rfl
  · obtain ⟨i, hi, hp⟩ := anyP_iff.1 h'; rw [h i hi] at hp; cases hp
theorem anyP_yes {m i : Nat} {p : Nat → Bool} (hi : i < m) (h : p i = true) : anyP m p = true := anyP_iff.2 ⟨i, hi, h⟩
theorem anyP_no' {m : Nat} {p : Nat → Bool} (h : anyP m p = false) {i : Nat} (hi : i < m) : p i = false := by
  cases h' : p i
  · rfl
  · rw [anyP_yes hi h'] at h; cases h
theorem snoc_no {p : Nat → Bool} {i : Nat} (h : ∀ j, j < i → p j = false) (hi : p i = false) : ∀ j, j < i + 1 → p j = false := fun j hj => by
  by_cases e : j = i
  · subst e; exact hi
  · exact h j (by omega)
/-- The error of a load. -/
def LErr (n : Nat) (P : Nat → Par) : Int := if 200 < n then 4 else if anyP n (badP P) = true then 1 else 0
/-- A load. -/
structure Load (n : Nat) (P : Nat → Par) : Prop where
  le : n ≤ 200
  ok : ∀ j, j < n → okP (P j)
  asc : ∀ j, j + 1 < n → lt4 (P j) (P (j + 1))
theorem LErr.load {n : Nat} {P : Nat → Par} (h : LErr n P = 0) : Load n P := by
  unfold LErr at h
  by_cases h1 : 200 < n
  · rw [if_pos h1] at h; exact absurd h (by decide)
  · rw [if_neg h1] at h
    cases ha : anyP n (badP P)
    · refine ⟨by omega, fun j hj => ?_, fun j hj => ?_⟩
      · have := anyP_no' ha hj
        simp only [badP, Bool.or_eq_false_iff, Bool.not_eq_false'] at this
        exact isP_iff.1 this.1
      · have := anyP_no' ha hj
        simp only [badP, Bool.or_eq_false_iff, Bool.and_eq_false_iff, Bool.not_eq_false', decide_eq_true_eq, decide_eq_false_iff_not] at this
        rcases this.2 with h | h
        · omega
        · exact h
    · rw [ha, if_pos rfl] at h; exact absurd h (by decide)
theorem Load.err {n : Nat} {P : Nat → Par} (h : Load n P) : LErr n P = 0 := by
  unfold LErr
  rw [if_neg (by have := h.le; omega), if_neg]
  rw [anyP_no (fun j hj => ?_)]
  · simp
  · simp only [badP, Bool.or_eq_false_iff, Bool.and_eq_false_iff, Bool.not_eq_false', decide_eq_true_eq, decide_eq_false_iff_not]
    refine ⟨isP_iff.2 (h.ok j hj), ?_⟩
    by_cases h0 : 0 < j
    · have := h.asc (j - 1) (by omega)
      rw [show j - 1 + 1 = j by omega] at this
      exact .inr this
    · exact .inl h0
end Go.Proofs.Ytnfcibcpmaehoaa
