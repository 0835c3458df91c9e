/-
  The memory of a law's rails, far, and the walk of the law on which rails are right.
-/
import Derived.Test.YtbfpcolkbfljoaaDoorRWalkBack
import Derived.Test.YtbfpcolkbfljoaaDoorRWalkRVal
import Derived.Deep.RegionHeld3
namespace Go.Proofs.YtbfpcolkbfljoaaDoor
open Go.RowKit

/-- The box of a law's rails, behind whatever calls. -/
structure RB (Wd Hd : Int) (ao : Option Addr) (n cap : Nat) (Z : Nat → Int) (bo : Option Addr) (m bcap : Nat) (B : Nat → Bool) (w wr : World) : Prop where
  below : Below w.heap.size w wr
  size : w.heap.size < wr.heap.size
  c0 : wr.cell? ⟨w.heap.size, 0, none⟩ = some (.int .i64 Wd)
  c1 : wr.cell? ⟨w.heap.size, 1, none⟩ = some (.int .i64 Hd)
  c2 : wr.cell? ⟨w.heap.size, 2, none⟩ = some (.slice ao n cap)
  c3 : wr.cell? ⟨w.heap.size, 3, none⟩ = some (.slice bo m bcap)
  ints : Ints wr ao n Z
  bools : Bools wr bo m B
  tab : Tab wr
section
variable {Wd Hd : Int} {ao bo : Option Addr} {n cap m bcap : Nat} {Z : Nat → Int} {B : Nat → Bool} {w wr w' : World}
theorem RB.stays (h : RB Wd Hd ao n cap Z bo m bcap B w wr) (k : Below wr.heap.size wr w') : RB Wd Hd ao n cap Z bo m bcap B w w' :=
  ⟨step h.below k, Nat.lt_of_lt_of_le h.size k.size, (k.cell (p := ⟨w.heap.size, 0, none⟩) h.size).trans h.c0, (k.cell (p := ⟨w.heap.size, 1, none⟩) h.size).trans h.c1, (k.cell (p := ⟨w.heap.size, 2, none⟩) h.size).trans h.c2,
    (k.cell (p := ⟨w.heap.size, 3, none⟩) h.size).trans h.c3, h.ints.stays k, h.bools.stays k, h.tab.stays k⟩
theorem rb_start (hT : Tab w) (hI : Ints w ao n Z) (hB : Bools w bo m B) : RB Wd Hd ao n cap Z bo m bcap B w (w.alloc (.cells #[.int .i64 Wd, .int .i64 Hd, .slice ao n cap, .slice bo m bcap] 25)) :=
  ⟨Joins.below_alloc1 _ _, by simp, by simp, by simp, by simp, by simp, hI.stays (Joins.below_alloc1 _ _), hB.stays (Joins.below_alloc1 _ _), hT.stays (Joins.below_alloc1 _ _)⟩
theorem rb_keep {a b : World} {X : Nat} {p : Prop} (hX : X = w.heap.size) (h : RB Wd Hd ao n cap Z bo m bcap B w a ∧ p) (hb : Below a.heap.size a b) :
    RB Wd Hd ao n cap Z bo m bcap B w b ∧ b.cell? ⟨X, 0, none⟩ = some (.int .i64 Wd) ∧ b.cell? ⟨X, 1, none⟩ = some (.int .i64 Hd) ∧ b.cell? ⟨X, 2, none⟩ = some (.slice ao n cap) ∧ b.cell? ⟨X, 3, none⟩ = some (.slice bo m bcap) := by
  subst hX
  have := h.1.stays hb
  exact ⟨this, this.c0, this.c1, this.c2, this.c3⟩
theorem rb_ints {p : Prop} (h : RB Wd Hd ao n cap Z bo m bcap B w wr ∧ p) : Ints wr ao n Z := h.1.ints
theorem rb_bools {p : Prop} (h : RB Wd Hd ao n cap Z bo m bcap B w wr ∧ p) : Bools wr bo m B := h.1.bools
theorem rb_tab {p : Prop} (h : RB Wd Hd ao n cap Z bo m bcap B w wr ∧ p) : Tab wr := h.1.tab
theorem rb_below {p : Prop} (h : RB Wd Hd ao n cap Z bo m bcap B w wr ∧ p) : Below w.heap.size w wr := h.1.below
end

def Far (n m : Nat) : Prop := 3000 < n ∨ 3000 < m
end Go.Proofs.YtbfpcolkbfljoaaDoor
