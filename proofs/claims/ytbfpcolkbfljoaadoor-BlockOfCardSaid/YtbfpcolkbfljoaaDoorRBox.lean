/-
  Boxes: a function's own blocks, one for what it was handed by value and one for its result.
-/
import Derived.Test.YtbfpcolkbfljoaaDoorRKit
namespace Go.Proofs.YtbfpcolkbfljoaaDoor
open Go.RowKit

theorem heap_lt {w : World} {b : Nat} {o : Obj} (h : w.heap[b]? = some o) : b < w.heap.size := (Array.getElem?_eq_some_iff.1 h).1
/-- The boxes of a function that takes a struct and hands back a struct. -/
structure Bx2 (B : Nat) (S T : TypeId) (bx rs : Array Value) (w wr : World) : Prop where
  below : Below B w wr
  hb : wr.heap[B]? = some (.cells bx S (0, 0))
  hr : wr.heap[B + 1]? = some (.cells rs T (0, 0))
theorem Bx2.stays {B : Nat} {S T : TypeId} {bx rs : Array Value} {w wr w' : World} (h : Bx2 B S T bx rs w wr) (k : Below wr.heap.size wr w') : Bx2 B S T bx rs w w' :=
  ⟨h.below.trans (k.mono (by have := heap_lt h.hb; omega)), (k.block _ (heap_lt h.hb)).trans h.hb, (k.block _ (heap_lt h.hr)).trans h.hr⟩
theorem bx2_start (w : World) (S T : TypeId) (bx rs : Array Value) : Bx2 w.heap.size S T bx rs w ((w.alloc (.cells bx S)).alloc (.cells rs T)) := by
  refine ⟨Joins.below_alloc2 _ _ _, ?_, ?_⟩
  · show ((w.heap.push _).push _)[_]? = _
    rw [Array.getElem?_push, if_neg (by simp), Array.getElem?_push, if_pos rfl]
  · show ((w.heap.push _).push _)[_]? = _
    rw [Array.getElem?_push, if_pos (by simp)]
theorem set3 {w : World} {g : Nat} {t : TypeId} {p q r : Value} (h : w.heap[g]? = some (.cells #[p, q, r] t (0, 0))) (a b c : Value) :
    (((w.setCell ⟨g, 0, none⟩ a).setCell ⟨g, 1, none⟩ b).setCell ⟨g, 2, none⟩ c).heap[g]? = some (.cells #[a, b, c] t (0, 0)) :=
  heap_setCell_same _ g 2 _ _ c (heap_setCell_same _ g 1 _ _ b (heap_setCell_same _ g 0 _ _ a h))
theorem set3_below {w wr : World} {B g : Nat} (h : Below B w wr) (hg : B ≤ g) (a b c : Value) : Below B w (((wr.setCell ⟨g, 0, none⟩ a).setCell ⟨g, 1, none⟩ b).setCell ⟨g, 2, none⟩ c) :=
  ((h.setCell (p := ⟨g, 0, none⟩) hg a).setCell (p := ⟨g, 1, none⟩) hg b).setCell (p := ⟨g, 2, none⟩) hg c
theorem set4 {w : World} {g : Nat} {t : TypeId} {p q r s : Value} (h : w.heap[g]? = some (.cells #[p, q, r, s] t (0, 0))) (a b c d : Value) :
    ((((w.setCell ⟨g, 0, none⟩ a).setCell ⟨g, 1, none⟩ b).setCell ⟨g, 2, none⟩ c).setCell ⟨g, 3, none⟩ d).heap[g]? = some (.cells #[a, b, c, d] t (0, 0)) :=
  heap_setCell_same _ g 3 _ _ d (heap_setCell_same _ g 2 _ _ c (heap_setCell_same _ g 1 _ _ b (heap_setCell_same _ g 0 _ _ a h)))
theorem set4_below {w wr : World} {B g : Nat} (h : Below B w wr) (hg : B ≤ g) (a b c d : Value) : Below B w ((((wr.setCell ⟨g, 0, none⟩ a).setCell ⟨g, 1, none⟩ b).setCell ⟨g, 2, none⟩ c).setCell ⟨g, 3, none⟩ d) :=
  (((h.setCell (p := ⟨g, 0, none⟩) hg a).setCell (p := ⟨g, 1, none⟩) hg b).setCell (p := ⟨g, 2, none⟩) hg c).setCell (p := ⟨g, 3, none⟩) hg d
end Go.Proofs.YtbfpcolkbfljoaaDoor
