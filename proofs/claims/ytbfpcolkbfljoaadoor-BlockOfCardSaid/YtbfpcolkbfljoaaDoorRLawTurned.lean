/-
  The walk of the law that what is behind a spot leads back to it.
-/
import Derived.Test.YtbfpcolkbfljoaaDoorRTurn
import Derived.Test.YtbfpcolkbfljoaaDoorRLawNext
namespace Go.Proofs.YtbfpcolkbfljoaaDoor
open Go.RowKit

/-- The memory of the law: its boxes, the spots behind the spot, the spot turned round. -/
structure TS (A C : Nat) (W H : Int) (ao : Option Addr) (n cap : Nat) (Z : Nat → Int) (bo : Option Addr) (m bcap : Nat) (B : Nat → Bool) (t p s t' p' s' : Int) (L : List (Int × Int × Int)) (lst : Value) (w wr : World) : Prop where
  nb : NB A W H ao n cap Z bo m bcap B t p s w wr
  row : wr.ownsRow (A + 2) 50 3 lst L.length (encS L)
  bk : wr.heap[C]? = some (.cells #[.int .i64 t', .int .i64 p', .int .i64 s'] 50 (0, 0))
section
variable {A C : Nat} {W H : Int} {ao bo : Option Addr} {n cap m bcap : Nat} {Z : Nat → Int} {B : Nat → Bool} {t p s t' p' s' : Int} {L : List (Int × Int × Int)} {lst : Value} {w wr w' : World}
theorem TS.stays (h : TS A C W H ao n cap Z bo m bcap B t p s t' p' s' L lst w wr) (k : Below wr.heap.size wr w') : TS A C W H ao n cap Z bo m bcap B t p s t' p' s' L lst w w' :=
  ⟨h.nb.stays k, row_stays h.row k, (k.block _ (heap_lt h.bk)).trans h.bk⟩
theorem TS.back (h : TS A C W H ao n cap Z bo m bcap B t p s t' p' s' L lst w wr) : wr.cell? ⟨C, 0, none⟩ = some (.int .i64 t') ∧ wr.cell? ⟨C, 1, none⟩ = some (.int .i64 p') ∧ wr.cell? ⟨C, 2, none⟩ = some (.int .i64 s') :=
  ⟨cell_of_row wr C 0 _ _ _ h.bk, cell_of_row wr C 1 _ _ _ h.bk, cell_of_row wr C 2 _ _ _ h.bk⟩
end
theorem getD_mem {L : List (Int × Int × Int)} {j : Nat} (h : j < L.length) : L.getD j (0, 0, 0) ∈ L := by
  rw [List.getD_eq_getElem?_getD, List.getElem?_eq_getElem h]; exact List.getElem_mem _
theorem mem_getD {L : List (Int × Int × Int)} {x : Int × Int × Int} (h : x ∈ L) : ∃ j, j < L.length ∧ L.getD j (0, 0, 0) = x := by
  obtain ⟨j, hj, rfl⟩ := List.getElem_of_mem h
  exact ⟨j, hj, by rw [List.getD_eq_getElem?_getD, List.getElem?_eq_getElem hj]; rfl⟩

end Go.Proofs.YtbfpcolkbfljoaaDoor
