/-
  The walk of Loose of the program: the spots that lead nowhere.
-/
import Derived.Test.YtlpmahdplilbiabDoorLawNext
namespace Go.Proofs.YtlpmahdplilbiabDoor
open Go.RowKit

/-- The k-th of all spots; whether it lies and leads nowhere; those among the first k. -/
def spotK (k : Nat) : Int × Int × Int := (((k / 24 : Nat) : Int), ((k / 4 % 6 : Nat) : Int), ((k % 4 : Nat) : Int))
def lseB (W H : Int) (n : Nat) (Z : Nat → Int) (k : Nat) : Bool := decide (0 ≤ oth (spotK k).2.1 (spotK k).2.2) && Lie n Z (spotK k).1 (spotK k).2.1 && (nxt W H Z (spotK k).1 (spotK k).2.2).isEmpty
def loo (W H : Int) (n : Nat) (Z : Nat → Int) : Nat → List (Int × Int × Int)
  | 0 => []
  | k + 1 => if lseB W H n Z k = true then loo W H n Z k ++ [spotK k] else loo W H n Z k
theorem loo_yes {W H : Int} {n : Nat} {Z : Nat → Int} {k : Nat} (h : lseB W H n Z k = true) : loo W H n Z (k + 1) = loo W H n Z k ++ [spotK k] := by
  show (if _ then _ else _) = _
  rw [if_pos h]
theorem loo_no {W H : Int} {n : Nat} {Z : Nat → Int} {k : Nat} (h : lseB W H n Z k = false) : loo W H n Z (k + 1) = loo W H n Z k := by
  show (if _ then _ else _) = _
  rw [if_neg (by rw [h]; simp)]
theorem loo_len (W H : Int) (n : Nat) (Z : Nat → Int) (k : Nat) : (loo W H n Z k).length ≤ k := by
  induction k with
  | zero => exact Nat.le_refl _
  | succ k ih =>
    cases h : lseB W H n Z k
    · rw [loo_no h]; omega
    · rw [loo_yes h, List.length_append]; simp; omega
theorem lse_iff {W H : Int} {n : Nat} {Z : Nat → Int} {k : Nat} {t p s : Int} (e : spotK k = (t, p, s)) : lseB W H n Z k = true ↔ IsSpot n Z t p s ∧ nxt W H Z t s = [] := by
  unfold lseB IsSpot
  rw [e]
  simp [and_assoc]

/-- The memory of Loose. -/
structure QS (Wd Hd : Int) (ao : Option Addr) (n cap : Nat) (Z : Nat → Int) (bo : Option Addr) (m bcap : Nat) (B : Nat → Bool) (L : List (Int × Int × Int)) (lst : Value) (w wr : World) : Prop where
  rb : RB Wd Hd ao n cap Z bo m bcap B w wr
  row : wr.ownsRow (w.heap.size + 1) 32 3 lst L.length (encS L)
section
variable {Wd Hd : Int} {ao bo : Option Addr} {n cap m bcap : Nat} {Z : Nat → Int} {B : Nat → Bool} {L : List (Int × Int × Int)} {lst lst' : Value} {w wr w' : World} {x : Int × Int × Int}
theorem QS.stays (h : QS Wd Hd ao n cap Z bo m bcap B L lst w wr) (k : Below wr.heap.size wr w') : QS Wd Hd ao n cap Z bo m bcap B L lst w w' := ⟨h.rb.stays k, row_stays h.row k⟩
theorem RB.far (h : RB Wd Hd ao n cap Z bo m bcap B w wr) (hT : Tab w) (hI : Ints w ao n Z) (hB : Bools w bo m B) (k : Below (w.heap.size + 1) wr w') : RB Wd Hd ao n cap Z bo m bcap B w w' := by
  have hb := h.below.trans (k.mono (Nat.le_succ _))
  exact ⟨hb, Nat.lt_of_lt_of_le h.size k.size, (k.cell (p := ⟨w.heap.size, 0, none⟩) (Nat.lt_succ_self _)).trans h.c0, (k.cell (p := ⟨w.heap.size, 1, none⟩) (Nat.lt_succ_self _)).trans h.c1, (k.cell (p := ⟨w.heap.size, 2, none⟩) (Nat.lt_succ_self _)).trans h.c2,
    (k.cell (p := ⟨w.heap.size, 3, none⟩) (Nat.lt_succ_self _)).trans h.c3, hI.stays hb, hB.stays hb, hT.stays hb⟩
theorem QS.app (h : QS Wd Hd ao n cap Z bo m bcap B L lst w wr) (hT : Tab w) (hI : Ints w ao n Z) (hB : Bools w bo m B) (hr : w'.ownsRow (w.heap.size + 1) 32 3 lst' (L.length + 1) (encS L ++ sc x)) (o : Obj) (hg : (wr.alloc o).grownBy w' lst.ownBlock) :
    QS Wd Hd ao n cap Z bo m bcap B (L ++ [x]) lst' w w' := by
  have ho : ∀ k, lst.ownBlock = some k → w.heap.size + 1 ≤ k := fun k hk => (h.row.lt k hk).1
  have hsz := h.rb.size
  have hb : Below (w.heap.size + 1) wr w' := ((Below.refl _ wr).alloc (by omega) o).grown hg (by simp; omega) ho
  refine ⟨h.rb.far hT hI hB hb, ?_⟩
  rw [List.length_append, encS_snoc]
  exact hr
end

end Go.Proofs.YtlpmahdplilbiabDoor
