/-
  Sorting numbers: the row in memory, two places exchanged, what is asked of a comparison.
-/
import Derived.Test.YtnfcibcpmaehoaaQPrm
import Derived.Test.YtnfcibcpmaehoaaQTnP
namespace Go.Proofs.Ytnfcibcpmaehoaa
open Go.RowKit

/-- The row of numbers at block g, in the order f. -/
def SMI (B g N c : Nat) (E : Nat → Int) (f : Nat → Nat) (w : World) : Prop := w.ownsRow B 3 1 (.slice (some ⟨g, 0, none⟩) N c) N (vals N (iv fun p => E (f p)))
theorem SMI.put {B g N c : Nat} {L : Nat → Value} {w : World} (h : w.ownsRow B 3 1 (.slice (some ⟨g, 0, none⟩) N c) N (vals N L)) (j : Nat) (x : Value) : (w.setCell ⟨g, j, none⟩ x).ownsRow B 3 1 (.slice (some ⟨g, 0, none⟩) N c) N (vals N (fun i => if i = j then x else L i)) := by
  have := h.stored j x
  rw [vals_set] at this
  exact this.1
theorem SMI.swap {B g N c : Nat} {E : Nat → Int} {f : Nat → Nat} {w : World} (h : SMI B g N c E f w) (i j : Nat) : SMI B g N c E (swp f i j) ((w.setCell ⟨g, i, none⟩ (.int .i64 (E (f j)))).setCell ⟨g, j, none⟩ (.int .i64 (E (f i)))) := by
  have hput := SMI.put (SMI.put h i (.int .i64 (E (f j)))) j (.int .i64 (E (f i)))
  unfold SMI
  rw [vals_congr (G := fun p => if p = j then .int .i64 (E (f i)) else if p = i then .int .i64 (E (f j)) else iv (fun p => E (f p)) p)]
  · exact hput
  · intro p _
    show Value.int .i64 (E (swp f i j p)) = _
    unfold swp
    by_cases e1 : p = j
    · subst e1
      by_cases e2 : p = i
      · subst e2; simp
      · simp [e2]
    · by_cases e2 : p = i
      · subst e2; simp [e1]
      · simp [e1, e2]
theorem SMI.at_ {B g N c : Nat} {E : Nat → Int} {f : Nat → Nat} {w : World} (h : SMI B g N c E f w) {i : Nat} (hi : i < N) : w.cell? ⟨g, i, none⟩ = some (.int .i64 (E (f i))) := (h.cellAt i (by omega)).trans (vals_get _ hi)
theorem SMI.half {B g N c : Nat} {E : Nat → Int} {f : Nat → Nat} {w : World} (h : SMI B g N c E f w) {j : Nat} (i : Nat) (x : Int) (hj : j < N) (hne : j ≠ i) : ((w.setCell ⟨g, i, none⟩ (.int .i64 (x))).cell? ⟨g, j, none⟩ = some (.int .i64 (E (f j)))) ∧ ∀ k, ((w.setCell ⟨g, i, none⟩ (.int .i64 (x)))).frozen? ⟨g, k, none⟩ = false := by
  have h1 := SMI.put (L := iv fun p => E (f p)) h i (.int .i64 x)
  refine ⟨(h1.cellAt j (by omega)).trans ((vals_get _ hj).trans ?_), fun k => World.ownsRow.frozenAt h1 k⟩
  rw [if_neg hne]
theorem SMI.stays {B g N c : Nat} {E : Nat → Int} {f : Nat → Nat} {w w' : World} (h : SMI B g N c E f w) (k : Below w.heap.size w w') : SMI B g N c E f w' := row_stays h k
theorem SMI.lt {B g N c : Nat} {E : Nat → Int} {f : Nat → Nat} {w : World} (h : SMI B g N c E f w) : B ≤ g ∧ g < w.heap.size := World.ownsRow.lt h g rfl
theorem SMI.fz {B g N c : Nat} {E : Nat → Int} {f : Nat → Nat} {w : World} (h : SMI B g N c E f w) (j : Nat) : w.frozen? ⟨g, j, none⟩ = false := World.ownsRow.frozenAt h j
/-- What is asked of a comparison: of two elements it tells which one has the lesser rank, the first being the later one of the beginning. -/
def CmI (G : Nat) (lb : Array Value) (g N : Nat) (E : Nat → Int) (r : Nat → Int) (w : World) : Prop :=
  ∀ (W : World) (i j : Nat), i < j → j < N → Tn g w W → Calls Try.prog G (#[.int .i64 (E j), .int .i64 (E i)] ++ lb) W fun e W' => ∃ s : Int, e = .returned (.int .i64 s) ∧ (s < 0 ↔ r j < r i) ∧ Below W.heap.size W W'
theorem CmI.on {G : Nat} {lb : Array Value} {g N : Nat} {E : Nat → Int} {r : Nat → Int} {w w' : World} (h : CmI G lb g N E r w) (k : Tn g w w') : CmI G lb g N E r w' := fun W i j hij hj hW => h W i j hij hj (k.trans hW)
end Go.Proofs.Ytnfcibcpmaehoaa
