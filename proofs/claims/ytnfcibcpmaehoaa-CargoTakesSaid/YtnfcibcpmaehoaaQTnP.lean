/-
  Sorting parcels: the row in memory, two places exchanged, what is asked of a comparison.
-/
import Derived.Test.YtnfcibcpmaehoaaQPrm
import Derived.Test.YtnfcibcpmaehoaaQRow
namespace Go.Proofs.Ytnfcibcpmaehoaa
open Go.RowKit

/-- Nothing but block g has turned, and what is new. -/
structure Tn (g : Nat) (w w' : World) : Prop where
  os : w'.os = w.os
  tape : w'.tape = w.tape
  output : w'.output = w.output
  size : w.heap.size ≤ w'.heap.size
  block : ∀ k, k < w.heap.size → k ≠ g → w'.heap[k]? = w.heap[k]?
theorem Tn.refl (g : Nat) (w : World) : Tn g w w := ⟨rfl, rfl, rfl, Nat.le_refl _, fun _ _ _ => rfl⟩
theorem Tn.trans {g : Nat} {a b c : World} (h : Tn g a b) (k : Tn g b c) : Tn g a c :=
  ⟨k.os.trans h.os, k.tape.trans h.tape, k.output.trans h.output, Nat.le_trans h.size k.size, fun i hi hn => (k.block i (Nat.lt_of_lt_of_le hi h.size) hn).trans (h.block i hi hn)⟩
theorem Tn.of_below {g : Nat} {w w' : World} (h : Below w.heap.size w w') : Tn g w w' := ⟨h.os, h.tape, h.output, h.size, fun k hk _ => h.block k hk⟩
theorem Tn.put {g j : Nat} {w w' : World} (h : Tn g w w') (v : Value) : Tn g w (w'.setCell ⟨g, j, none⟩ v) := ⟨h.os, h.tape, h.output, by simpa [World.setCell] using h.size, fun k hk hn => (Below.heap_setCell _ _ _ k hn).trans (h.block k hk hn)⟩
theorem Tn.below {g B : Nat} {w w' : World} (h : Tn g w w') (hg : B ≤ g) (hB : B ≤ w.heap.size) : Below B w w' := ⟨h.os, h.tape, h.output, h.size, fun k hk => h.block k (by omega) (by omega)⟩
theorem Tn.heap {g b : Nat} {w w' : World} {o : Obj} (h : Tn g w w') (hb : w.heap[b]? = some o) (hn : b ≠ g) : w'.heap[b]? = some o := (h.block b (heap_lt hb) hn).trans hb
theorem Tn.cell {g : Nat} {w w' : World} (h : Tn g w w') {p : Addr} (hp : p.block < w.heap.size) (hn : p.block ≠ g) : w'.cell? p = w.cell? p := World.cell?_of_block (w := w) (h.block p.block hp hn)
theorem encP_set (q : Nat) (L : Nat → Par) (j : Nat) (x : Par) : ((((((encP q L).set (j * 6) (.int .i64 x.k)).set (j * 6 + 1) (.int .i64 x.f)).set (j * 6 + 2) (.int .i64 x.t)).set (j * 6 + 3) (.int .i64 x.a)).set (j * 6 + 4) (.int .i64 x.c)).set (j * 6 + 5) (.int .i64 x.s) = encP q (updP L j x) := by
  refine encP_ext (by simp [encP_length]) fun i t hi ht => ?_
  have ht6 : t = 0 ∨ t = 1 ∨ t = 2 ∨ t = 3 ∨ t = 4 ∨ t = 5 := by omega
  by_cases e : i = j
  · subst e
    rw [updP_same]
    have h0 := encP_length q L
    rcases ht6 with rfl | rfl | rfl | rfl | rfl | rfl <;> simp [List.getElem?_set, flp] <;> omega
  · rw [updP_ne _ _ e, ← encP_get L hi ht]
    rw [List.getElem?_set_ne (by omega), List.getElem?_set_ne (by omega), List.getElem?_set_ne (by omega), List.getElem?_set_ne (by omega), List.getElem?_set_ne (by omega), List.getElem?_set_ne (by omega)]
/-- The row of parcels at block g, in the order f. -/
def SMP (B g N c : Nat) (E : Nat → Par) (f : Nat → Nat) (w : World) : Prop := RowP w B (.slice (some ⟨g, 0, none⟩) N c) N (fun p => E (f p))
theorem SMP.put {B g N c : Nat} {L : Nat → Par} {w : World} (h : RowP w B (.slice (some ⟨g, 0, none⟩) N c) N L) (j : Nat) (x : Par) : RowP ((((((w.setCell ⟨g, j * 6, none⟩ (.int .i64 (x).k)).setCell ⟨g, j * 6 + 1, none⟩ (.int .i64 (x).f)).setCell ⟨g, j * 6 + 2, none⟩ (.int .i64 (x).t)).setCell ⟨g, j * 6 + 3, none⟩ (.int .i64 (x).a)).setCell ⟨g, j * 6 + 4, none⟩ (.int .i64 (x).c)).setCell ⟨g, j * 6 + 5, none⟩ (.int .i64 (x).s)) B (.slice (some ⟨g, 0, none⟩) N c) N (updP L j x) := by
  have := (((((h.stored (j * 6) (.int .i64 x.k)).1.stored (j * 6 + 1) (.int .i64 x.f)).1.stored (j * 6 + 2) (.int .i64 x.t)).1.stored (j * 6 + 3) (.int .i64 x.a)).1.stored (j * 6 + 4) (.int .i64 x.c)).1.stored (j * 6 + 5) (.int .i64 x.s)
  rw [encP_set] at this
  exact this.1
theorem SMP.swap {B g N c : Nat} {E : Nat → Par} {f : Nat → Nat} {w : World} (h : SMP B g N c E f w) (i j : Nat) : SMP B g N c E (swp f i j) ((((((((((((w.setCell ⟨g, i * 6, none⟩ (.int .i64 (E (f j)).k)).setCell ⟨g, i * 6 + 1, none⟩ (.int .i64 (E (f j)).f)).setCell ⟨g, i * 6 + 2, none⟩ (.int .i64 (E (f j)).t)).setCell ⟨g, i * 6 + 3, none⟩ (.int .i64 (E (f j)).a)).setCell ⟨g, i * 6 + 4, none⟩ (.int .i64 (E (f j)).c)).setCell ⟨g, i * 6 + 5, none⟩ (.int .i64 (E (f j)).s)).setCell ⟨g, j * 6, none⟩ (.int .i64 (E (f i)).k)).setCell ⟨g, j * 6 + 1, none⟩ (.int .i64 (E (f i)).f)).setCell ⟨g, j * 6 + 2, none⟩ (.int .i64 (E (f i)).t)).setCell ⟨g, j * 6 + 3, none⟩ (.int .i64 (E (f i)).a)).setCell ⟨g, j * 6 + 4, none⟩ (.int .i64 (E (f i)).c)).setCell ⟨g, j * 6 + 5, none⟩ (.int .i64 (E (f i)).s)) := by
  refine RowP.congr (SMP.put (SMP.put h i (E (f j))) j (E (f i))) (fun p _ => ?_)
  unfold swp updP
  by_cases h1 : p = j
  · subst h1
    by_cases h2 : p = i
    · subst h2; simp
    · simp [h2]
  · by_cases h2 : p = i
    · subst h2; simp [h1]
    · simp [h1, h2]
theorem SMP.at_ {B g N c : Nat} {E : Nat → Par} {f : Nat → Nat} {w : World} (h : SMP B g N c E f w) {i : Nat} (hi : i < N) : w.cell? ⟨g, i * 6, none⟩ = some (.int .i64 (E (f i)).k) ∧ w.cell? ⟨g, i * 6 + 1, none⟩ = some (.int .i64 (E (f i)).f) ∧ w.cell? ⟨g, i * 6 + 2, none⟩ = some (.int .i64 (E (f i)).t) ∧ w.cell? ⟨g, i * 6 + 3, none⟩ = some (.int .i64 (E (f i)).a) ∧ w.cell? ⟨g, i * 6 + 4, none⟩ = some (.int .i64 (E (f i)).c) ∧ w.cell? ⟨g, i * 6 + 5, none⟩ = some (.int .i64 (E (f i)).s) := RowP.cell h hi
theorem SMP.half {B g N c : Nat} {E : Nat → Par} {f : Nat → Nat} {w : World} (h : SMP B g N c E f w) {j : Nat} (i : Nat) (x : Par) (hj : j < N) (hne : j ≠ i) : (((((((w.setCell ⟨g, i * 6, none⟩ (.int .i64 (x).k)).setCell ⟨g, i * 6 + 1, none⟩ (.int .i64 (x).f)).setCell ⟨g, i * 6 + 2, none⟩ (.int .i64 (x).t)).setCell ⟨g, i * 6 + 3, none⟩ (.int .i64 (x).a)).setCell ⟨g, i * 6 + 4, none⟩ (.int .i64 (x).c)).setCell ⟨g, i * 6 + 5, none⟩ (.int .i64 (x).s)).cell? ⟨g, j * 6, none⟩ = some (.int .i64 (E (f j)).k) ∧ ((((((w.setCell ⟨g, i * 6, none⟩ (.int .i64 (x).k)).setCell ⟨g, i * 6 + 1, none⟩ (.int .i64 (x).f)).setCell ⟨g, i * 6 + 2, none⟩ (.int .i64 (x).t)).setCell ⟨g, i * 6 + 3, none⟩ (.int .i64 (x).a)).setCell ⟨g, i * 6 + 4, none⟩ (.int .i64 (x).c)).setCell ⟨g, i * 6 + 5, none⟩ (.int .i64 (x).s)).cell? ⟨g, j * 6 + 1, none⟩ = some (.int .i64 (E (f j)).f) ∧ ((((((w.setCell ⟨g, i * 6, none⟩ (.int .i64 (x).k)).setCell ⟨g, i * 6 + 1, none⟩ (.int .i64 (x).f)).setCell ⟨g, i * 6 + 2, none⟩ (.int .i64 (x).t)).setCell ⟨g, i * 6 + 3, none⟩ (.int .i64 (x).a)).setCell ⟨g, i * 6 + 4, none⟩ (.int .i64 (x).c)).setCell ⟨g, i * 6 + 5, none⟩ (.int .i64 (x).s)).cell? ⟨g, j * 6 + 2, none⟩ = some (.int .i64 (E (f j)).t) ∧ ((((((w.setCell ⟨g, i * 6, none⟩ (.int .i64 (x).k)).setCell ⟨g, i * 6 + 1, none⟩ (.int .i64 (x).f)).setCell ⟨g, i * 6 + 2, none⟩ (.int .i64 (x).t)).setCell ⟨g, i * 6 + 3, none⟩ (.int .i64 (x).a)).setCell ⟨g, i * 6 + 4, none⟩ (.int .i64 (x).c)).setCell ⟨g, i * 6 + 5, none⟩ (.int .i64 (x).s)).cell? ⟨g, j * 6 + 3, none⟩ = some (.int .i64 (E (f j)).a) ∧ ((((((w.setCell ⟨g, i * 6, none⟩ (.int .i64 (x).k)).setCell ⟨g, i * 6 + 1, none⟩ (.int .i64 (x).f)).setCell ⟨g, i * 6 + 2, none⟩ (.int .i64 (x).t)).setCell ⟨g, i * 6 + 3, none⟩ (.int .i64 (x).a)).setCell ⟨g, i * 6 + 4, none⟩ (.int .i64 (x).c)).setCell ⟨g, i * 6 + 5, none⟩ (.int .i64 (x).s)).cell? ⟨g, j * 6 + 4, none⟩ = some (.int .i64 (E (f j)).c) ∧ ((((((w.setCell ⟨g, i * 6, none⟩ (.int .i64 (x).k)).setCell ⟨g, i * 6 + 1, none⟩ (.int .i64 (x).f)).setCell ⟨g, i * 6 + 2, none⟩ (.int .i64 (x).t)).setCell ⟨g, i * 6 + 3, none⟩ (.int .i64 (x).a)).setCell ⟨g, i * 6 + 4, none⟩ (.int .i64 (x).c)).setCell ⟨g, i * 6 + 5, none⟩ (.int .i64 (x).s)).cell? ⟨g, j * 6 + 5, none⟩ = some (.int .i64 (E (f j)).s)) ∧ ∀ k, (((((((w.setCell ⟨g, i * 6, none⟩ (.int .i64 (x).k)).setCell ⟨g, i * 6 + 1, none⟩ (.int .i64 (x).f)).setCell ⟨g, i * 6 + 2, none⟩ (.int .i64 (x).t)).setCell ⟨g, i * 6 + 3, none⟩ (.int .i64 (x).a)).setCell ⟨g, i * 6 + 4, none⟩ (.int .i64 (x).c)).setCell ⟨g, i * 6 + 5, none⟩ (.int .i64 (x).s))).frozen? ⟨g, k, none⟩ = false := by
  have h1 := SMP.put (L := fun p => E (f p)) h i x
  have h2 := RowP.cell h1 hj
  rw [updP_ne _ _ hne] at h2
  exact ⟨h2, fun k => World.ownsRow.frozenAt h1 k⟩
theorem SMP.stays {B g N c : Nat} {E : Nat → Par} {f : Nat → Nat} {w w' : World} (h : SMP B g N c E f w) (k : Below w.heap.size w w') : SMP B g N c E f w' := row_stays h k
theorem SMP.lt {B g N c : Nat} {E : Nat → Par} {f : Nat → Nat} {w : World} (h : SMP B g N c E f w) : B ≤ g ∧ g < w.heap.size := World.ownsRow.lt h g rfl
theorem SMP.fz {B g N c : Nat} {E : Nat → Par} {f : Nat → Nat} {w : World} (h : SMP B g N c E f w) (j : Nat) : w.frozen? ⟨g, j, none⟩ = false := World.ownsRow.frozenAt h j
/-- What is asked of a comparison: of two elements it tells which one has the lesser rank, the first being the later one of the beginning. -/
def CmP (G : Nat) (lb : Array Value) (g N : Nat) (E : Nat → Par) (r : Nat → Int) (w : World) : Prop :=
  ∀ (W : World) (i j : Nat), i < j → j < N → Tn g w W → Calls Try.prog G (#[pv (E j), pv (E i)] ++ lb) W fun e W' => ∃ s : Int, e = .returned (.int .i64 s) ∧ (s < 0 ↔ r j < r i) ∧ Below W.heap.size W W'
theorem CmP.on {G : Nat} {lb : Array Value} {g N : Nat} {E : Nat → Par} {r : Nat → Int} {w w' : World} (h : CmP G lb g N E r w) (k : Tn g w w') : CmP G lb g N E r w' := fun W i j hij hj hW => h W i j hij hj (k.trans hW)
end Go.Proofs.Ytnfcibcpmaehoaa
