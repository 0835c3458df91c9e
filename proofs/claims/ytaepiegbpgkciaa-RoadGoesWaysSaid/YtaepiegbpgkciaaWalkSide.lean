/-
  The memory of the search for parts, and the walk of its closure: a tile more on the path, if a side leads to one that has no part yet.
-/
import Derived.Test.YtaepiegbpgkciaaWalkExits
import Derived.Test.YtaepiegbpgkciaaStruct
import Derived.Test.YtaepiegbpgkciaaPart
namespace Go.Proofs.Ytaepiegbpgkciaa
open Go.RowKit

/-- The path as it lies in memory: its last tile comes first in the list. -/
def pth (L : List Nat) : List Int := L.reverse.map fun t : Nat => (t : Int)
theorem pth_cons (u : Nat) (L : List Nat) : encI (pth (u :: L)) = encI (pth L) ++ [.int .i64 u] := by simp [pth, encI]
theorem pth_length (L : List Nat) : (encI (pth L)).length = L.length := by simp [pth, encI]
theorem pth_top (t : Nat) (L : List Nat) : (encI (pth (t :: L)))[L.length]? = some (.int .i64 t) := by
  rw [pth_cons, List.getElem?_append_right (by rw [pth_length]; exact Nat.le_refl _), pth_length]
  simp
/-- How many tiles have no part yet. -/
def bare (P : Nat → Int) (n : Nat) : Nat := free (fun t => - P t) 0 n
theorem bare_upd {P : Nat → Int} {n u : Nat} {x : Int} (hu : u < n) (h : P u < 0) (hx : 0 ≤ x) : bare (upd P u x) n + 1 = bare P n := by
  unfold bare
  rw [← free_upd (P := fun t => - P t) (c := 0) (x := -x) hu (by show 0 < - P u; omega) (by omega)]
  congr 1
  refine free_congr fun i _ => ?_
  show - (if i = u then x else P i) = if i = u then -x else - P i
  split <;> rfl
theorem bare_le (P : Nat → Int) (n : Nat) : bare P n ≤ n := free_le _ _ _
/-- A row but for its last element. -/
theorem row_cut {w : World} {B g n c : Nat} {e : TypeId} {xs : List Value} {x : Value} (h : w.ownsRow B e 1 (.slice (some ⟨g, 0, none⟩) (n + 1) c) (n + 1) (xs ++ [x])) : w.ownsRow B e 1 (.slice (some ⟨g, 0, none⟩) n c) n xs := by
  obtain ⟨hl, h⟩ := h
  simp at hl
  rcases h with ⟨hv, _⟩ | ⟨g', cap, cur, hv, hb, hh, hn, hm, hs, ht⟩
  · cases hv
  · cases hv
    refine ⟨by omega, .inr ⟨g, c, cur, rfl, hb, hh, by omega, hm, hs, ?_⟩⟩
    have := congrArg (List.take (n * 1)) ht
    rw [List.take_take] at this
    rw [show min (n * 1) ((n + 1) * 1) = n * 1 by omega] at this
    rw [this, List.take_append_of_le_length (by omega), List.take_of_length_le (by omega)]

theorem set1 {w : World} {g : Nat} {t : TypeId} {p : Value} (h : w.heap[g]? = some (.cells #[p] t (0, 0))) (a : Value) : (w.setCell ⟨g, 0, none⟩ a).heap[g]? = some (.cells #[a] t (0, 0)) := heap_setCell_same _ g 0 _ _ a h
/-- The boxes of the search: the streets at A, the parts' row at G and its box at E, the path's box at D. -/
structure PS (A G E D : Nat) (W H : Int) (ao : Option Addr) (n cap : Nat) (Z : Nat → Int) (bo : Option Addr) (bcap : Nat) (Y P : Nat → Int) (L : List Nat) (lst : Value) (w wr : World) : Prop where
  hA : wr.heap[A]? = some (.cells #[.int .i64 W, .int .i64 H, .slice ao n cap, .slice bo n bcap] 24 (0, 0))
  hE : wr.heap[E]? = some (.cells #[.slice (some ⟨G, 0, none⟩) n n] 22 (0, 0))
  hD : wr.heap[D]? = some (.cells #[lst] 22 (0, 0))
  rg : wr.ownsRow A 3 1 (.slice (some ⟨G, 0, none⟩) n n) n (vals n (iv P))
  row : wr.ownsRow (D + 1) 3 1 lst L.length (encI (pth L))
  below : Below A w wr
  eA : A = w.heap.size
  ord : A < G ∧ G < E ∧ E < D
  arms0 : Ints w ao n Z
  ways0 : Ints w bo n Y
section
variable {A G E D : Nat} {W H : Int} {ao bo : Option Addr} {n cap bcap : Nat} {Z Y P : Nat → Int} {L : List Nat} {lst lst' : Value} {w wr w' : World}
theorem PS.arms (h : PS A G E D W H ao n cap Z bo bcap Y P L lst w wr) : Ints wr ao n Z := h.arms0.stays (by rw [← h.eA]; exact h.below)
theorem PS.ways (h : PS A G E D W H ao n cap Z bo bcap Y P L lst w wr) : Ints wr bo n Y := h.ways0.stays (by rw [← h.eA]; exact h.below)
theorem PS.drew (h : PS A G E D W H ao n cap Z bo bcap Y P L lst w wr) : PS A G E D W H ao n cap Z bo bcap Y P L lst w wr.drew := ⟨h.hA, h.hE, h.hD, h.rg.drew, h.row.drew, h.below.drew, h.eA, h.ord, h.arms0, h.ways0⟩
theorem PS.stays (h : PS A G E D W H ao n cap Z bo bcap Y P L lst w wr) (k : Below wr.heap.size wr w') : PS A G E D W H ao n cap Z bo bcap Y P L lst w w' :=
  ⟨(k.block A (heap_lt h.hA)).trans h.hA, (k.block E (heap_lt h.hE)).trans h.hE, (k.block D (heap_lt h.hD)).trans h.hD, row_stays h.rg k, row_stays h.row k, h.below.trans (k.mono (by have := heap_lt h.hA; omega)), h.eA, h.ord, h.arms0, h.ways0⟩
theorem PS.own (h : PS A G E D W H ao n cap Z bo bcap Y P L lst w wr) : ∀ k, lst.ownBlock = some k → D + 1 ≤ k := fun k hk => (h.row.lt k hk).1
theorem PS.mark (h : PS A G E D W H ao n cap Z bo bcap Y P L lst w wr) (u : Nat) (x : Int) : PS A G E D W H ao n cap Z bo bcap Y (upd P u x) L lst w (wr.setCell ⟨G, u, none⟩ (.int .i64 x)) := by
  obtain ⟨o1, o2, o3⟩ := h.ord
  have r := h.rg.stored u (.int .i64 x)
  rw [vals_upd] at r
  have e : ∀ b, b ≠ G → (wr.setCell ⟨G, u, none⟩ (.int .i64 x)).heap[b]? = wr.heap[b]? := fun b hb => Below.heap_setCell _ _ _ b (by simpa using hb)
  refine ⟨(e A (by omega)).trans h.hA, (e E (by omega)).trans h.hE, (e D (by omega)).trans h.hD, r.1, row_other (a := ⟨G, u, none⟩) h.row (fun q => ?_) _, h.below.setCell (p := ⟨G, u, none⟩) (by show A ≤ G; omega) _, h.eA, h.ord, h.arms0, h.ways0⟩
  have := h.own _ q
  simp at this
  omega
theorem PS.put (h : PS A G E D W H ao n cap Z bo bcap Y P L lst w wr) {L' : List Nat} (k : wr.ownsRow (D + 1) 3 1 lst' L'.length (encI (pth L'))) : PS A G E D W H ao n cap Z bo bcap Y P L' lst' w (wr.setCell ⟨D, 0, none⟩ lst') := by
  obtain ⟨o1, o2, o3⟩ := h.ord
  have e : ∀ b, b ≠ D → (wr.setCell ⟨D, 0, none⟩ lst').heap[b]? = wr.heap[b]? := fun b hb => Below.heap_setCell _ _ _ b (by simpa using hb)
  refine ⟨(e A (by omega)).trans h.hA, (e E (by omega)).trans h.hE, ?_, row_other (a := ⟨D, 0, none⟩) h.rg (by simp [Value.ownBlock]; omega) _, row_other (a := ⟨D, 0, none⟩) k (fun q => ?_) _, h.below.setCell (p := ⟨D, 0, none⟩) (by show A ≤ D; omega) _, h.eA, h.ord, h.arms0, h.ways0⟩
  · exact set1 h.hD _
  · have := (k.lt _ q).1
    simp at this
    omega
theorem PS.app {u : Nat} (h : PS A G E D W H ao n cap Z bo bcap Y P L lst w wr) (o : Obj) (hg : (wr.alloc o).grownBy w' lst.ownBlock) (hr : w'.ownsRow (D + 1) 3 1 lst' (L.length + 1) (encI (pth L) ++ [.int .i64 u])) : PS A G E D W H ao n cap Z bo bcap Y P (u :: L) lst' w (w'.setCell ⟨D, 0, none⟩ lst') := by
  obtain ⟨o1, o2, o3⟩ := h.ord
  have hz := heap_lt h.hD
  have hb : Below (D + 1) wr w' := ((Below.refl _ wr).alloc (by omega) o).grown hg (by simp; omega) h.own
  have hD := (hb.block D (by omega)).trans h.hD
  have e : ∀ b, b ≠ D → (w'.setCell ⟨D, 0, none⟩ lst').heap[b]? = w'.heap[b]? := fun b hb => Below.heap_setCell _ _ _ b (by simpa using hb)
  refine ⟨((e A (by omega)).trans (hb.block A (by omega))).trans h.hA, ((e E (by omega)).trans (hb.block E (by omega))).trans h.hE, set1 hD _, row_other (a := ⟨D, 0, none⟩) (row_below h.rg hb (fun k hk => ?_)) (by simp [Value.ownBlock]; omega) _, row_other (a := ⟨D, 0, none⟩) ?_ (fun q => ?_) _, (h.below.trans (hb.mono (by omega))).setCell (p := ⟨D, 0, none⟩) (by show A ≤ D; omega) _, h.eA, h.ord, h.arms0, h.ways0⟩
  · simp [Value.ownBlock] at hk
    omega
  · rw [pth_cons]; exact hr
  · have := (hr.lt _ q).1
    simp at this
    omega
theorem PS.boxD (h : PS A G E D W H ao n cap Z bo bcap Y P L lst w wr) (o : Obj) (hg : (wr.alloc o).grownBy w' lst.ownBlock) : w'.cell? ⟨D, 0, none⟩ = some lst ∧ w'.frozen? ⟨D, 0, none⟩ = false ∧ D < w'.heap.size := by
  have hz := heap_lt h.hD
  have hb : Below (D + 1) wr w' := ((Below.refl _ wr).alloc (by omega) o).grown hg (by simp; omega) h.own
  have hD := (hb.block D (by omega)).trans h.hD
  exact ⟨cell_of_row w' D 0 _ _ _ hD, frozen_of_row w' D 0 _ _ hD, heap_lt hD⟩
theorem PS.cells (h : PS A G E D W H ao n cap Z bo bcap Y P L lst w wr) : wr.cell? ⟨A, 0, none⟩ = some (.int .i64 W) ∧ wr.cell? ⟨A, 1, none⟩ = some (.int .i64 H) ∧ wr.cell? ⟨A, 2, none⟩ = some (.slice ao n cap) ∧ wr.cell? ⟨A, 3, none⟩ = some (.slice bo n bcap) ∧ wr.cell? ⟨E, 0, none⟩ = some (.slice (some ⟨G, 0, none⟩) n n) ∧ wr.cell? ⟨D, 0, none⟩ = some lst ∧
    wr.frozen? ⟨D, 0, none⟩ = false ∧ A < wr.heap.size ∧ E < wr.heap.size ∧ D < wr.heap.size :=
  ⟨cell_of_row wr A 0 _ _ _ h.hA, cell_of_row wr A 1 _ _ _ h.hA, cell_of_row wr A 2 _ _ _ h.hA, cell_of_row wr A 3 _ _ _ h.hA, cell_of_row wr E 0 _ _ _ h.hE, cell_of_row wr D 0 _ _ _ h.hD, frozen_of_row wr D 0 _ _ h.hD, heap_lt h.hA, heap_lt h.hE, heap_lt h.hD⟩
theorem PS.part (h : PS A G E D W H ao n cap Z bo bcap Y P L lst w wr) {t : Nat} (ht : t < n) : wr.cell? ⟨G, t, none⟩ = some (.int .i64 (P t)) ∧ wr.frozen? ⟨G, t, none⟩ = false ∧ G < wr.heap.size :=
  ⟨(h.rg.cellAt t (by omega)).trans (vals_get _ ht), h.rg.frozenAt t, (h.rg.lt G rfl).2⟩
theorem PS.top {t : Nat} (h : PS A G E D W H ao n cap Z bo bcap Y P (t :: L) lst w wr) : ∃ b c, lst = .slice (some ⟨b, 0, none⟩) (L.length + 1) c ∧ wr.cell? ⟨b, L.length, none⟩ = some (.int .i64 t) ∧ b < wr.heap.size := by
  obtain ⟨b, c, e, _, _⟩ := h.row.form (by simp)
  have r := h.row
  rw [e] at r
  refine ⟨b, c, e, (r.cellAt L.length (by simp)).trans (pth_top t L), (r.lt b rfl).2⟩
end
end Go.Proofs.Ytaepiegbpgkciaa
