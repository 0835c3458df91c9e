/-
  The glue of the walks of rails: calls that make new blocks alone, lists in memory, rails as values, the table of ends.
-/
import Derived.Test.YtbfpcolkbfljoaaDoorRows
import Derived.Test.YtbfpcolkbfljoaaDoorRRail
import Derived.WalkKit
import Derived.WalkSpells
import Derived.WalkLawsBesides
import Derived.BigQuiet
import Derived.BigRegion
import Derived.Deep.QuietTactic
import Derived.Lib.LaidTab
import Derived.Lib.SmallJoins
namespace Go.Proofs.YtbfpcolkbfljoaaDoor
open Go.RowKit

/-- Behind a call that began with a new block at the heap's end: what that block holds, and that nothing below has turned. -/
theorem after {w1 w2 : World} {c : Array Value} {t : TypeId} (hb : Below (w1.alloc (.cells c t)).heap.size (w1.alloc (.cells c t)) w2) :
    w1.heap.size < w2.heap.size ∧ (∀ i, w2.cell? ⟨w1.heap.size, i, none⟩ = c[i]?) ∧ Below w1.heap.size w1 w2 := by
  have hs := hb.size
  rw [World.size_alloc] at hs
  refine ⟨by omega, fun i => ?_, ((Below.refl _ w1).alloc (Nat.le_refl _) _).trans (hb.mono (by rw [World.size_alloc]; omega))⟩
  rw [hb.cell (p := ⟨w1.heap.size, i, none⟩) (by rw [World.size_alloc]; simp)]
  exact World.cell?_alloc_at _ _ _ _ rfl
/-- One call behind another; a new block behind a call. -/
theorem step {w w1 w2 : World} (h : Below w.heap.size w w1) (k : Below w1.heap.size w1 w2) : Below w.heap.size w w2 := h.trans (k.mono h.size)
theorem add {w w1 : World} (h : Below w.heap.size w w1) (o : Obj) : Below w.heap.size w (w1.alloc o) := h.alloc h.size o
/-- A fact that is kept from the walk. -/
theorem hid {p : Prop} (h : p) : Hid p := h
theorem ret_bool {a b : Bool} (h : a = b) : Ending.returned (.bool a) = .returned (.bool b) := by rw [h]
theorem ret_int {k : IntKind} {a b : Int} (h : a = b) : Ending.returned (.int k a) = .returned (.int k b) := by rw [h]
theorem lt_of_cell {w : World} {a : Addr} {v : Value} (h : w.cell? a = some v) : a.block < w.heap.size := by
  by_cases hl : a.block < w.heap.size
  · exact hl
  · have e : w.heap[a.block]? = none := Array.getElem?_eq_none (by omega)
    simp [World.cell?, e] at h

/-- A contract of a callee that leaves the world as it is, met in a region that draws. -/
theorem quiet_eq {f : FuncId} {args : Array Value} {w : World} {n : Nat} {v : Value} (h : Calls Tryd.prog f args (w.drewN n) fun e w' => e = .returned v ∧ w.drewN n = w') :
    Calls Tryd.prog f args (w.drewN n) fun e w'' => e = .returned v ∧ ∃ m, w'' = w.drewN m := h.mono fun _ _ ⟨he, hm⟩ => ⟨he, n, hm.symm⟩

/-- Rails as a value: the sides, the slice of the sets, the slice of the wires; a spot as a value. -/
abbrev rv (W H : Int) (s b : Value) : Value := .agg #[.int .i64 W, .int .i64 H, s, b]
abbrev sv (t p o : Int) : Value := .agg #[.int .i64 t, .int .i64 p, .int .i64 o]
/-- The slice at an address holds these values, n of them. -/
def Vals (w : World) (ao : Option Addr) (n : Nat) (F : Nat → Value) : Prop :=
  ∀ j : Nat, j < n → ∃ b off : Nat, ao = some ⟨b, off, none⟩ ∧ b < w.heap.size ∧ w.cell? ⟨b, off + j, none⟩ = some (F j)
abbrev Ints (w : World) (ao : Option Addr) (n : Nat) (Z : Nat → Int) : Prop := Vals w ao n fun j => .int .i64 (Z j)
abbrev Bools (w : World) (ao : Option Addr) (n : Nat) (B : Nat → Bool) : Prop := Vals w ao n fun j => .bool (B j)
theorem Vals.stays {w w' : World} {ao : Option Addr} {n : Nat} {F : Nat → Value} (h : Vals w ao n F) (hb : Below w.heap.size w w') : Vals w' ao n F := fun j hj => by
  obtain ⟨b, off, e, hz, hc⟩ := h j hj
  exact ⟨b, off, e, by have := hb.size; omega, (hb.cell (p := ⟨b, off + j, none⟩) hz).trans hc⟩
/-- In a slice that has a value all lie in one block. -/
theorem Vals.one {w : World} {ao : Option Addr} {n : Nat} {F : Nat → Value} (h : Vals w ao n F) (hn : 0 < n) :
    ∃ b off : Nat, ao = some ⟨b, off, none⟩ ∧ b < w.heap.size ∧ ∀ j, j < n → w.cell? ⟨b, off + j, none⟩ = some (F j) := by
  obtain ⟨b, off, e, hz, hc⟩ := h 0 hn
  refine ⟨b, off, e, hz, fun j hj => ?_⟩
  obtain ⟨b', off', e', hz', hc'⟩ := h j hj
  rw [e] at e'
  cases e'
  exact hc'

/-- The table of ends lies in the program's first variable. -/
def Tab (w : World) : Prop := ∀ p : Nat, p < 6 → w.cell? ⟨0, 2 * p, none⟩ = some (.int .i64 (fst p)) ∧ w.cell? ⟨0, 2 * p + 1, none⟩ = some (.int .i64 (snd p))
theorem Tab.stays {w w' : World} (h : Tab w) (hb : Below w.heap.size w w') : Tab w' := fun p hp =>
  have h0 := h p hp
  ⟨(hb.cell (p := ⟨0, 2 * p, none⟩) (lt_of_cell h0.1)).trans h0.1, (hb.cell (p := ⟨0, 2 * p + 1, none⟩) (lt_of_cell h0.2)).trans h0.2⟩
theorem Tab.stays' {w w' : World} {B : Nat} (h : Tab w) (hb : Below B w w') (hB : w.heap.size ≤ B) : Tab w' := fun p hp =>
  have h0 := h p hp
  ⟨(hb.cell (p := ⟨0, 2 * p, none⟩) (Nat.lt_of_lt_of_le (lt_of_cell h0.1) hB)).trans h0.1, (hb.cell (p := ⟨0, 2 * p + 1, none⟩) (Nat.lt_of_lt_of_le (lt_of_cell h0.2) hB)).trans h0.2⟩
theorem Tab.all {w : World} (h : Tab w) :
    (w.cell? ⟨0, 0, none⟩ = some (.int .i64 0) ∧ w.cell? ⟨0, 1, none⟩ = some (.int .i64 2) ∧ w.cell? ⟨0, 2, none⟩ = some (.int .i64 1) ∧ w.cell? ⟨0, 3, none⟩ = some (.int .i64 3)) ∧
    (w.cell? ⟨0, 4, none⟩ = some (.int .i64 0) ∧ w.cell? ⟨0, 5, none⟩ = some (.int .i64 1) ∧ w.cell? ⟨0, 6, none⟩ = some (.int .i64 1) ∧ w.cell? ⟨0, 7, none⟩ = some (.int .i64 2)) ∧
    (w.cell? ⟨0, 8, none⟩ = some (.int .i64 2) ∧ w.cell? ⟨0, 9, none⟩ = some (.int .i64 3) ∧ w.cell? ⟨0, 10, none⟩ = some (.int .i64 3) ∧ w.cell? ⟨0, 11, none⟩ = some (.int .i64 0)) ∧ 0 < w.heap.size :=
  ⟨⟨(h 0 (by omega)).1, (h 0 (by omega)).2, (h 1 (by omega)).1, (h 1 (by omega)).2⟩, ⟨(h 2 (by omega)).1, (h 2 (by omega)).2, (h 3 (by omega)).1, (h 3 (by omega)).2⟩, ⟨(h 4 (by omega)).1, (h 4 (by omega)).2, (h 5 (by omega)).1, (h 5 (by omega)).2⟩, lt_of_cell (h 0 (by omega)).1⟩
end Go.Proofs.YtbfpcolkbfljoaaDoor
