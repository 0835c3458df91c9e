/-
  The glue of the walks of land: calls that make new blocks alone, lists of ints in memory, lands as values.
-/
import Derived.Test.YtngamphkehppfaaRows
import Derived.WalkKit
import Derived.WalkSpells
import Derived.WalkLawsBesides
import Derived.BigQuiet
import Derived.BigRegion
import Derived.Deep.QuietTactic
import Derived.Lib.SmallJoins
namespace Go.Proofs.Ytngamphkehppfaa
open Go.RowKit

/-- Behind a call that began with a new block at the heap's end: what that block holds, and that nothing below has turned. -/
theorem after {w1 w2 : World} {c : Array Value} {t : TypeId} (hb : Below (w1.alloc (.cells c t)).heap.size (w1.alloc (.cells c t)) w2) :
    w1.heap.size < w2.heap.size ∧ (∀ i, w2.cell? ⟨w1.heap.size, i, none⟩ = c[i]?) ∧ Below w1.heap.size w1 w2 := by
  have hs := hb.size
  rw [World.size_alloc] at hs
  refine ⟨by omega, fun i => ?_, ((Below.refl _ w1).alloc (Nat.le_refl _) _).trans (hb.mono (by rw [World.size_alloc]; omega))⟩
  rw [hb.cell (p := ⟨w1.heap.size, i, none⟩) (by rw [World.size_alloc]; simp)]
  exact World.cell?_alloc_at _ _ _ _ rfl
/-- One call behind another; a new block behind a call. -/
theorem step {w w1 w2 : World} (h : Below w.heap.size w w1) (k : Below w1.heap.size w1 w2) : Below w.heap.size w w2 := h.trans (k.mono h.size)
theorem add {w w1 : World} (h : Below w.heap.size w w1) (o : Obj) : Below w.heap.size w (w1.alloc o) := h.alloc h.size o
/-- A fact that is kept from the walk. -/
theorem hid {p : Prop} (h : p) : Hid p := h
theorem ret_bool {a b : Bool} (h : a = b) : Ending.returned (.bool a) = .returned (.bool b) := by rw [h]
theorem ret_int {k : IntKind} {a b : Int} (h : a = b) : Ending.returned (.int k a) = .returned (.int k b) := by rw [h]

/-- A contract of a callee that leaves the world as it is, met in a region that draws. -/
theorem quiet_eq {f : FuncId} {args : Array Value} {w : World} {n : Nat} {v : Value} (h : Calls Try.prog f args (w.drewN n) fun e w' => e = .returned v ∧ w.drewN n = w') :
    Calls Try.prog f args (w.drewN n) fun e w'' => e = .returned v ∧ ∃ m, w'' = w.drewN m := h.mono fun _ _ ⟨he, hm⟩ => ⟨he, n, hm.symm⟩

/-- A land as a value: its sides, and the slice of its corners. -/
abbrev lv (W H : Int) (s : Value) : Value := .agg #[.int .i64 W, .int .i64 H, s]
/-- The slice at an address holds these numbers, n of them. -/
def Ints (w : World) (ao : Option Addr) (n : Nat) (Z : Nat → Int) : Prop :=
  ∀ j : Nat, j < n → ∃ b off : Nat, ao = some ⟨b, off, none⟩ ∧ b < w.heap.size ∧ w.cell? ⟨b, off + j, none⟩ = some (.int .i64 (Z j))
theorem Ints.stays {w w' : World} {ao : Option Addr} {n : Nat} {Z : Nat → Int} (h : Ints w ao n Z) (hb : Below w.heap.size w w') : Ints w' ao n Z := fun j hj => by
  obtain ⟨b, off, e, hz, hc⟩ := h j hj
  exact ⟨b, off, e, by have := hb.size; omega, (hb.cell (p := ⟨b, off + j, none⟩) hz).trans hc⟩
theorem Ints.congr {w : World} {ao : Option Addr} {n : Nat} {Z Y : Nat → Int} (h : Ints w ao n Z) (e : ∀ j, j < n → Z j = Y j) : Ints w ao n Y := fun j hj => by
  obtain ⟨b, off, e1, hz, hc⟩ := h j hj
  exact ⟨b, off, e1, hz, by rw [hc, e j hj]⟩
/-- In a slice that has a number all lie in one block. -/
theorem Ints.one {w : World} {ao : Option Addr} {n : Nat} {Z : Nat → Int} (h : Ints w ao n Z) (hn : 0 < n) :
    ∃ b off : Nat, ao = some ⟨b, off, none⟩ ∧ b < w.heap.size ∧ ∀ j, j < n → w.cell? ⟨b, off + j, none⟩ = some (.int .i64 (Z j)) := by
  obtain ⟨b, off, e, hz, hc⟩ := h 0 hn
  refine ⟨b, off, e, hz, fun j hj => ?_⟩
  obtain ⟨b', off', e', hz', hc'⟩ := h j hj
  rw [e] at e'
  cases e'
  exact hc'
theorem Ints.nil (w : World) (Z : Nat → Int) : Ints w none 0 Z := fun j hj => absurd hj (Nat.not_lt_zero j)
end Go.Proofs.Ytngamphkehppfaa
