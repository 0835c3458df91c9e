/-
  The glue of the walks of parcels: calls that make new blocks alone, lists in memory, boxes, rows of the call's own.
-/
import Derived.Test.YtnhkblkijiipeaaRows
import Derived.WalkKit
import Derived.WalkSpells
import Derived.WalkLawsBesides
import Derived.WalkMore
import Derived.Deep.AppendLies
import Derived.Deep.LoopGhost
import Derived.Deep.RegionHeld3
import Derived.BigQuiet
import Derived.BigRegion
import Derived.Deep.QuietTactic
import Derived.Lib.LaidTab
import Derived.Lib.SmallJoins
import Derived.Deep.DeepCutAuto
namespace Go.Proofs.Ytnhkblkijiipeaa
open Go.RowKit

/-- Behind a call that began with a new block at the heap's end: what that block holds, and that nothing below has turned. -/
theorem after {w1 w2 : World} {c : Array Value} {t : TypeId} (hb : Below (w1.alloc (.cells c t)).heap.size (w1.alloc (.cells c t)) w2) :
    w1.heap.size < w2.heap.size ∧ (∀ i, w2.cell? ⟨w1.heap.size, i, none⟩ = c[i]?) ∧ Below w1.heap.size w1 w2 := by
  have hs := hb.size
  rw [World.size_alloc] at hs
  refine ⟨by omega, fun i => ?_, ((Below.refl _ w1).alloc (Nat.le_refl _) _).trans (hb.mono (by rw [World.size_alloc]; omega))⟩
  rw [hb.cell (p := ⟨w1.heap.size, i, none⟩) (by rw [World.size_alloc]; simp)]
  exact World.cell?_alloc_at _ _ _ _ rfl
/-- One call behind another; a new block behind a call. -/
theorem step {w w1 w2 : World} (h : Below w.heap.size w w1) (k : Below w1.heap.size w1 w2) : Below w.heap.size w w2 := h.trans (k.mono h.size)
theorem add {w w1 : World} (h : Below w.heap.size w w1) (o : Obj) : Below w.heap.size w (w1.alloc o) := h.alloc h.size o
/-- A fact that is kept from the walk. -/
theorem hid {p : Prop} (h : p) : Hid p := h
theorem ret_bool {a b : Bool} (h : a = b) : Ending.returned (.bool a) = .returned (.bool b) := by rw [h]
theorem ret_int {k : IntKind} {a b : Int} (h : a = b) : Ending.returned (.int k a) = .returned (.int k b) := by rw [h]
theorem lt_of_cell {w : World} {a : Addr} {v : Value} (h : w.cell? a = some v) : a.block < w.heap.size := by
  by_cases hl : a.block < w.heap.size
  · exact hl
  · have e : w.heap[a.block]? = none := Array.getElem?_eq_none (by omega)
    simp [World.cell?, e] at h

/-- A contract of a callee that leaves the world as it is, met in a region that draws. -/
theorem quiet_eq {f : FuncId} {args : Array Value} {w : World} {n : Nat} {v : Value} (h : Calls Try.prog f args (w.drewN n) fun e w' => e = .returned v ∧ w.drewN n = w') :
    Calls Try.prog f args (w.drewN n) fun e w'' => e = .returned v ∧ ∃ m, w'' = w.drewN m := h.mono fun _ _ ⟨he, hm⟩ => ⟨he, n, hm.symm⟩

/-- The slice at an address holds these values, n of them. -/
def Vals (w : World) (ao : Option Addr) (n : Nat) (F : Nat → Value) : Prop :=
  ∀ j : Nat, j < n → ∃ b off : Nat, ao = some ⟨b, off, none⟩ ∧ b < w.heap.size ∧ w.cell? ⟨b, off + j, none⟩ = some (F j)
abbrev Ints (w : World) (ao : Option Addr) (n : Nat) (Z : Nat → Int) : Prop := Vals w ao n fun j => .int .i64 (Z j)
theorem Vals.stays {w w' : World} {ao : Option Addr} {n : Nat} {F : Nat → Value} (h : Vals w ao n F) (hb : Below w.heap.size w w') : Vals w' ao n F := fun j hj => by
  obtain ⟨b, off, e, hz, hc⟩ := h j hj
  exact ⟨b, off, e, by have := hb.size; omega, (hb.cell (p := ⟨b, off + j, none⟩) hz).trans hc⟩
/-- In a slice that has a value all lie in one block. -/
theorem Vals.one {w : World} {ao : Option Addr} {n : Nat} {F : Nat → Value} (h : Vals w ao n F) (hn : 0 < n) :
    ∃ b off : Nat, ao = some ⟨b, off, none⟩ ∧ b < w.heap.size ∧ ∀ j, j < n → w.cell? ⟨b, off + j, none⟩ = some (F j) := by
  obtain ⟨b, off, e, hz, hc⟩ := h 0 hn
  refine ⟨b, off, e, hz, fun j hj => ?_⟩
  obtain ⟨b', off', e', hz', hc'⟩ := h j hj
  rw [e] at e'
  cases e'
  exact hc'

theorem heap_lt {w : World} {b : Nat} {o : Obj} (h : w.heap[b]? = some o) : b < w.heap.size := (Array.getElem?_eq_some_iff.1 h).1
/-- The boxes of a function that takes a struct and hands back a struct. -/
structure Bx2 (B : Nat) (S T : TypeId) (bx rs : Array Value) (w wr : World) : Prop where
  below : Below B w wr
  hb : wr.heap[B]? = some (.cells bx S (0, 0))
  hr : wr.heap[B + 1]? = some (.cells rs T (0, 0))
theorem Bx2.stays {B : Nat} {S T : TypeId} {bx rs : Array Value} {w wr w' : World} (h : Bx2 B S T bx rs w wr) (k : Below wr.heap.size wr w') : Bx2 B S T bx rs w w' :=
  ⟨h.below.trans (k.mono (by have := heap_lt h.hb; omega)), (k.block _ (heap_lt h.hb)).trans h.hb, (k.block _ (heap_lt h.hr)).trans h.hr⟩
theorem bx2_start (w : World) (S T : TypeId) (bx rs : Array Value) : Bx2 w.heap.size S T bx rs w ((w.alloc (.cells bx S)).alloc (.cells rs T)) := by
  refine ⟨Joins.below_alloc2 _ _ _, ?_, ?_⟩
  · show ((w.heap.push _).push _)[_]? = _
    rw [Array.getElem?_push, if_neg (by simp), Array.getElem?_push, if_pos rfl]
  · show ((w.heap.push _).push _)[_]? = _
    rw [Array.getElem?_push, if_pos (by simp)]
theorem set3 {w : World} {g : Nat} {t : TypeId} {p q r : Value} (h : w.heap[g]? = some (.cells #[p, q, r] t (0, 0))) (a b c : Value) :
    (((w.setCell ⟨g, 0, none⟩ a).setCell ⟨g, 1, none⟩ b).setCell ⟨g, 2, none⟩ c).heap[g]? = some (.cells #[a, b, c] t (0, 0)) :=
  heap_setCell_same _ g 2 _ _ c (heap_setCell_same _ g 1 _ _ b (heap_setCell_same _ g 0 _ _ a h))
theorem set3_below {w wr : World} {B g : Nat} (h : Below B w wr) (hg : B ≤ g) (a b c : Value) : Below B w (((wr.setCell ⟨g, 0, none⟩ a).setCell ⟨g, 1, none⟩ b).setCell ⟨g, 2, none⟩ c) :=
  ((h.setCell (p := ⟨g, 0, none⟩) hg a).setCell (p := ⟨g, 1, none⟩) hg b).setCell (p := ⟨g, 2, none⟩) hg c
theorem set4 {w : World} {g : Nat} {t : TypeId} {p q r s : Value} (h : w.heap[g]? = some (.cells #[p, q, r, s] t (0, 0))) (a b c d : Value) :
    ((((w.setCell ⟨g, 0, none⟩ a).setCell ⟨g, 1, none⟩ b).setCell ⟨g, 2, none⟩ c).setCell ⟨g, 3, none⟩ d).heap[g]? = some (.cells #[a, b, c, d] t (0, 0)) :=
  heap_setCell_same _ g 3 _ _ d (heap_setCell_same _ g 2 _ _ c (heap_setCell_same _ g 1 _ _ b (heap_setCell_same _ g 0 _ _ a h)))
theorem set4_below {w wr : World} {B g : Nat} (h : Below B w wr) (hg : B ≤ g) (a b c d : Value) : Below B w ((((wr.setCell ⟨g, 0, none⟩ a).setCell ⟨g, 1, none⟩ b).setCell ⟨g, 2, none⟩ c).setCell ⟨g, 3, none⟩ d) :=
  (((h.setCell (p := ⟨g, 0, none⟩) hg a).setCell (p := ⟨g, 1, none⟩) hg b).setCell (p := ⟨g, 2, none⟩) hg c).setCell (p := ⟨g, 3, none⟩) hg d
theorem row_below {w w' : World} {B B' : Nat} {e : TypeId} {size n : Nat} {v : Value} {xs : List Value} (h : w.ownsRow B e size v n xs) (hb : Below B' w w') (hv : ∀ k, v.ownBlock = some k → k < B') : w'.ownsRow B e size v n xs := by
  refine ⟨h.1, ?_⟩
  rcases h.2 with hn | ⟨g, cap, cur, rfl, hB, hg, rest⟩
  · exact .inl hn
  · refine .inr ⟨g, cap, cur, rfl, hB, ?_, rest⟩
    rw [hb.block g (hv g rfl)]
    exact hg
theorem row_stays {w w' : World} {B : Nat} {e : TypeId} {size n : Nat} {v : Value} {xs : List Value} (h : w.ownsRow B e size v n xs) (hb : Below w.heap.size w w') : w'.ownsRow B e size v n xs :=
  row_below h hb fun k hk => (h.lt k hk).2
theorem row_mono {w : World} {base base' : Nat} {e : TypeId} {size : Nat} {v : Value} {n : Nat} {xs : List Value} (h : w.ownsRow base e size v n xs) (hb : base' ≤ base) : w.ownsRow base' e size v n xs := by
  refine ⟨h.1, ?_⟩
  rcases h.2 with hn | ⟨g, cap, cur, hv, hB, rest⟩
  · exact .inl hn
  · exact .inr ⟨g, cap, cur, hv, by omega, rest⟩
theorem row_other {w : World} {base : Nat} {e : TypeId} {size : Nat} {v : Value} {n : Nat} {xs : List Value} (h : w.ownsRow base e size v n xs) {a : Addr} (ha : v.ownBlock ≠ some a.block) (u : Value) : (w.setCell a u).ownsRow base e size v n xs := by
  refine ⟨h.1, ?_⟩
  rcases h.2 with hn | ⟨g, cap, cur, rfl, hB, hg, rest⟩
  · exact .inl hn
  · refine .inr ⟨g, cap, cur, rfl, hB, ?_, rest⟩
    rw [Below.heap_setCell _ _ _ g (by simpa [Value.ownBlock] using ha)]
    exact hg

/-- Values as cells. -/
def vals (n : Nat) (F : Nat → Value) : List Value := (List.range n).map F
theorem vals_length (n : Nat) (F : Nat → Value) : (vals n F).length = n := by simp [vals]
theorem vals_get {n : Nat} (F : Nat → Value) {j : Nat} (h : j < n) : (vals n F)[j]? = some (F j) := by simp [vals, h]
theorem vals_set (n : Nat) (F : Nat → Value) (j : Nat) (x : Value) : (vals n F).set j x = vals n (fun i => if i = j then x else F i) := by
  apply List.ext_getElem?
  intro i
  rw [List.getElem?_set]
  by_cases hi : i < n
  · rw [vals_get _ hi, vals_length, vals_get _ hi]
    by_cases h : j = i
    · subst h; simp [hi]
    · rw [if_neg h, if_neg (Ne.symm h)]
  · rw [List.getElem?_eq_none (by rw [vals_length]; omega)]
    rw [List.getElem?_eq_none (l := vals n _) (by rw [vals_length]; omega)]
    simp [vals_length]; omega
theorem vals_congr {n : Nat} {F G : Nat → Value} (h : ∀ i, i < n → F i = G i) : vals n F = vals n G := by
  unfold vals; apply List.map_congr_left; intro i hi; rw [h i (by simpa using hi)]
theorem vals_succ (n : Nat) (F : Nat → Value) : vals (n + 1) F = vals n F ++ [F n] := by simp [vals, List.range_succ]
theorem vals_of_row {w : World} {B g n cap : Nat} {F : Nat → Value} {e : TypeId} (h : w.ownsRow B e 1 (.slice (some ⟨g, 0, none⟩) n cap) n (vals n F)) : Vals w (some ⟨g, 0, none⟩) n F := fun j hj =>
  ⟨g, 0, rfl, (h.lt g rfl).2, by rw [Nat.zero_add, h.cellAt j (by omega), vals_get _ hj]⟩
abbrev iv (Z : Nat → Int) : Nat → Value := fun j => .int .i64 (Z j)
theorem info3 : (Try.prog.info? 3).map (fun i => (i.zero, i.size, i.bytes)) = some (some (.int .i64 0), 1, 8) := by kernel_rfl
end Go.Proofs.Ytnhkblkijiipeaa
