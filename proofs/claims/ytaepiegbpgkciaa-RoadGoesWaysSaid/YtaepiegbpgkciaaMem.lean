/-
  The memory of a function's streets: the box that holds what it was handed by value, behind whatever calls; large.
-/
import Derived.Test.YtaepiegbpgkciaaWalkVal
namespace Go.Proofs.Ytaepiegbpgkciaa
open Go.RowKit

/-- The box of streets that were handed by value, behind whatever calls. -/
structure SB (W H : Int) (ao : Option Addr) (n cap : Nat) (Z : Nat → Int) (bo : Option Addr) (m bcap : Nat) (Y : Nat → Int) (w wr : World) : Prop where
  below : Below w.heap.size w wr
  size : w.heap.size < wr.heap.size
  c0 : wr.cell? ⟨w.heap.size, 0, none⟩ = some (.int .i64 W)
  c1 : wr.cell? ⟨w.heap.size, 1, none⟩ = some (.int .i64 H)
  c2 : wr.cell? ⟨w.heap.size, 2, none⟩ = some (.slice ao n cap)
  c3 : wr.cell? ⟨w.heap.size, 3, none⟩ = some (.slice bo m bcap)
  arms : Ints wr ao n Z
  ways : Ints wr bo m Y
section
variable {W H : Int} {ao bo : Option Addr} {n cap m bcap : Nat} {Z Y : Nat → Int} {w wr w' : World}
theorem SB.stays (h : SB W H ao n cap Z bo m bcap Y w wr) (k : Below wr.heap.size wr w') : SB W H ao n cap Z bo m bcap Y w w' :=
  ⟨step h.below k, Nat.lt_of_lt_of_le h.size k.size, (k.cell (p := ⟨w.heap.size, 0, none⟩) h.size).trans h.c0, (k.cell (p := ⟨w.heap.size, 1, none⟩) h.size).trans h.c1, (k.cell (p := ⟨w.heap.size, 2, none⟩) h.size).trans h.c2,
    (k.cell (p := ⟨w.heap.size, 3, none⟩) h.size).trans h.c3, h.arms.stays k, h.ways.stays k⟩
theorem sb_start (hI : Ints w ao n Z) (hB : Ints w bo m Y) : SB W H ao n cap Z bo m bcap Y w (w.alloc (.cells #[.int .i64 W, .int .i64 H, .slice ao n cap, .slice bo m bcap] 24)) :=
  ⟨Joins.below_alloc1 _ _, by simp, by simp, by simp, by simp, by simp, hI.stays (Joins.below_alloc1 _ _), hB.stays (Joins.below_alloc1 _ _)⟩
theorem sb_keep {a b : World} {X : Nat} {p : Prop} (hX : X = w.heap.size) (h : SB W H ao n cap Z bo m bcap Y w a ∧ p) (hb : Below a.heap.size a b) :
    SB W H ao n cap Z bo m bcap Y w b ∧ b.cell? ⟨X, 0, none⟩ = some (.int .i64 W) ∧ b.cell? ⟨X, 1, none⟩ = some (.int .i64 H) ∧ b.cell? ⟨X, 2, none⟩ = some (.slice ao n cap) ∧ b.cell? ⟨X, 3, none⟩ = some (.slice bo m bcap) := by
  subst hX
  have := h.1.stays hb
  exact ⟨this, this.c0, this.c1, this.c2, this.c3⟩
theorem sb_arms {p : Prop} (h : SB W H ao n cap Z bo m bcap Y w wr ∧ p) : Ints wr ao n Z := h.1.arms
theorem sb_ways {p : Prop} (h : SB W H ao n cap Z bo m bcap Y w wr ∧ p) : Ints wr bo m Y := h.1.ways
theorem sb_below {p : Prop} (h : SB W H ao n cap Z bo m bcap Y w wr ∧ p) : Below w.heap.size w wr := h.1.below
theorem sb_of {p : Prop} (h : SB W H ao n cap Z bo m bcap Y w wr ∧ p) : SB W H ao n cap Z bo m bcap Y w wr := h.1
/-- The cells of the box, by a name for its block. -/
theorem SB.at (h : SB W H ao n cap Z bo m bcap Y w wr) {X : Nat} (hX : X = w.heap.size) :
    wr.cell? ⟨X, 0, none⟩ = some (.int .i64 W) ∧ wr.cell? ⟨X, 1, none⟩ = some (.int .i64 H) ∧ wr.cell? ⟨X, 2, none⟩ = some (.slice ao n cap) ∧ wr.cell? ⟨X, 3, none⟩ = some (.slice bo m bcap) ∧ X < wr.heap.size := by
  subst hX; exact ⟨h.c0, h.c1, h.c2, h.c3, h.size⟩
end
def Far (n m : Nat) : Prop := 4000 < n ∨ 4000 < m
set_option maxHeartbeats 800000 in
theorem far_yes (W H : Int) (ao : Option Addr) (n cap : Nat) (bo : Option Addr) (m bcap : Nat) (hn : n ≤ 9223372036854775807) (hm : m ≤ 9223372036854775807) (h : Far n m) (w : World) :
    Calls Try.prog 15 #[rv W H (.slice ao n cap) (.slice bo m bcap)] w fun r w' => r = .returned (.bool true) ∧ Below w.heap.size w w' := by
  have HW := hid (Joins.below_alloc1 w (.cells #[.int .i64 W, .int .i64 H, .slice ao n cap, .slice bo m bcap] 24))
  by_cases h1 : 4000 < n
  · clear h
    go_enter Try.func15, Try.ntmps15
    go_wp2_with fail
    go_ret
    exact ⟨ret_bool (by simp <;> omega), HW.out⟩
  · have h2 : 4000 < m := h.resolve_left h1
    clear h
    go_enter Try.func15, Try.ntmps15
    go_wp2_with fail
    go_ret
    exact ⟨ret_bool (by simp <;> omega), HW.out⟩
set_option maxHeartbeats 800000 in
theorem far_no (W H : Int) (ao : Option Addr) (n cap : Nat) (bo : Option Addr) (m bcap : Nat) (h : n ≤ 4000 ∧ m ≤ 4000) (w : World) :
    Calls Try.prog 15 #[rv W H (.slice ao n cap) (.slice bo m bcap)] w fun r w' => r = .returned (.bool false) ∧ Below w.heap.size w w' := by
  have HW := hid (Joins.below_alloc1 w (.cells #[.int .i64 W, .int .i64 H, .slice ao n cap, .slice bo m bcap] 24))
  obtain ⟨h1, h2⟩ := h
  go_enter Try.func15, Try.ntmps15
  go_wp2_with fail
  go_ret
  exact ⟨ret_bool (by simp <;> omega), HW.out⟩
end Go.Proofs.Ytaepiegbpgkciaa
