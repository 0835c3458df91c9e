/-
  The walk of Shift of the program.
-/
import Derived.Test.YtngamphkehppfaaWalkSite
namespace Go.Proofs.Ytngamphkehppfaa
open Go.RowKit

/-- What refuses a shift, and with which error. -/
def SErr (W H : Int) (n : Nat) (Z : Nat → Int) (x y s : Int) (m : Nat) (T : Nat → Int) (e : Int) : Prop :=
  (e ≠ 0 ∧ VErr W H n Z e) ∨ (e = 2 ∧ Valid W H n Z ∧ ¬ (0 ≤ x ∧ x ≤ W ∧ 0 ≤ y ∧ y ≤ H)) ∨
  ∃ W' H' x' y' : Nat, W = W' ∧ H = H' ∧ x = x' ∧ y = y' ∧ Good W' H' n Z ∧ x' ≤ W' ∧ y' ≤ H' ∧
    ((e = 6 ∧ ¬ (0 ≤ Z (y' * (W' + 1) + x') + s ∧ Z (y' * (W' + 1) + x') + s ≤ 15)) ∨
     (e = 7 ∧ (0 ≤ Z (y' * (W' + 1) + x') + s ∧ Z (y' * (W' + 1) + x') + s ≤ 15) ∧ ∃ i ∈ chs W' x' y' (Z (y' * (W' + 1) + x') + s) s Z n, heldB W' H' T m i = true))
theorem SErr.ne {W H : Int} {n : Nat} {Z : Nat → Int} {x y s : Int} {m : Nat} {T : Nat → Int} {e : Int} (h : SErr W H n Z x y s m T e) : e ≠ 0 := by
  rcases h with ⟨h, _⟩ | ⟨h, _⟩ | ⟨_, _, _, _, _, _, _, _, _, _, _, ⟨h, _⟩ | ⟨h, _⟩⟩
  · exact h
  all_goals omega
/-- A shift that is done. -/
structure SOk (W H n : Nat) (Z : Nat → Int) (x y : Nat) (s : Int) (m : Nat) (T : Nat → Int) (z : Int) (L : List Nat) (X : Nat → Int) : Prop where
  good : Good W H n Z
  hx : x ≤ W
  hy : y ≤ H
  hs : s = 1 ∨ s = -1
  ez : z = Z (y * (W + 1) + x) + s
  hz : 0 ≤ z ∧ z ≤ 15
  hL : L = chs W x y z s Z n
  hX : X = newZ W x y z s Z
  free : ∀ i ∈ L, heldB W H T m i = false
theorem shift_cases (W H : Int) (n : Nat) (Z : Nat → Int) (x y s : Int) (hs : s = 1 ∨ s = -1) (m : Nat) (T : Nat → Int) :
    (∃ e, SErr W H n Z x y s m T e) ∨ ∃ (W' H' x' y' : Nat) (z : Int) (L : List Nat) (X : Nat → Int), W = W' ∧ H = H' ∧ x = x' ∧ y = y' ∧ SOk W' H' n Z x' y' s m T z L X := by
  obtain ⟨e, he⟩ := VErr.ex W H n Z
  by_cases h0 : e = 0
  · subst h0
    have hv := he.ok
    by_cases hr : 0 ≤ x ∧ x ≤ W ∧ 0 ≤ y ∧ y ≤ H
    · obtain ⟨W', H', rfl, rfl, hg⟩ := hv.good
      obtain ⟨x', rfl⟩ : ∃ x' : Nat, x = x' := ⟨x.toNat, by omega⟩
      obtain ⟨y', rfl⟩ : ∃ y' : Nat, y = y' := ⟨y.toNat, by omega⟩
      by_cases hz : 0 ≤ Z (y' * (W' + 1) + x') + s ∧ Z (y' * (W' + 1) + x') + s ≤ 15
      · by_cases hf : ∃ i ∈ chs W' x' y' (Z (y' * (W' + 1) + x') + s) s Z n, heldB W' H' T m i = true
        · exact .inl ⟨7, .inr (.inr ⟨W', H', x', y', rfl, rfl, rfl, rfl, hg, by omega, by omega, .inr ⟨rfl, hz, hf⟩⟩)⟩
        · refine .inr ⟨W', H', x', y', _, _, _, rfl, rfl, rfl, rfl, hg, by omega, by omega, hs, rfl, hz, rfl, rfl, fun i hi => ?_⟩
          rw [Bool.eq_false_iff]; exact fun h => hf ⟨i, hi, h⟩
      · exact .inl ⟨6, .inr (.inr ⟨W', H', x', y', rfl, rfl, rfl, rfl, hg, by omega, by omega, .inl ⟨rfl, hz⟩⟩)⟩
    · exact .inl ⟨2, .inr (.inl ⟨rfl, hv, hr⟩)⟩
  · exact .inl ⟨e, .inl ⟨h0, he⟩⟩

/-- The boxes of a function that takes and hands back a land. -/
structure Bx2 (B : Nat) (bx rs : Array Value) (w wr : World) : Prop where
  below : Below B w wr
  hb : wr.heap[B]? = some (.cells bx 24 (0, 0))
  hr : wr.heap[B + 1]? = some (.cells rs 24 (0, 0))
theorem Bx2.stays {B : Nat} {bx rs : Array Value} {w wr w' : World} (h : Bx2 B bx rs w wr) (k : Below wr.heap.size wr w') : Bx2 B bx rs w w' :=
  ⟨h.below.trans (k.mono (by have := heap_lt h.hb; omega)), (k.block _ (heap_lt h.hb)).trans h.hb, (k.block _ (heap_lt h.hr)).trans h.hr⟩
theorem bx2_start (w : World) (bx rs : Array Value) : Bx2 w.heap.size bx rs w ((w.alloc (.cells bx 24)).alloc (.cells rs 24)) := by
  refine ⟨Joins.below_alloc2 _ _ _, ?_, ?_⟩
  · show ((w.heap.push _).push _)[_]? = _
    rw [Array.getElem?_push, if_neg (by simp), Array.getElem?_push, if_pos rfl]
  · show ((w.heap.push _).push _)[_]? = _
    rw [Array.getElem?_push, if_pos (by simp)]
theorem set3 {w : World} {g : Nat} {t : TypeId} {p q r : Value} (h : w.heap[g]? = some (.cells #[p, q, r] t (0, 0))) (a b c : Value) :
    (((w.setCell ⟨g, 0, none⟩ a).setCell ⟨g, 1, none⟩ b).setCell ⟨g, 2, none⟩ c).heap[g]? = some (.cells #[a, b, c] t (0, 0)) :=
  heap_setCell_same _ g 2 _ _ c (heap_setCell_same _ g 1 _ _ b (heap_setCell_same _ g 0 _ _ a h))
theorem set3_below {w wr : World} {B g : Nat} (h : Below B w wr) (hg : B ≤ g) (a b c : Value) : Below B w (((wr.setCell ⟨g, 0, none⟩ a).setCell ⟨g, 1, none⟩ b).setCell ⟨g, 2, none⟩ c) :=
  ((h.setCell (p := ⟨g, 0, none⟩) hg a).setCell (p := ⟨g, 1, none⟩) hg b).setCell (p := ⟨g, 2, none⟩) hg c
theorem set3_row {w : World} {g B : Nat} {e : TypeId} {size n : Nat} {v : Value} {xs : List Value} (h : w.ownsRow B e size v n xs) (hv : v.ownBlock ≠ some g) (a b c : Value) :
    (((w.setCell ⟨g, 0, none⟩ a).setCell ⟨g, 1, none⟩ b).setCell ⟨g, 2, none⟩ c).ownsRow B e size v n xs :=
  row_other (a := ⟨g, 2, none⟩) (row_other (a := ⟨g, 1, none⟩) (row_other (a := ⟨g, 0, none⟩) h hv a) hv b) hv c

/-- No land, no list, no cost, an error. -/
abbrev none4 (e : Int) : Value := .tuple #[lv 0 0 (.slice none 0 0), .slice none 0 0, .int .i64 0, .int .i64 e]

set_option maxHeartbeats 1600000 in
theorem shift_bad (W H : Int) (ao : Option Addr) (n cap : Nat) (Z : Nat → Int) (hn : n ≤ 9223372036854775807) (x y : Int) (up : Bool) (f : Value) (w : World) (hI : Ints w ao n Z) (e : Int) (he : e ≠ 0) (hE : VErr W H n Z e) :
    Calls Try.prog 34 #[lv W H (.slice ao n cap), .int .i64 x, .int .i64 y, .bool up, f] w fun r w' => r = .returned (none4 e) ∧ Below w.heap.size w w' := by
  have HE := hid hE
  have hst := bx2_start w #[.int .i64 W, .int .i64 H, .slice ao n cap] #[.int .i64 0, .int .i64 0, .slice none 0 0]
  have HI := hid (hI.stays hst.below)
  have HST := hid hst
  have g : (e != 0) = true := by simpa using he
  clear hI hE hst
  go_enter Try.func34, Try.ntmps34
  go_wp2_with fail
  refine (validate_any W H ao n cap Z hn _ HI.out e HE.out).mono ?_
  rintro r w2 ⟨rfl, hb2⟩
  have H2 := hid (HST.out.stays hb2)
  obtain ⟨B, hB⟩ : ∃ B, B = w.heap.size := ⟨_, rfl⟩
  have HBB := hid hB
  simp only [← hB] at H2 ⊢
  clear hB
  have hr := H2.out.hr
  have r0 : w2.cell? ⟨B + 1, 0, none⟩ = some (.int .i64 0) := cell_of_row w2 (B + 1) 0 _ _ _ hr
  have r1 : w2.cell? ⟨B + 1, 1, none⟩ = some (.int .i64 0) := cell_of_row w2 (B + 1) 1 _ _ _ hr
  have r2 : w2.cell? ⟨B + 1, 2, none⟩ = some (.slice none 0 0) := cell_of_row w2 (B + 1) 2 _ _ _ hr
  have f0 : w2.frozen? ⟨B + 1, 0, none⟩ = false := frozen_of_row w2 (B + 1) 0 _ _ hr
  have f1 : w2.frozen? ⟨B + 1, 1, none⟩ = false := frozen_of_row w2 (B + 1) 1 _ _ hr
  have f2 : w2.frozen? ⟨B + 1, 2, none⟩ = false := frozen_of_row w2 (B + 1) 2 _ _ hr
  have hbz := heap_lt hr
  clear hb2 hr HI HST
  go_wp2_with fail
  have k3 := set3 H2.out.hr (.int .i64 0) (.int .i64 0) (.slice none 0 0)
  have k4 := set3_below (g := B + 1) H2.out.below (Nat.le_succ _) (.int .i64 0) (.int .i64 0) (.slice none 0 0)
  clear r0 r1 r2 f0 f1 f2
  generalize World.setCell _ _ _ = w5 at k3 k4 ⊢
  have q0 := cell_of_row w5 (B + 1) 0 _ _ _ k3
  have q1 := cell_of_row w5 (B + 1) 1 _ _ _ k3
  have q2 := cell_of_row w5 (B + 1) 2 _ _ _ k3
  simp at q0 q1 q2
  refine bodyPost_ret (v := none4 e) (by simp [results, Try.results34, go_sem, q0, q1, q2]) rfl ⟨rfl, ?_⟩
  rw [← HBB.out]; exact k4

set_option maxHeartbeats 1600000 in
theorem shift_out (W H : Int) (ao : Option Addr) (n cap : Nat) (Z : Nat → Int) (hn : n ≤ 9223372036854775807) (x y : Int) (up : Bool) (f : Value) (w : World) (hI : Ints w ao n Z) (hV : Valid W H n Z) (hr : ¬ (0 ≤ x ∧ x ≤ W ∧ 0 ≤ y ∧ y ≤ H)) :
    Calls Try.prog 34 #[lv W H (.slice ao n cap), .int .i64 x, .int .i64 y, .bool up, f] w fun r w' => r = .returned (none4 2) ∧ Below w.heap.size w w' := by
  have HE := hid hV.err
  have hst := bx2_start w #[.int .i64 W, .int .i64 H, .slice ao n cap] #[.int .i64 0, .int .i64 0, .slice none 0 0]
  have HI := hid (hI.stays hst.below)
  have HST := hid hst
  have HO := hid hr
  clear hI hV hst hr
  go_enter Try.func34, Try.ntmps34
  go_wp2_with fail
  refine (validate_any W H ao n cap Z hn _ HI.out 0 HE.out).mono ?_
  rintro r w2 ⟨rfl, hb2⟩
  have H2 := hid (HST.out.stays hb2)
  obtain ⟨B, hB⟩ : ∃ B, B = w.heap.size := ⟨_, rfl⟩
  have HBB := hid hB
  simp only [← hB] at H2 ⊢
  clear hB
  have hr := H2.out.hr
  have r0 : w2.cell? ⟨B + 1, 0, none⟩ = some (.int .i64 0) := cell_of_row w2 (B + 1) 0 _ _ _ hr
  have r1 : w2.cell? ⟨B + 1, 1, none⟩ = some (.int .i64 0) := cell_of_row w2 (B + 1) 1 _ _ _ hr
  have r2 : w2.cell? ⟨B + 1, 2, none⟩ = some (.slice none 0 0) := cell_of_row w2 (B + 1) 2 _ _ _ hr
  have f0 : w2.frozen? ⟨B + 1, 0, none⟩ = false := frozen_of_row w2 (B + 1) 0 _ _ hr
  have f1 : w2.frozen? ⟨B + 1, 1, none⟩ = false := frozen_of_row w2 (B + 1) 1 _ _ hr
  have f2 : w2.frozen? ⟨B + 1, 2, none⟩ = false := frozen_of_row w2 (B + 1) 2 _ _ hr
  have hbz := heap_lt hr
  have d0 : w2.cell? ⟨B, 0, none⟩ = some (.int .i64 W) := cell_of_row w2 B 0 _ _ _ H2.out.hb
  have d1 : w2.cell? ⟨B, 1, none⟩ = some (.int .i64 H) := cell_of_row w2 B 1 _ _ _ H2.out.hb
  clear hb2 hr HI HST
  by_cases o1 : x < 0
  all_goals by_cases o2 : W < x
  all_goals by_cases o3 : y < 0
  all_goals by_cases o4 : H < y
  all_goals first
    | (exfalso; have := HO.out; omega)
    | (go_wp2_with fail
       have k3 := set3 H2.out.hr (.int .i64 0) (.int .i64 0) (.slice none 0 0)
       have k4 := set3_below (g := B + 1) H2.out.below (Nat.le_succ _) (.int .i64 0) (.int .i64 0) (.slice none 0 0)
       clear d0 d1 r0 r1 r2 f0 f1 f2
       generalize World.setCell _ _ _ = w5 at k3 k4 ⊢
       have q0 := cell_of_row w5 (B + 1) 0 _ _ _ k3
       have q1 := cell_of_row w5 (B + 1) 1 _ _ _ k3
       have q2 := cell_of_row w5 (B + 1) 2 _ _ _ k3
       simp at q0 q1 q2
       refine bodyPost_ret (v := none4 2) (by simp [results, Try.results34, go_sem, q0, q1, q2]) rfl ⟨rfl, ?_⟩
       rw [← HBB.out]; exact k4)
end Go.Proofs.Ytngamphkehppfaa
