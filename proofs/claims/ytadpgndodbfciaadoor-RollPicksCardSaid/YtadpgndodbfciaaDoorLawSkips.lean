/-
  The walk of the law on skips.
-/
import Derived.Test.YtadpgndodbfciaaDoorWalkStream
import Derived.Test.YtadpgndodbfciaaDoorLawOrder
import Derived.Deep.RegionHeld3
namespace Go.Proofs.YtadpgndodbfciaaDoor
open Go.RowKit

/-- The same contracts, their results under names. -/
theorem skip_to (a n v : Int) (h : skipTo a n = v) (w : World) :
    Calls Tryd.prog 19 #[.agg #[.int .u64 a], .int .i64 n] w fun e w' => e = .returned (.agg #[.int .u64 v]) ∧ Below w.heap.size w w' := by
  subst h; exact skip_any a n w
theorem refskip_to (a n v : Int) (h : skipTo a n = v) (w : World) :
    Calls Tryd.prog 18 #[.agg #[.int .u64 a], .int .i64 n] w fun e w' => e = .returned (.agg #[.int .u64 v]) ∧ Below w.heap.size w w' := by
  subst h; exact refskip_any a n w
theorem next_to (a x v : Int) (h : md (a + stride) = v) (h' : mix (md (a + stride)) = x) (w : World) :
    Calls Tryd.prog 16 #[.agg #[.int .u64 a]] w fun e w' => e = .returned (.tuple #[.int .u64 x, .agg #[.int .u64 v]]) ∧ Below w.heap.size w w' := by
  subst h h'; exact next_any a w

/-- Four cells that are held through calls which only make new blocks. -/
theorem held4 {B N x1 x2 x3 x4 : Nat} {v1 v2 v3 v4 : Value} {w w' w'' : World} (hB : B ≤ N) (h1 : x1 < N) (h2 : x2 < N) (h3 : x3 < N) (h4 : x4 < N)
    (h : Below B w w' ∧ N ≤ w'.heap.size ∧ w'.cell? ⟨x1, 0, none⟩ = some v1 ∧ w'.cell? ⟨x2, 0, none⟩ = some v2 ∧ w'.cell? ⟨x3, 0, none⟩ = some v3 ∧ w'.cell? ⟨x4, 0, none⟩ = some v4)
    (hb : Below w'.heap.size w' w'') :
    Below B w w'' ∧ N ≤ w''.heap.size ∧ w''.cell? ⟨x1, 0, none⟩ = some v1 ∧ w''.cell? ⟨x2, 0, none⟩ = some v2 ∧ w''.cell? ⟨x3, 0, none⟩ = some v3 ∧ w''.cell? ⟨x4, 0, none⟩ = some v4 := by
  obtain ⟨k, kn, k1, k2, k3, k4⟩ := h
  have hs := hb.size
  exact ⟨k.trans (hb.mono (by omega)), by omega, (hb.cell (p := ⟨x1, 0, none⟩) (by show x1 < _; omega)).trans k1, (hb.cell (p := ⟨x2, 0, none⟩) (by show x2 < _; omega)).trans k2,
    (hb.cell (p := ⟨x3, 0, none⟩) (by show x3 < _; omega)).trans k3, (hb.cell (p := ⟨x4, 0, none⟩) (by show x4 < _; omega)).trans k4⟩

set_option maxHeartbeats 4000000 in
set_option maxRecDepth 100000 in
theorem walk_skips (s a b : Int) (hs0 : 0 ≤ s) (hs1 : s < 18446744073709551616) (w : World) (hT : Tab w) :
    Calls Tryd.prog 4 #[.agg #[.int .u64 s], .int .i64 a, .int .i64 b] w fun e w' => e = .returned (.bool true) ∧ Below w.heap.size w w' := by
  obtain ⟨p, hp⟩ : ∃ p, p = skipTo s a := ⟨_, rfl⟩
  obtain ⟨q, hq⟩ : ∃ q, q = skipTo s b := ⟨_, rfl⟩
  obtain ⟨x, hx⟩ : ∃ x, x = skipTo s (a + b) := ⟨_, rfl⟩
  obtain ⟨y, hy⟩ : ∃ y, y = skipTo s 1 := ⟨_, rfl⟩
  obtain ⟨z, hz⟩ : ∃ z, z = mix (md (s + stride)) := ⟨_, rfl⟩
  have P1 := hid hp.symm
  have P2 := hid hq.symm
  have P3 : Hid (skipTo p b = x) := hid (by rw [hp, hx, skip_skip, skipTo_eq])
  have P4 : Hid (skipTo q a = x) := hid (by rw [hq, hx, skip_skip, skipTo_eq, Int.add_comm b a])
  have P5 : Hid (md (s + stride) = y) := hid (by rw [hy, skip_one])
  have P6 : Hid (skipTo s 1 = y) := hid hy.symm
  have P7 : Hid (skipTo s (IntKind.i64.wrap (a + b)) = x) := hid (by rw [i64_64, skip_wrap, hx])
  have P8 : Hid (skipTo p (IntKind.i64.wrap (-a)) = s) := hid (by rw [i64_64, hp]; exact skip_back s a hs0 hs1)
  have P9 := hid hz.symm
  clear hp hq hx hy hz hs0 hs1
  go_enter Tryd.func4, Tryd.ntmps4
  go_wp2_with fail
  refine (skip_to _ _ p P1.out _).mono ?_
  rintro e w1 ⟨rfl, hb1⟩
  obtain ⟨hz1, hc1, hb1'⟩ := after hb1
  have c1 : w1.cell? ⟨w.heap.size, 0, none⟩ = some (.int .u64 s) := hc1 0
  clear hc1 hb1
  go_wp2_with fail
  refine (skip_to _ _ x P3.out _).mono ?_
  rintro e w2 ⟨rfl, hb2⟩
  have c2 : w2.cell? ⟨w.heap.size, 0, none⟩ = some (.int .u64 s) := (hb2.cell (p := ⟨w.heap.size, 0, none⟩) hz1).trans c1
  have hz2 : w.heap.size < w2.heap.size := by have := hb2.size; omega
  have hb2' := step hb1' hb2
  clear c1 hb1' hz1 hb2
  go_wp2_with fail
  refine (skip_to _ _ q P2.out _).mono ?_
  rintro e w3 ⟨rfl, hb3⟩
  obtain ⟨hz3, hc3, hb3'⟩ := after hb3
  have c3 : w3.cell? ⟨w.heap.size, 0, none⟩ = some (.int .u64 s) := (hb3'.cell (p := ⟨w.heap.size, 0, none⟩) hz2).trans c2
  have d3 : w3.cell? ⟨w2.heap.size, 0, none⟩ = some (.int .u64 x) := hc3 0
  have hb3'' := step hb2' hb3'
  have hz3' : w.heap.size < w3.heap.size := by omega
  clear hc3 c2 hb2' hb3 hb3'
  go_wp2_with fail
  refine (skip_to _ _ x P4.out _).mono ?_
  rintro e w4 ⟨rfl, hb4⟩
  have c4 : w4.cell? ⟨w.heap.size, 0, none⟩ = some (.int .u64 s) := (hb4.cell (p := ⟨w.heap.size, 0, none⟩) hz3').trans c3
  have d4 : w4.cell? ⟨w2.heap.size, 0, none⟩ = some (.int .u64 x) := (hb4.cell (p := ⟨w2.heap.size, 0, none⟩) hz3).trans d3
  have hz4 : w2.heap.size < w4.heap.size := by have := hb4.size; omega
  have hz4' : w.heap.size < w4.heap.size := by omega
  have hb4' := step hb3'' hb4
  clear c3 d3 hb3'' hz3 hz3' hb4
  go_wp2_with fail
  refine (next_to _ z y P5.out P9.out _).mono ?_
  rintro e w5 ⟨rfl, hb5⟩
  obtain ⟨hz5, hc5, hb5'⟩ := after hb5
  have c5 : w5.cell? ⟨w.heap.size, 0, none⟩ = some (.int .u64 s) := (hb5'.cell (p := ⟨w.heap.size, 0, none⟩) hz4').trans c4
  have d5 : w5.cell? ⟨w2.heap.size, 0, none⟩ = some (.int .u64 x) := (hb5'.cell (p := ⟨w2.heap.size, 0, none⟩) hz4).trans d4
  have e5 : w5.cell? ⟨w4.heap.size, 0, none⟩ = some (.int .u64 x) := hc5 0
  have hz5' : w2.heap.size < w5.heap.size := by omega
  have hz5'' : w.heap.size < w5.heap.size := by omega
  have hb5'' := step hb4' hb5'
  clear c4 d4 hb4' hc5 hb5 hb5'
  go_wp2_with fail
  have hB6 := add hb5'' (.cells #[.int .u64 y] 25)
  have s6 : (w5.alloc (.cells #[.int .u64 y] 25)).heap.size = w5.heap.size + 1 := World.size_alloc _ _
  have f1 : (w5.alloc (.cells #[.int .u64 y] 25)).cell? ⟨w.heap.size, 0, none⟩ = some (.int .u64 s) := by rw [World.cell?_alloc_past _ _ _ hz5'']; exact c5
  have f2 : (w5.alloc (.cells #[.int .u64 y] 25)).cell? ⟨w2.heap.size, 0, none⟩ = some (.int .u64 x) := by rw [World.cell?_alloc_past _ _ _ hz5']; exact d5
  have f3 : (w5.alloc (.cells #[.int .u64 y] 25)).cell? ⟨w4.heap.size, 0, none⟩ = some (.int .u64 x) := by rw [World.cell?_alloc_past _ _ _ hz5]; exact e5
  have f4 : (w5.alloc (.cells #[.int .u64 y] 25)).cell? ⟨w5.heap.size, 0, none⟩ = some (.int .u64 y) := World.cell?_alloc_at _ _ _ _ rfl
  clear c5 d5 e5 hb5''
  obtain ⟨b1, hb1⟩ : ∃ b1, b1 = w.heap.size := ⟨_, rfl⟩
  obtain ⟨b2, hb2⟩ : ∃ b2, b2 = w2.heap.size := ⟨_, rfl⟩
  obtain ⟨b3, hb3⟩ : ∃ b3, b3 = w4.heap.size := ⟨_, rfl⟩
  obtain ⟨b4, hb4⟩ : ∃ b4, b4 = w5.heap.size := ⟨_, rfl⟩
  generalize w5.alloc (.cells #[.int .u64 y] 25) = W at *
  have HB := hid hB6
  have hN : w.heap.size ≤ b4 + 1 := by omega
  have n1 : b1 < b4 + 1 := by omega
  have n2 : b2 < b4 + 1 := by omega
  have n3 : b3 < b4 + 1 := by omega
  have n4 : b4 < b4 + 1 := by omega
  have nW : b4 + 1 ≤ W.heap.size := by omega
  rw [← hb1] at f1
  rw [← hb2] at f2
  rw [← hb3] at f3
  rw [← hb4] at f4
  simp only [← hb1, ← hb2, ← hb3, ← hb4]
  clear hB6 s6 hz2 hz4 hz4' hz5 hz5' hz5'' hb1 hb2 hb3 hb4
  go_region_held3 (fun w' => Below w.heap.size w w' ∧ b4 + 1 ≤ w'.heap.size ∧ w'.cell? ⟨b1, 0, none⟩ = some (.int .u64 s) ∧ w'.cell? ⟨b2, 0, none⟩ = some (.int .u64 x) ∧ w'.cell? ⟨b3, 0, none⟩ = some (.int .u64 x) ∧ w'.cell? ⟨b4, 0, none⟩ = some (.int .u64 y))
    (first | exact ⟨HB.out.drew, nW, f1, f2, f3, f4⟩ | exact held4 hN n1 n2 n3 n4 (by assumption) hb | (obtain ⟨_, hb⟩ := hb; exact held4 hN n1 n2 n3 n4 (by assumption) hb) | assumption)
    (first
      | (go_at_call 18; refine (refskip_to _ _ x P7.out _).mono ?_; rintro e w' ⟨rfl, hb⟩)
      | (go_at_call_of 19 (Value.int IntKind.i64 1); refine (skip_to _ _ y P6.out _).mono ?_; rintro e w' ⟨rfl, hb⟩)
      | (go_at_call_of 19 (Value.int IntKind.i64 a); refine (skip_to _ _ p P1.out _).mono ?_; rintro e w' ⟨rfl, hb⟩)
      | (go_at_call 19; refine (skip_to _ _ s P8.out _).mono ?_; rintro e w' ⟨rfl, hb⟩)
      | (go_at_call 13; refine (known_any _ (hT.stays (And.left (by assumption)))).mono ?_; rintro e w' ⟨rfl, hb⟩))
  go_wp2
  go_ret
  exact ⟨rfl, And.left (by assumption)⟩
end Go.Proofs.YtadpgndodbfciaaDoor
