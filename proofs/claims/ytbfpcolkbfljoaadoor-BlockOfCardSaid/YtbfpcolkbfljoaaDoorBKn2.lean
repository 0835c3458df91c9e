/-
  The walk of known.
-/
import Derived.Test.YtbfpcolkbfljoaaDoorBKn1
import Derived.Deep.OwnRows
namespace Go.Proofs.YtbfpcolkbfljoaaDoor
open Go.RowKit Go.Maps

theorem run_mkI (w : World) : (Instr.makeSlice 22 (.int .i64 16) (.int .i64 16)).run Tryd.prog w = .ok (.slice (some ⟨w.heap.size, 0, none⟩) 16 16) (w.alloc (.cells (madeCells #[.int .i64 0] 16) 3)) :=
  run_make_row' 22 3 (.int .i64 0) 8 Tryd.underlying22 info3 rfl .i64 .i64 16 (by omega) (by omega) w
theorem run_mkB (w : World) : (Instr.makeSlice 23 (.int .i64 16) (.int .i64 16)).run Tryd.prog w = .ok (.slice (some ⟨w.heap.size, 0, none⟩) 16 16) (w.alloc (.cells (madeCells #[.bool false] 16) 4)) :=
  run_make_row' 23 4 (.bool false) 1 Tryd.underlying23 info4 rfl .i64 .i64 16 (by omega) (by omega) w
theorem three_alloc (w : World) (a b c : Obj) : Below w.heap.size w (((w.alloc a).alloc b).alloc c).drew ∧ (((w.alloc a).alloc b).alloc c).drew.heap[w.heap.size]? = some a ∧ (((w.alloc a).alloc b).alloc c).drew.heap[w.heap.size + 1]? = some b ∧ (((w.alloc a).alloc b).alloc c).drew.heap[w.heap.size + 1 + 1]? = some c := by
  refine ⟨((Joins.below_alloc2 w _ _).alloc (by simp; omega) _).drew, ?_, ?_, ?_⟩
  · show (((w.heap.push _).push _).push _)[_]? = _
    rw [Array.getElem?_push, if_neg (by simp; omega), Array.getElem?_push, if_neg (by simp), Array.getElem?_push, if_pos rfl]
  · show (((w.heap.push _).push _).push _)[_]? = _
    rw [Array.getElem?_push, if_neg (by simp), Array.getElem?_push, if_pos (by simp)]
  · show (((w.heap.push _).push _).push _)[_]? = _
    rw [Array.getElem?_push, if_pos (by simp)]
/-- The memory of known: the box of the rails, their sets, their wires. -/
structure KN (o g k : Nat) (cs : Array Value) (w wr : World) : Prop where
  below : Below w.heap.size w wr
  ho : wr.heap[o]? = some (.cells #[.int .i64 4, .int .i64 4, .slice (some ⟨g, 0, none⟩) 16 16, .slice (some ⟨k, 0, none⟩) 16 16] 25 (0, 0))
  hg : wr.heap[g]? = some (.cells cs 3 (0, 0))
  hk : wr.heap[k]? = some (.cells (madeCells #[.bool false] 16) 4 (0, 0))
  le : w.heap.size ≤ g
  ne : g ≠ o ∧ g ≠ k
theorem KN.set {o g k j : Nat} {cs : Array Value} {w wr : World} (h : KN o g k cs w wr) (v : Value) : KN o g k (cs.setIfInBounds j v) w (wr.setCell ⟨g, j, none⟩ v) :=
  ⟨h.below.setCell (p := ⟨g, j, none⟩) h.le v, (Below.heap_setCell _ _ _ o (by simpa using h.ne.1.symm)).trans h.ho, heap_setCell_same wr g j _ _ v h.hg, (Below.heap_setCell _ _ _ k (by simpa using h.ne.2.symm)).trans h.hk, h.le, h.ne⟩
abbrev kc0 : Array Value := madeCells #[.int .i64 0] 16
abbrev kc2 : Array Value := (kc0.setIfInBounds 0 (.int .i64 1)).setIfInBounds 1 (.int .i64 1)
theorem made_at (z : Value) (n j : Nat) (hj : j < n) : (madeCells #[z] n)[j]? = some z := by
  rw [← Array.getElem?_toList, toList_madeCells_one, List.getElem?_replicate, if_pos hj]
theorem kc2_at (j : Nat) (hj : j < 16) : kc2[j]? = some (.int .i64 (exZ j)) := by
  have hs : kc0.size = 16 := size_madeCells _ _
  have h0 := made_at (.int .i64 0) 16 j hj
  unfold kc2 exZ
  by_cases e1 : j = 1
  · subst e1; rw [Array.getElem?_setIfInBounds_self_of_lt (by rw [Array.size_setIfInBounds, hs]; omega)]; rfl
  · rw [Array.getElem?_setIfInBounds_ne (Ne.symm e1)]
    by_cases e0 : j = 0
    · subst e0; rw [Array.getElem?_setIfInBounds_self_of_lt (by rw [hs]; omega)]; rfl
    · rw [Array.getElem?_setIfInBounds_ne (Ne.symm e0), if_neg (by omega)]; exact h0
theorem KN.has {o g k : Nat} {w wr : World} (h : KN o g k kc2 w wr) (hT : Tab w) : Has (ex0 g k) wr := by
  refine ⟨hT.stays h.below, fun j hj => ⟨g, 0, rfl, heap_lt h.hg, ?_⟩, fun j hj => ⟨k, 0, rfl, heap_lt h.hk, ?_⟩, fun j hj => absurd hj (Nat.not_lt_zero j)⟩
  · rw [Nat.zero_add]; exact (cell_of_row wr g j _ _ _ h.hg).trans (kc2_at j hj)
  · rw [Nat.zero_add]; exact (cell_of_row wr k j _ _ _ h.hk).trans (made_at _ _ j hj)
theorem KN.stays {o g k : Nat} {cs : Array Value} {w wr w' : World} (h : KN o g k cs w wr) (q : Below wr.heap.size wr w') : KN o g k cs w w' :=
  ⟨step h.below q, (q.block _ (heap_lt h.ho)).trans h.ho, (q.block _ (heap_lt h.hg)).trans h.hg, (q.block _ (heap_lt h.hk)).trans h.hk, h.le, h.ne⟩
theorem KN.has1 {o g k : Nat} {w wr : World} (h : KN o g k kc2 w wr) (hT : Tab w) : Has (ex1 g k wr.heap.size) (wr.alloc (.cells #[.int .i64 0, .int .i64 0, .int .i64 0, .int .i64 0] 32)) := by
  have h0 := (h.stays (Joins.below_alloc1 wr (.cells #[.int .i64 0, .int .i64 0, .int .i64 0, .int .i64 0] 32))).has hT
  refine ⟨h0.tab, h0.ints, h0.bools, fun j hj => ⟨wr.heap.size, 0, rfl, by simp, ?_⟩⟩
  obtain rfl : j = 0 := Nat.lt_one_iff.1 hj
  exact ⟨by simp, by simp, by simp, by simp⟩

set_option maxRecDepth 20000 in
set_option maxHeartbeats 6400000 in
theorem known_any (w : World) (hT : Tab w) : Calls Tryd.prog 17 #[] w fun r w' => r = .returned (.bool true) ∧ Below w.heap.size w w' := by
  have hmi := run_mkI
  have hmb := run_mkB
  have HT := hid hT
  have H3 := hid (three_alloc w)
  clear hT
  go_enter Tryd.func17, Tryd.ntmps17
  go_upto_region 1 with fail
  go_cut [1] (fun s1 wx => ∃ o g k : Nat, s1 = .pointer (some ⟨o, 0, none⟩) ∧ Hid (KN o g k kc0 w wx))
  case first =>
    go_region
    all_goals go_wp2_with fail
    all_goals go_meet
    all_goals first
      | exact ⟨w.heap.size, w.heap.size + 1, w.heap.size + 1 + 1, rfl, hid ⟨(H3.out _ _ _).1, (H3.out _ _ _).2.1, (H3.out _ _ _).2.2.1, (H3.out _ _ _).2.2.2, by omega, by omega, by omega⟩⟩
      | exact ⟨w.heap.size, w.heap.size + 1 + 1, w.heap.size + 1, rfl, hid ⟨(H3.out _ _ _).1, (H3.out _ _ _).2.1, (H3.out _ _ _).2.2.2, (H3.out _ _ _).2.2.1, by omega, by omega, by omega⟩⟩
      | exact ⟨w.heap.size + 1, w.heap.size, w.heap.size + 1 + 1, rfl, hid ⟨(H3.out _ _ _).1, (H3.out _ _ _).2.2.1, (H3.out _ _ _).2.1, (H3.out _ _ _).2.2.2, by omega, by omega, by omega⟩⟩
      | exact ⟨w.heap.size + 1, w.heap.size + 1 + 1, w.heap.size, rfl, hid ⟨(H3.out _ _ _).1, (H3.out _ _ _).2.2.1, (H3.out _ _ _).2.2.2, (H3.out _ _ _).2.1, by omega, by omega, by omega⟩⟩
      | exact ⟨w.heap.size + 1 + 1, w.heap.size, w.heap.size + 1, rfl, hid ⟨(H3.out _ _ _).1, (H3.out _ _ _).2.2.2, (H3.out _ _ _).2.1, (H3.out _ _ _).2.2.1, by omega, by omega, by omega⟩⟩
      | exact ⟨w.heap.size + 1 + 1, w.heap.size + 1, w.heap.size, rfl, hid ⟨(H3.out _ _ _).1, (H3.out _ _ _).2.2.2, (H3.out _ _ _).2.2.1, (H3.out _ _ _).2.1, by omega, by omega, by omega⟩⟩
  case rest =>
    obtain ⟨o, g, k, rfl, HK⟩ := hcut
    clear hmi hmb H3
    have x2 : wc.cell? ⟨o, 2, none⟩ = some (.slice (some ⟨g, 0, none⟩) 16 16) := cell_of_row _ o 2 _ _ _ HK.out.ho
    have y0 : wc.cell? ⟨g, 0, none⟩ = some (.int .i64 0) := (cell_of_row _ g 0 _ _ _ HK.out.hg).trans (made_at _ _ 0 (by omega))
    have f0 := frozen_of_row _ g 0 _ _ HK.out.hg
    have HK1 := hid (HK.out.set (j := 0) (.int .i64 1))
    have x2' : (wc.setCell ⟨g, 0, none⟩ (.int .i64 1)).cell? ⟨o, 2, none⟩ = some (.slice (some ⟨g, 0, none⟩) 16 16) := cell_of_row _ o 2 _ _ _ HK1.out.ho
    have y1 : (wc.setCell ⟨g, 0, none⟩ (.int .i64 1)).cell? ⟨g, 1, none⟩ = some (.int .i64 0) := (cell_of_row _ g 1 _ _ _ HK1.out.hg).trans (by rw [Array.getElem?_setIfInBounds_ne (by omega)]; exact made_at _ _ 1 (by omega))
    have f1 := frozen_of_row _ g 1 _ _ HK1.out.hg
    have HK2 := hid (HK1.out.set (j := 1) (.int .i64 1))
    have hgo := HK.out.ne.1
    have hz := heap_lt HK.out.hg
    have hzo := heap_lt HK.out.ho
    go_upto_region 4 with fail
    clear x2 y0 f0 x2' y1 f1 hz hzo HK1 HK
    generalize World.setCell (World.setCell _ _ _) _ _ = w2 at HK2 ⊢
    have HX0 := hid (HK2.out.has HT.out)
    have x0 : w2.cell? ⟨o, 0, none⟩ = some (.int .i64 4) := cell_of_row _ o 0 _ _ _ HK2.out.ho
    have x1 : w2.cell? ⟨o, 1, none⟩ = some (.int .i64 4) := cell_of_row _ o 1 _ _ _ HK2.out.ho
    have x2 : w2.cell? ⟨o, 2, none⟩ = some (.slice (some ⟨g, 0, none⟩) 16 16) := cell_of_row _ o 2 _ _ _ HK2.out.ho
    have x3 : w2.cell? ⟨o, 3, none⟩ = some (.slice (some ⟨k, 0, none⟩) 16 16) := cell_of_row _ o 3 _ _ _ HK2.out.ho
    have hzo := heap_lt HK2.out.ho
    have B0 := hid (fun w hH => blocks_to (ex0 g k) ⟨show (16 : Nat) ≤ _ by omega, show (16 : Nat) ≤ _ by omega, show (0 : Nat) ≤ _ by omega⟩ 0 (ex0_err g k) w hH)
    have B1 := hid (fun a w hH => blocks_to (ex1 g k a) ⟨show (16 : Nat) ≤ _ by omega, show (16 : Nat) ≤ _ by omega, show (1 : Nat) ≤ _ by omega⟩ 0 (ex1_err g k a) w hH)
    have R0 := hid (ex0_rts g k)
    have R1 := hid (fun a => ex1_rts g k a)
    clear hgo
    go_upto_region 5 with (go_at_call 26; refine (B0.out _ HX0.out).mono ?_; rintro e w3 ⟨lst, rfl, hb3, hl3⟩; have HK3 := hid (HK2.out.stays hb3); have HL3 := hid hl3; clear hb3 hl3 x0 x1 x2 x3 hzo)
    have x0 : w3.cell? ⟨o, 0, none⟩ = some (.int .i64 4) := cell_of_row _ o 0 _ _ _ HK3.out.ho
    have x1 : w3.cell? ⟨o, 1, none⟩ = some (.int .i64 4) := cell_of_row _ o 1 _ _ _ HK3.out.ho
    have x2 : w3.cell? ⟨o, 2, none⟩ = some (.slice (some ⟨g, 0, none⟩) 16 16) := cell_of_row _ o 2 _ _ _ HK3.out.ho
    have x3 : w3.cell? ⟨o, 3, none⟩ = some (.slice (some ⟨k, 0, none⟩) 16 16) := cell_of_row _ o 3 _ _ _ HK3.out.ho
    have hzo := heap_lt HK3.out.ho
    go_upto_region 6 with (go_at_call 26; refine (B1.out w3.heap.size _ (HK3.out.has1 HT.out)).mono ?_; rintro e w4 ⟨lst4, rfl, hb4, hl4⟩; have HK4 := hid ((HK3.out.stays (Joins.below_alloc1 _ _)).stays hb4); have HL4 := hid hl4; clear hb4 hl4 x0 x1 x2 x3 hzo)
    have hp3 := HL3.out
    have hp4 := HL4.out
    rcases hp3 with ⟨h, _⟩ | ⟨_, _, hp3⟩
    · exact absurd rfl h
    rcases hp4 with ⟨h, _⟩ | ⟨_, _, hp4⟩
    · exact absurd rfl h
    obtain ⟨a3, c3, rfl⟩ := hp3.slice
    obtain ⟨a4, c4, rfl⟩ := hp4.slice
    clear hp3 hp4 HL3 HL4
    rw [R0.out, R1.out]
    go_wp2_with fail
    go_ret
    exact ⟨rfl, HK4.out.below⟩
end Go.Proofs.YtbfpcolkbfljoaaDoor
