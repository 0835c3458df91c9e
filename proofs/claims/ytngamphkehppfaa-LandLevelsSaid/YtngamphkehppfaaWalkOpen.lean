/-
  The walk of open: a land at work, with its own corners, and which of them are held.
-/
import Derived.Test.YtngamphkehppfaaWalkPl
import Derived.Deep.RegionHeld3
namespace Go.Proofs.Ytngamphkehppfaa
open Go.RowKit

/-- Truths as cells. -/
def bools (n : Nat) (F : Nat → Bool) : List Value := (List.range n).map fun i => .bool (F i)
theorem bools_length (n : Nat) (F : Nat → Bool) : (bools n F).length = n := by simp [bools]
theorem bools_get {n : Nat} (F : Nat → Bool) {j : Nat} (h : j < n) : (bools n F)[j]? = some (.bool (F j)) := by simp [bools, h]
theorem bools_set (n : Nat) (F : Nat → Bool) (j : Nat) (x : Bool) : (bools n F).set j (.bool x) = bools n (fun i => if i = j then x else F i) := by
  apply List.ext_getElem?
  intro i
  rw [List.getElem?_set]
  by_cases hi : i < n
  · rw [bools_get _ hi, bools_length, bools_get _ hi]
    by_cases h : j = i
    · subst h; simp [hi]
    · rw [if_neg h, if_neg (Ne.symm h)]
  · rw [List.getElem?_eq_none (by rw [bools_length]; omega)]
    rw [List.getElem?_eq_none (l := bools n _) (by rw [bools_length]; omega)]
    simp [bools_length]; omega
theorem bools_congr {n : Nat} {Z Y : Nat → Bool} (h : ∀ i, i < n → Z i = Y i) : bools n Z = bools n Y := by
  unfold bools; apply List.map_congr_left; intro i hi; rw [h i (by simpa using hi)]
theorem bools_false (n : Nat) : List.replicate n (Value.bool false) = bools n (fun _ => false) := by
  apply List.ext_getElem?
  intro i
  by_cases hi : i < n
  · rw [bools_get _ hi]; simp [hi]
  · rw [List.getElem?_eq_none (by simp; omega), List.getElem?_eq_none (by rw [bools_length]; omega)]

/-- A tile's corners. -/
def pl (W t : Nat) : Nat → Nat
  | 0 => nw W t
  | 1 => nw W t + 1
  | 2 => nw W t + W + 2
  | _ => nw W t + W + 1
/-- Is the i-th corner one of this tile's first q? -/
def markB (W t q i : Nat) : Bool := (List.range q).any fun j => i == pl W t j
theorem markB_succ (W t q i : Nat) : markB W t (q + 1) i = (markB W t q i || i == pl W t q) := by
  unfold markB; rw [List.range_succ, List.any_append]; simp
/-- Is the i-th corner one of this tile's? -/
def atB (W t i : Nat) : Bool := markB W t 4 i
/-- Is the i-th corner one of a held tile? Of the first k numbers of the list. -/
def heldB (W H : Nat) (T : Nat → Int) (k i : Nat) : Bool := (List.range k).any fun j => tileB W H (T j) && atB W (T j).toNat i
theorem heldB_succ (W H : Nat) (T : Nat → Int) (k i : Nat) : heldB W H T (k + 1) i = (heldB W H T k i || tileB W H (T k) && atB W (T k).toNat i) := by
  unfold heldB; rw [List.range_succ, List.any_append]; simp

theorem run_mk (n : Nat) (hn : n ≤ 2000) (w : World) : (Instr.makeSlice 83 (.int .i64 (n : Int)) (.int .i64 (n : Int))).run Try.prog w = .ok (.slice (some ⟨w.heap.size, 0, none⟩) n n) (w.alloc (.cells (madeCells #[.bool false] n) 4)) := by
  obtain ⟨i0, hi, hz0, hz1, hz2⟩ := info_parts info4
  have := run_make (P := Try.prog) w 83 4 i0 (.bool false) Try.underlying83 hi hz0 .i64 .i64 (n : Int) (n : Int) (by omega) (Int.le_refl _) (by rw [hz2]; omega) (by omega)
  rw [this]; simp [hz1, Value.cells]

theorem ix0 (a b c d : Int) (w : World) : (Instr.index 78 (.agg #[.int .i64 a, .int .i64 b, .int .i64 c, .int .i64 d]) (.int .i64 0)).run Try.prog w = .ok (.int .i64 a) w := by kernel_rfl
theorem ix1 (a b c d : Int) (w : World) : (Instr.index 78 (.agg #[.int .i64 a, .int .i64 b, .int .i64 c, .int .i64 d]) (.int .i64 1)).run Try.prog w = .ok (.int .i64 b) w := by kernel_rfl
theorem ix2 (a b c d : Int) (w : World) : (Instr.index 78 (.agg #[.int .i64 a, .int .i64 b, .int .i64 c, .int .i64 d]) (.int .i64 2)).run Try.prog w = .ok (.int .i64 c) w := by kernel_rfl
theorem ix3 (a b c d : Int) (w : World) : (Instr.index 78 (.agg #[.int .i64 a, .int .i64 b, .int .i64 c, .int .i64 d]) (.int .i64 3)).run Try.prog w = .ok (.int .i64 d) w := by kernel_rfl
/-- A row stays where a cell of another block is written. -/
theorem row_other {w : World} {base : Nat} {e : TypeId} {size : Nat} {v : Value} {n : Nat} {xs : List Value} (h : w.ownsRow base e size v n xs) {a : Addr} (ha : v.ownBlock ≠ some a.block) (u : Value) : (w.setCell a u).ownsRow base e size v n xs := by
  refine ⟨h.1, ?_⟩
  rcases h.2 with hn | ⟨g, cap, cur, rfl, hB, hg, rest⟩
  · exact .inl hn
  · refine .inr ⟨g, cap, cur, rfl, hB, ?_, rest⟩
    rw [Below.heap_setCell _ _ _ _ (by intro k; apply ha; simp [Value.ownBlock, k])]
    exact hg
/-- The memory of open: the box of the land, the result's block, the site's block, the row of truths. -/
structure Opn (B sv g2 : Nat) (bx sx : Array Value) (n : Nat) (F : Nat → Bool) (w wr : World) : Prop where
  below : Below B w wr
  hb : wr.heap[B]? = some (.cells bx 24 (0, 0))
  hr : wr.heap[B + 1]? = some (.cells #[.int .i64 0, .int .i64 0, .slice none 0 0, .slice none 0 0] 85 (0, 0))
  hs : wr.heap[sv]? = some (.cells sx 85 (0, 0))
  row : wr.ownsRow B 4 1 (.slice (some ⟨g2, 0, none⟩) n n) n (bools n F)
  d1 : B + 1 < sv
  d2 : B + 1 < g2
  d3 : sv ≠ g2
theorem heap_lt {w : World} {b : Nat} {o : Obj} (h : w.heap[b]? = some o) : b < w.heap.size := (Array.getElem?_eq_some_iff.1 h).1
theorem Opn.stays {B sv g2 n : Nat} {bx sx : Array Value} {F : Nat → Bool} {w wr w' : World} (h : Opn B sv g2 bx sx n F w wr) (k : Below wr.heap.size wr w') : Opn B sv g2 bx sx n F w w' := by
  have hB : B ≤ wr.heap.size := by have := heap_lt h.hb; omega
  exact ⟨h.below.trans (k.mono hB), (k.block _ (heap_lt h.hb)).trans h.hb, (k.block _ (heap_lt h.hr)).trans h.hr, (k.block _ (heap_lt h.hs)).trans h.hs, row_stays h.row k, h.d1, h.d2, h.d3⟩
theorem Opn.mark {B sv g2 n : Nat} {bx sx : Array Value} {F : Nat → Bool} {w wr : World} (h : Opn B sv g2 bx sx n F w wr) (p : Nat) : Opn B sv g2 bx sx n (fun i => if i = p then true else F i) w (wr.setCell ⟨g2, p, none⟩ (.bool true)) := by
  have h1 := h.d1
  have h2 := h.d2
  have h3 := h.d3
  have k := fun b (hb : b ≠ g2) => Below.heap_setCell wr ⟨g2, p, none⟩ (.bool true) b hb
  refine ⟨h.below.setCell (p := ⟨g2, p, none⟩) (by show B ≤ g2; omega) _, (k _ (by omega)).trans h.hb, (k _ (by omega)).trans h.hr, (k _ (by omega)).trans h.hs, ?_, h1, h2, h3⟩
  have := (h.row.stored p (.bool true)).1
  rwa [bools_set] at this
theorem Opn.put {B sv g2 n : Nat} {bx sx : Array Value} {F : Nat → Bool} {w wr : World} (h : Opn B sv g2 bx sx n F w wr) (p : Nat) (u : Value) : Opn B sv g2 bx (sx.setIfInBounds p u) n F w (wr.setCell ⟨sv, p, none⟩ u) := by
  have h1 := h.d1
  have h2 := h.d2
  have h3 := h.d3
  have k := fun b (hb : b ≠ sv) => Below.heap_setCell wr ⟨sv, p, none⟩ u b hb
  refine ⟨h.below.setCell (p := ⟨sv, p, none⟩) (by show B ≤ sv; omega) _, (k _ (by omega)).trans h.hb, (k _ (by omega)).trans h.hr, heap_setCell_same wr sv p sx 85 u h.hs, ?_, h1, h2, h3⟩
  exact row_other h.row (by show some g2 ≠ some sv; simp; omega) u
theorem heap4 (w : World) (a b c d : Obj) : ((((w.alloc a).alloc b).alloc c).alloc d).drew.heap = (((w.heap.push a).push b).push c).push d := rfl
theorem get4 (h : Array Obj) (a b c d : Obj) : ((((h.push a).push b).push c).push d)[h.size]? = some a ∧ ((((h.push a).push b).push c).push d)[h.size + 1]? = some b ∧
    ((((h.push a).push b).push c).push d)[h.size + 1 + 1]? = some c ∧ ((((h.push a).push b).push c).push d)[h.size + 1 + 1 + 1]? = some d := by
  simp only [Array.getElem?_push, Array.size_push]
  refine ⟨?_, ?_, ?_, ?_⟩
  · rw [if_neg (by omega), if_neg (by omega), if_neg (by omega), if_pos trivial]
  · rw [if_neg (by omega), if_neg (by omega), if_pos trivial]
  · rw [if_neg (by omega), if_pos trivial]
  · rw [if_pos trivial]
theorem opn1 (w : World) (bx sx : Array Value) (n : Nat) (hn : n ≤ 2000) : Opn w.heap.size (w.heap.size + 1 + 1 + 1) (w.heap.size + 1 + 1) bx sx n (fun _ => false) w
    ((((w.alloc (.cells bx 24)).alloc (.cells #[.int .i64 0, .int .i64 0, .slice none 0 0, .slice none 0 0] 85)).alloc (.cells (madeCells #[.bool false] n) 4)).alloc (.cells sx 85)).drew := by
  refine ⟨(((Joins.below_alloc2 w _ _).alloc (by simp; omega) _).alloc (by simp; omega) _).drew, ?_, ?_, ?_, ?_, by omega, by omega, by omega⟩
  · exact (get4 _ _ _ _ _).1
  · exact (get4 _ _ _ _ _).2.1
  · exact (get4 _ _ _ _ _).2.2.2
  · have := World.ownsRow_lit (size := 1) (base := w.heap.size) (e := 4) ((w.alloc (.cells bx 24)).alloc (.cells #[.int .i64 0, .int .i64 0, .slice none 0 0, .slice none 0 0] 85)) (madeCells #[.bool false] n) n (by simp; omega) (by unfold maxLen; omega) (by simp [madeCells])
    rw [toList_madeCells_one, bools_false] at this
    have := (this.alloc (.cells sx 85)).drew
    simpa using this
theorem opn2 (w : World) (bx sx : Array Value) (n : Nat) (hn : n ≤ 2000) : Opn w.heap.size (w.heap.size + 1 + 1) (w.heap.size + 1 + 1 + 1) bx sx n (fun _ => false) w
    ((((w.alloc (.cells bx 24)).alloc (.cells #[.int .i64 0, .int .i64 0, .slice none 0 0, .slice none 0 0] 85)).alloc (.cells sx 85)).alloc (.cells (madeCells #[.bool false] n) 4)).drew := by
  refine ⟨(((Joins.below_alloc2 w _ _).alloc (by simp; omega) _).alloc (by simp; omega) _).drew, ?_, ?_, ?_, ?_, by omega, by omega, by omega⟩
  · exact (get4 _ _ _ _ _).1
  · exact (get4 _ _ _ _ _).2.1
  · exact (get4 _ _ _ _ _).2.2.1
  · have := World.ownsRow_lit (size := 1) (base := w.heap.size) (e := 4) (((w.alloc (.cells bx 24)).alloc (.cells #[.int .i64 0, .int .i64 0, .slice none 0 0, .slice none 0 0] 85)).alloc (.cells sx 85)) (madeCells #[.bool false] n) n (by simp; omega) (by unfold maxLen; omega) (by simp [madeCells])
    rw [toList_madeCells_one, bools_false] at this
    have := this.drew
    simpa using this

set_option maxHeartbeats 3200000 in
theorem open_any (W H : Nat) (ao : Option Addr) (n cap : Nat) (Z : Nat → Int) (hg : Good W H n Z) (bo : Option Addr) (m cap2 : Nat) (hm : m ≤ 9223372036854775807) (T : Nat → Int) (w : World) (hI : Ints w ao n Z) (hT : Ints w bo m T) :
    Calls Try.prog 63 #[lv W H (.slice ao n cap), .slice bo m cap2] w fun r w' =>
      ∃ g1 g2 cap1 : Nat, r = .returned (.agg #[.int .i64 W, .int .i64 H, .slice (some ⟨g1, 0, none⟩) n cap1, .slice (some ⟨g2, 0, none⟩) n n]) ∧
        w'.ownsRow w.heap.size 3 1 (.slice (some ⟨g1, 0, none⟩) n cap1) n (ints n Z) ∧ w'.ownsRow w.heap.size 4 1 (.slice (some ⟨g2, 0, none⟩) n n) n (bools n (heldB W H T m)) ∧ g1 ≠ g2 ∧ Below w.heap.size w w' := by
  obtain ⟨hW1, hW2, hH1, hH2⟩ := hg.side
  have hlb := hg.shaped.bound
  have HG := hid hg
  have HI := hid hI
  have HT := hid hT
  have hmk := run_mk n (by omega)
  clear hI hg hT
  go_enter Try.func63, Try.ntmps63
  go_wp2_with fail
  go_region_held3 (fun w' => w'.cell? ⟨w.heap.size, 0, none⟩ = some (.int .i64 W) ∧ w'.cell? ⟨w.heap.size, 1, none⟩ = some (.int .i64 H) ∧ w'.cell? ⟨w.heap.size, 2, none⟩ = some (.slice ao n cap))
    (go_keep)
    (fail)
  all_goals (rename_i hHeld; clear hHeld hmk)
  case' refine_2.refine_3.refine_3.refine_3.refine_3.refine_1.refine_2.refine_3.refine_1.refine_2.refine_1.refine_2 =>
    have hO := opn1 w #[.int .i64 W, .int .i64 H, .slice ao n cap] #[.int .i64 W, .int .i64 H, .slice ao n cap, .slice (some ⟨w.heap.size + 1 + 1, 0, none⟩) n n] n (by omega)
    generalize w.heap.size + 1 + 1 + 1 = sv at hO ⊢
    generalize w.heap.size + 1 + 1 = g2 at hO ⊢
  case' refine_2.refine_3.refine_3.refine_3.refine_3.refine_2.refine_1.refine_2.refine_1.refine_2.refine_3.refine_1.refine_2 =>
    have hO := opn2 w #[.int .i64 W, .int .i64 H, .slice ao n cap] #[.int .i64 W, .int .i64 H, .slice ao n cap, .slice (some ⟨w.heap.size + 1 + 1 + 1, 0, none⟩) n n] n (by omega)
    generalize w.heap.size + 1 + 1 + 1 = g2 at hO ⊢
    generalize w.heap.size + 1 + 1 = sv at hO ⊢
  all_goals
    obtain ⟨B, hB⟩ : ∃ B, B = w.heap.size := ⟨_, rfl⟩
    have HBB := hid hB
    simp only [← hB] at hO ⊢
    clear hB
    generalize World.drew _ = w1 at hO ⊢
    have HO := hid hO
    have b0 : w1.cell? ⟨B, 0, none⟩ = some (.int .i64 W) := cell_of_row w1 B 0 _ _ _ HO.out.hb
    have b1 : w1.cell? ⟨B, 1, none⟩ = some (.int .i64 H) := cell_of_row w1 B 1 _ _ _ HO.out.hb
    have b2 : w1.cell? ⟨B, 2, none⟩ = some (.slice ao n cap) := cell_of_row w1 B 2 _ _ _ HO.out.hb
    clear hO
    go_wp2_with fail
    refine (clone_any ao n cap Z (by omega) (by omega) _ (HI.out.stays (by have := HO.out.below; rwa [HBB.out] at this))).mono ?_
    rintro e w2 ⟨v, rfl, hown, hb2⟩
    have HO2 := hid (HO.out.stays hb2)
    obtain ⟨g1, cap1, rfl, hg1, hg1'⟩ := hown.form (by omega)
    have hsl := heap_lt HO.out.hs
    have s2 : w2.cell? ⟨sv, 2, none⟩ = some (.slice ao n cap) := cell_of_row w2 sv 2 _ _ _ HO2.out.hs
    have s2f : w2.frozen? ⟨sv, 2, none⟩ = false := frozen_of_row w2 sv 2 _ _ HO2.out.hs
    have HR := hid hown
    clear hown hb2 b0 b1 b2
    go_wp2_with fail
    have hO3 := HO2.out.put 2 (.slice (some ⟨g1, 0, none⟩) n cap1)
    have hR3 := row_other (a := ⟨sv, 2, none⟩) HR.out (by simp [Value.ownBlock]; omega) (.slice (some ⟨g1, 0, none⟩) n cap1)
    have hR4 := hR3.mono' (base' := B) (by have := heap_lt HO.out.hb; omega)
    have hne := HO.out.row.lt g2 rfl
    have H3 := hid (And.intro hO3 hR4)
    have hg12 : g1 ≠ g2 := by omega
    clear hO3 hR3 hR4 s2 s2f HO HO2 HR
    generalize w2.setCell ⟨sv, 2, none⟩ (.slice (some ⟨g1, 0, none⟩) n cap1) = w3 at H3 ⊢
    have HOP : Hid (Opn B sv g2 #[.int .i64 W, .int .i64 H, .slice ao n cap] #[.int .i64 W, .int .i64 H, .slice (some ⟨g1, 0, none⟩) n cap1, .slice (some ⟨g2, 0, none⟩) n n] n (heldB W H T 0) w w3 ∧ w3.ownsRow B 3 1 (.slice (some ⟨g1, 0, none⟩) n cap1) n (ints n Z)) := H3
    clear H3
    go_loopw [23] (fun iv wr => ∃ k : Nat, k ≤ m ∧ iv = .int .i64 k ∧
      Hid (Opn B sv g2 #[.int .i64 W, .int .i64 H, .slice ao n cap] #[.int .i64 W, .int .i64 H, .slice (some ⟨g1, 0, none⟩) n cap1, .slice (some ⟨g2, 0, none⟩) n n] n (heldB W H T k) w wr ∧ wr.ownsRow B 3 1 (.slice (some ⟨g1, 0, none⟩) n cap1) n (ints n Z))) (fun iv _ => m - (intOf iv).toNat)
    case atStart => exact ⟨0, Nat.zero_le _, rfl, HOP⟩
    case round =>
      obtain ⟨k, hk, rfl, hR⟩ := hrel
      clear HOP
      by_cases hlt : k < m
      · obtain ⟨b, off, rfl, hbz, hcell⟩ := HT.out k hlt
        have q0 := (hR.out.1.below.cell (p := ⟨b, off + k, none⟩) (by rw [HBB.out]; exact hbz)).trans hcell
        obtain ⟨t, et⟩ : ∃ t, t = T k := ⟨_, rfl⟩
        rw [← et] at q0
        have ET := hid et
        have b0 : wr.cell? ⟨B, 0, none⟩ = some (.int .i64 W) := cell_of_row wr B 0 _ _ _ hR.out.1.hb
        have b1 : wr.cell? ⟨B, 1, none⟩ = some (.int .i64 H) := cell_of_row wr B 1 _ _ _ hR.out.1.hb
        have b2 : wr.cell? ⟨B, 2, none⟩ = some (.slice ao n cap) := cell_of_row wr B 2 _ _ _ hR.out.1.hb
        have hBz := heap_lt hR.out.1.hb
        have HRA := hid (And.intro (hR.out.1.stays (Joins.below_alloc1 wr (.cells #[.int .i64 W, .int .i64 H, .slice ao n cap] 24))) (row_stays hR.out.2 (Joins.below_alloc1 wr (.cells #[.int .i64 W, .int .i64 H, .slice ao n cap] 24))))
        clear et hcell
        cases hti : tileB W H t with
        | false =>
          have HTI := hid hti
          go_wp2_with (go_at_call 67; refine (isTile_any W H hW2 hH2 _ t _).mono ?_; rw [HTI.out]; rintro e w' ⟨rfl, rfl⟩)
          go_roundw
          case rel =>
            refine ⟨k + 1, by omega, by go_num, hid ⟨?_, HRA.out.2⟩⟩
            have : heldB W H T (k + 1) = heldB W H T k := by funext i; rw [heldB_succ, ← ET.out, HTI.out]; simp
            rw [this]; exact HRA.out.1
          case measure => simp [intOf]; omega
        | true =>
          have HTI := hid hti
          obtain ⟨u, rfl, hu⟩ : ∃ u : Nat, t = u ∧ u < W * H := by unfold tileB at hti; simp at hti; exact ⟨t.toNat, by omega, by omega⟩
          have HU := hid hu
          clear hti hu
          go_wp2_with (first
            | (go_at_call 67; refine (isTile_any W H hW2 hH2 _ u _).mono ?_; rw [HTI.out]; rintro e w' ⟨rfl, rfl⟩)
            | (go_at_call 68; refine (places_any W H (by omega) hW2 hH2 _ u HU.out _).mono ?_; rintro e w4 ⟨rfl, hb4⟩))
          have hp : nw W u + W + 2 < n := by rw [HG.out.len]; exact nw_lt HU.out
          have e0 : heldB W H T k = fun i => heldB W H T k i || markB W u 0 i := by funext i; simp [markB]
          have H4 : Hid (Opn B sv g2 #[.int .i64 W, .int .i64 H, .slice ao n cap] #[.int .i64 W, .int .i64 H, .slice (some ⟨g1, 0, none⟩) n cap1, .slice (some ⟨g2, 0, none⟩) n n] n (fun i => heldB W H T k i || markB W u 0 i) w w4 ∧ w4.ownsRow B 3 1 (.slice (some ⟨g1, 0, none⟩) n cap1) n (ints n Z)) :=
            hid ⟨by rw [← e0]; exact HRA.out.1.stays hb4, row_stays HRA.out.2 hb4⟩
          clear HRA hb4 e0 q0 b0 b1 b2 hBz hR
          obtain ⟨a, ha⟩ : ∃ a, a = nw W u := ⟨_, rfl⟩
          unfold four
          rw [← ha] at hp ⊢
          have HA := hid ha
          clear ha
          go_loopw [34] (fun iv wr => ∃ q : Nat, q ≤ 4 ∧ iv = .int .i64 q ∧
            Hid (Opn B sv g2 #[.int .i64 W, .int .i64 H, .slice ao n cap] #[.int .i64 W, .int .i64 H, .slice (some ⟨g1, 0, none⟩) n cap1, .slice (some ⟨g2, 0, none⟩) n n] n (fun i => heldB W H T k i || markB W u q i) w wr ∧ wr.ownsRow B 3 1 (.slice (some ⟨g1, 0, none⟩) n cap1) n (ints n Z))) (fun iv _ => 4 - (intOf iv).toNat)
          case atStart => exact ⟨0, by omega, rfl, H4⟩
          case round =>
            obtain ⟨q, hq, rfl, hR⟩ := hrel
            clear H4
            have s3 : wr.cell? ⟨sv, 3, none⟩ = some (.slice (some ⟨g2, 0, none⟩) n n) := cell_of_row wr sv 3 _ _ _ hR.out.1.hs
            have hg2z := (hR.out.1.row.lt g2 rfl).2
            have hfr := fun p => hR.out.1.row.frozenAt p
            have hce := fun p (hp : p < n) => (hR.out.1.row.cellAt p (by omega)).trans (bools_get _ hp)
            have hst : ∀ p, p = pl W u q → Opn B sv g2 #[.int .i64 W, .int .i64 H, .slice ao n cap] #[.int .i64 W, .int .i64 H, .slice (some ⟨g1, 0, none⟩) n cap1, .slice (some ⟨g2, 0, none⟩) n n] n (fun i => heldB W H T k i || markB W u (q + 1) i) w (wr.setCell ⟨g2, p, none⟩ (.bool true)) ∧ (wr.setCell ⟨g2, p, none⟩ (.bool true)).ownsRow B 3 1 (.slice (some ⟨g1, 0, none⟩) n cap1) n (ints n Z) := by
              intro p hp
              refine ⟨?_, row_other hR.out.2 (by simp [Value.ownBlock]; omega) _⟩
              have := hR.out.1.mark p
              have e : (fun i => heldB W H T k i || markB W u (q + 1) i) = fun i => if i = p then true else (heldB W H T k i || markB W u q i) := by
                funext i; rw [markB_succ, ← hp]
                by_cases h : i = p
                · simp [h]
                · have h2 : (i == p) = false := by simpa using h
                  simp [h, h2]
              rw [e]; exact this
            by_cases hlt : q < 4
            · have f0 := hfr a
              have f1 := hfr (a + 1)
              have f2 := hfr (a + W + 2)
              have f3 := hfr (a + W + 1)
              obtain ⟨x0, c0⟩ : ∃ x, wr.cell? ⟨g2, a, none⟩ = some (.bool x) := ⟨_, hce a (by omega)⟩
              obtain ⟨x1, c1⟩ : ∃ x, wr.cell? ⟨g2, (a + 1), none⟩ = some (.bool x) := ⟨_, hce (a + 1) (by omega)⟩
              obtain ⟨x2, c2⟩ : ∃ x, wr.cell? ⟨g2, (a + W + 2), none⟩ = some (.bool x) := ⟨_, hce (a + W + 2) (by omega)⟩
              obtain ⟨x3, c3⟩ : ∃ x, wr.cell? ⟨g2, (a + W + 1), none⟩ = some (.bool x) := ⟨_, hce (a + W + 1) (by omega)⟩
              have HST := hid hst
              clear hfr hce hst
              have i0 := ix0
              have i1 := ix1
              have i2 := ix2
              have i3 := ix3
              rcases (show q = 0 ∨ q = 1 ∨ q = 2 ∨ q = 3 by omega) with rfl | rfl | rfl | rfl
              · go_wp2_with fail
                go_roundw
                case rel => exact ⟨1, by omega, by go_num, hid (HST.out a HA.out)⟩
                case measure => simp [intOf]
              · go_wp2_with fail
                go_roundw
                case rel => exact ⟨2, by omega, by go_num, hid (HST.out (a + 1) (by rw [HA.out]; rfl))⟩
                case measure => simp [intOf]
              · go_wp2_with fail
                go_roundw
                case rel => exact ⟨3, by omega, by go_num, hid (HST.out (a + W + 2) (by rw [HA.out]; rfl))⟩
                case measure => simp [intOf]
              · go_wp2_with fail
                go_roundw
                case rel => exact ⟨4, by omega, by go_num, hid (HST.out (a + W + 1) (by rw [HA.out]; rfl))⟩
                case measure => simp [intOf]
            · obtain rfl : q = 4 := by omega
              clear hst hfr hce s3 hg2z
              go_wp2_with fail
              go_roundw
              case rel =>
                refine ⟨k + 1, by omega, by go_num, hid ⟨?_, hR.out.2⟩⟩
                have : heldB W H T (k + 1) = fun i => heldB W H T k i || markB W u 4 i := by
                  funext i; rw [heldB_succ, ← ET.out, HTI.out]; simp [atB]
                rw [this]; exact hR.out.1
              case measure => simp [intOf]; omega
      · obtain rfl : m = k := by omega
        have s0 : wr.cell? ⟨sv, 0, none⟩ = some (.int .i64 W) := cell_of_row wr sv 0 _ _ _ hR.out.1.hs
        have s1 : wr.cell? ⟨sv, 1, none⟩ = some (.int .i64 H) := cell_of_row wr sv 1 _ _ _ hR.out.1.hs
        have s2 : wr.cell? ⟨sv, 2, none⟩ = some (.slice (some ⟨g1, 0, none⟩) n cap1) := cell_of_row wr sv 2 _ _ _ hR.out.1.hs
        have s3 : wr.cell? ⟨sv, 3, none⟩ = some (.slice (some ⟨g2, 0, none⟩) n n) := cell_of_row wr sv 3 _ _ _ hR.out.1.hs
        have r0 : wr.cell? ⟨B + 1, 0, none⟩ = some (.int .i64 0) := cell_of_row wr (B + 1) 0 _ _ _ hR.out.1.hr
        have r1 : wr.cell? ⟨B + 1, 1, none⟩ = some (.int .i64 0) := cell_of_row wr (B + 1) 1 _ _ _ hR.out.1.hr
        have r2 : wr.cell? ⟨B + 1, 2, none⟩ = some (.slice none 0 0) := cell_of_row wr (B + 1) 2 _ _ _ hR.out.1.hr
        have r3 : wr.cell? ⟨B + 1, 3, none⟩ = some (.slice none 0 0) := cell_of_row wr (B + 1) 3 _ _ _ hR.out.1.hr
        have f0 : wr.frozen? ⟨B + 1, 0, none⟩ = false := frozen_of_row wr (B + 1) 0 _ _ hR.out.1.hr
        have f1 : wr.frozen? ⟨B + 1, 1, none⟩ = false := frozen_of_row wr (B + 1) 1 _ _ hR.out.1.hr
        have f2 : wr.frozen? ⟨B + 1, 2, none⟩ = false := frozen_of_row wr (B + 1) 2 _ _ hR.out.1.hr
        have f3 : wr.frozen? ⟨B + 1, 3, none⟩ = false := frozen_of_row wr (B + 1) 3 _ _ hR.out.1.hr
        have hbs := heap_lt hR.out.1.hr
        have hd1 := hR.out.1.d1
        have hss := heap_lt hR.out.1.hs
        have hne1 := hR.out.1.d2
        go_wp2_with fail
        have hR' := hR.out
        have HR2 := hid hR'
        clear hR hR' r0 r1 r2 r3 f0 f1 f2 f3 s0 s1 s2 s3
        have k0 := heap_setCell_same wr (B + 1) 0 _ _ (.int .i64 W) HR2.out.1.hr
        have k1 := heap_setCell_same _ (B + 1) 1 _ _ (.int .i64 H) k0
        have k2 := heap_setCell_same _ (B + 1) 2 _ _ (.slice (some ⟨g1, 0, none⟩) n cap1) k1
        have k3 := heap_setCell_same _ (B + 1) 3 _ _ (.slice (some ⟨g2, 0, none⟩) n n) k2
        have m1 := row_other (a := ⟨B + 1, 0, none⟩) HR2.out.1.row (by simp [Value.ownBlock]; omega) (.int .i64 W)
        have m1 := row_other (a := ⟨B + 1, 1, none⟩) m1 (by simp [Value.ownBlock]; omega) (.int .i64 H)
        have m1 := row_other (a := ⟨B + 1, 2, none⟩) m1 (by simp [Value.ownBlock]; omega) (.slice (some ⟨g1, 0, none⟩) n cap1)
        have m1 := row_other (a := ⟨B + 1, 3, none⟩) m1 (by simp [Value.ownBlock]; omega) (.slice (some ⟨g2, 0, none⟩) n n)
        have m2 := row_other (a := ⟨B + 1, 0, none⟩) HR2.out.2 (by simp [Value.ownBlock]; omega) (.int .i64 W)
        have m2 := row_other (a := ⟨B + 1, 1, none⟩) m2 (by simp [Value.ownBlock]; omega) (.int .i64 H)
        have m2 := row_other (a := ⟨B + 1, 2, none⟩) m2 (by simp [Value.ownBlock]; omega) (.slice (some ⟨g1, 0, none⟩) n cap1)
        have m2 := row_other (a := ⟨B + 1, 3, none⟩) m2 (by simp [Value.ownBlock]; omega) (.slice (some ⟨g2, 0, none⟩) n n)
        have m3 := (((HR2.out.1.below.setCell (p := ⟨B + 1, 0, none⟩) (Nat.le_succ _) (.int .i64 W)).setCell (p := ⟨B + 1, 1, none⟩) (Nat.le_succ _) (.int .i64 H)).setCell (p := ⟨B + 1, 2, none⟩) (Nat.le_succ _) (.slice (some ⟨g1, 0, none⟩) n cap1)).setCell (p := ⟨B + 1, 3, none⟩) (Nat.le_succ _) (.slice (some ⟨g2, 0, none⟩) n n)
        generalize World.setCell _ _ _ = w5 at m1 m2 m3 k3 ⊢
        have q0 := cell_of_row w5 (B + 1) 0 _ _ _ k3
        have q1 := cell_of_row w5 (B + 1) 1 _ _ _ k3
        have q2 := cell_of_row w5 (B + 1) 2 _ _ _ k3
        have q3 := cell_of_row w5 (B + 1) 3 _ _ _ k3
        simp at q0 q1 q2 q3
        refine bodyPost_ret (v := .agg #[.int .i64 W, .int .i64 H, .slice (some ⟨g1, 0, none⟩) n cap1, .slice (some ⟨g2, 0, none⟩) n n]) (by simp [results, Try.results63, go_sem, q0, q1, q2, q3]) rfl ⟨g1, g2, cap1, rfl, ?_, ?_, hg12, ?_⟩
        · rw [← HBB.out]; exact m2
        · rw [← HBB.out]; exact m1
        · rw [← HBB.out]; exact m3
end Go.Proofs.Ytngamphkehppfaa
