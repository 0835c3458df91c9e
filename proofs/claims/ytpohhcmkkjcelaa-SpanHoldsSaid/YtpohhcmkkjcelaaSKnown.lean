/-
  The walk of known: the document's example; of far.
-/
import Derived.Test.YtpohhcmkkjcelaaSVOn
namespace Go.Proofs.Ytpohhcmkkjcelaa
open Go.RowKit

theorem ints_of_row {w : World} {B g n cap : Nat} {Z : Nat → Int} (h : w.ownsRow B 3 1 (.slice (some ⟨g, 0, none⟩) n cap) n (vals n (iv Z))) : Ints w (some ⟨g, 0, none⟩) n Z := fun j hj =>
  ⟨g, 0, rfl, (h.lt g rfl).2, by rw [Nat.zero_add, h.cellAt j (by omega), vals_get _ hj]⟩
theorem three_val : Good 4 4 25 (fun _ => 3) := by
  refine ⟨⟨⟨⟨by omega, by omega⟩, by omega, by omega⟩, by decide⟩, fun i _ => ⟨by omega, by omega⟩, fun i _ => ⟨fun _ => by unfold dist; simp, fun _ => by unfold dist; simp⟩⟩
theorem three_rt : Rt 4 4 (fun _ => 3) 0 0 3 0 := by
  refine ⟨⟨by omega, by omega, by omega, by omega⟩, by omega, by omega, ⟨by omega, .inl (by decide)⟩, by decide, ⟨rfl, by decide +kernel, by decide +kernel, fun h => (by cases h), fun i _ => ⟨fun _ => (by show mx4 3 3 3 3 ≤ mn4 3 3 3 3; decide), fun h => (by cases h)⟩⟩⟩
theorem three_cost : CostIs 4 4 25 (fun _ => 3) 0 0 3 0 3000 0 :=
  .inr ⟨rfl, 4, 4, 0, 3, rfl, rfl, rfl, rfl, three_val, three_rt, by decide +kernel⟩

/-- The memory of known. -/
structure KF (k : Nat) (v : Value) (w wr : World) : Prop where
  below : Below w.heap.size w wr
  hl : wr.heap[w.heap.size]? = some (.cells #[.int .i64 4, .int .i64 4, v] 24 (0, 0))
  row : wr.ownsRow (w.heap.size + 1) 3 1 v k (vals k (iv fun _ => 3))

set_option maxHeartbeats 3200000 in
theorem known_any (w : World) : Calls Try.prog 13 #[] w fun r w' => r = .returned (.bool true) ∧ Below w.heap.size w w' := by
  obtain ⟨i0, hi, hz0, hz1, hz2⟩ := info_parts info3
  have HIN := hid (And.intro hi (And.intro hz0 (And.intro hz1 hz2)))
  clear hi hz0 hz1 hz2
  have HF : Hid (KF 0 (.slice none 0 0) w (w.alloc (.cells #[.int .i64 4, .int .i64 4, .slice none 0 0] 24))) :=
    hid ⟨Joins.below_alloc1 _ _, World.alloc_heap_new w _, World.ownsRow_nil _ _ _ _⟩
  go_enter Try.func13, Try.ntmps13
  go_wp2_with fail
  generalize World.alloc _ _ = w1 at HF ⊢
  go_loopw [2] (fun iv wr => ∃ (k : Nat) (v : Value), k ≤ 25 ∧ iv = .int .i64 k ∧ Hid (KF k v w wr)) (fun iv _ => 25 - (intOf iv).toNat)
  case atStart => exact ⟨0, _, by omega, rfl, HF⟩
  case round =>
    obtain ⟨k, v, hk, rfl, hR⟩ := hrel
    clear HF
    have hbz := heap_lt hR.out.hl
    have l0 : wr.cell? ⟨w.heap.size, 0, none⟩ = some (.int .i64 4) := cell_of_row wr _ 0 _ _ _ hR.out.hl
    have l1 : wr.cell? ⟨w.heap.size, 1, none⟩ = some (.int .i64 4) := cell_of_row wr _ 1 _ _ _ hR.out.hl
    have l2 : wr.cell? ⟨w.heap.size, 2, none⟩ = some v := cell_of_row wr _ 2 _ _ _ hR.out.hl
    by_cases hlt : k < 25
    · go_wp2_with (at_builtin; refine wpList_append_own _ rfl _ _ 22 rfl (w.heap.size + 1) 3 i0 (.int .i64 0) 1 8 Try.underlying22 HIN.out.1 HIN.out.2.1 HIN.out.2.2.1 HIN.out.2.2.2 rfl (by decide) _ _ _ rfl (hR.out.row.alloc _) ⟨wr.heap.size, 0, none⟩ 1 1 [.int .i64 3] rfl rfl ?c1 ?c2 ?c3 ?c4 ?c5 ?_)
      case c1 =>
        intro j u hj
        match j, hj with
        | 0, hj => simp at hj; subst hj; simp [Addr.add]
      case c2 => intro u hu; simp at hu; subst hu; rfl
      case c3 => unfold maxLen; omega
      case c4 => omega
      case c5 => simp; omega
      intro v' w2 hown hgrow _
      obtain ⟨g', cap', rfl, _, _⟩ := hown.form (by omega)
      have hg' := hown.lt g' rfl
      have ho : ∀ j, v.ownBlock = some j → w.heap.size + 1 ≤ j := fun j hj => (hR.out.row.lt j hj).1
      have e2 : w2.heap[w.heap.size]? = some (.cells #[.int .i64 4, .int .i64 4, v] 24 (0, 0)) :=
        (hgrow.block w.heap.size (by simp; omega) (fun h => by have := ho _ h.symm; omega)).trans ((Below.heap_alloc wr _ _ hbz).trans hR.out.hl)
      have hb2 := (hR.out.below.alloc (by omega) (.cells #[.int .i64 3] 3)).grown hgrow (by simp; omega) (fun k hk => by have := ho k hk; omega)
      have m0 : w2.cell? ⟨w.heap.size, 0, none⟩ = some (.int .i64 4) := cell_of_row w2 _ 0 _ _ _ e2
      have m2 : w2.cell? ⟨w.heap.size, 2, none⟩ = some v := cell_of_row w2 _ 2 _ _ _ e2
      have mf : w2.frozen? ⟨w.heap.size, 2, none⟩ = false := frozen_of_row w2 _ 2 _ _ e2
      have mz := heap_lt e2
      have hN : Hid (KF (k + 1) (.slice (some ⟨g', 0, none⟩) (k + 1) cap') w (w2.setCell ⟨w.heap.size, 2, none⟩ (.slice (some ⟨g', 0, none⟩) (k + 1) cap'))) := by
        refine hid ⟨hb2.setCell (p := ⟨w.heap.size, 2, none⟩) (Nat.le_refl _) _, heap_setCell_same w2 _ 2 _ _ _ e2, ?_⟩
        have := row_other (a := ⟨w.heap.size, 2, none⟩) hown (by simp [Value.ownBlock]; omega) (.slice (some ⟨g', 0, none⟩) (k + 1) cap')
        rw [vals_succ]; exact this
      clear hown hgrow e2 hb2 l0 l1 l2 hR
      go_wp2_with fail
      go_roundw
      case rel => exact ⟨k + 1, _, by omega, by go_num, hN⟩
      case measure => simp [intOf]; omega
    · obtain rfl : k = 25 := by omega
      obtain ⟨g, cap, rfl, _, _⟩ := hR.out.row.form (by omega)
      have HB := hid hR.out.below
      have HI := hid (ints_of_row hR.out.row)
      clear hR
      go_wp2_with (go_at_call 17; refine (spcost_to 4 4 _ 25 cap (fun _ => 3) (by omega) 0 0 3 0 3000 0 three_cost _ HI.out).mono ?_; rintro e w3 ⟨rfl, hb3⟩)
      go_ret
      exact ⟨rfl, HB.out.trans (hb3.mono HB.out.size)⟩

set_option maxHeartbeats 800000 in
theorem far_yes (W H : Int) (ao : Option Addr) (n cap : Nat) (lo : Option Addr) (m lcap : Nat) (hn : n ≤ 9223372036854775807) (hm : m ≤ 9223372036854775807) (h : 3000 < n ∨ 300 < m) (w : World) :
    Calls Try.prog 12 #[lv W H (.slice ao n cap), .slice lo m lcap] w fun r w' => r = .returned (.bool true) ∧ Below w.heap.size w w' := by
  have HW := hid (Joins.below_alloc1 w (.cells #[.int .i64 W, .int .i64 H, .slice ao n cap] 24))
  by_cases h1 : 3000 < n
  · clear h
    go_enter Try.func12, Try.ntmps12
    go_wp2_with fail
    go_ret
    exact ⟨ret_bool (by simp <;> omega), HW.out⟩
  · have h2 : 300 < m := h.resolve_left h1
    clear h
    go_enter Try.func12, Try.ntmps12
    go_wp2_with fail
    go_ret
    exact ⟨ret_bool (by simp <;> omega), HW.out⟩
set_option maxHeartbeats 800000 in
theorem far_no (W H : Int) (ao : Option Addr) (n cap : Nat) (lo : Option Addr) (m lcap : Nat) (h : n ≤ 3000 ∧ m ≤ 300) (w : World) :
    Calls Try.prog 12 #[lv W H (.slice ao n cap), .slice lo m lcap] w fun r w' => r = .returned (.bool false) ∧ Below w.heap.size w w' := by
  have HW := hid (Joins.below_alloc1 w (.cells #[.int .i64 W, .int .i64 H, .slice ao n cap] 24))
  obtain ⟨h1, h2⟩ := h
  go_enter Try.func12, Try.ntmps12
  go_wp2_with fail
  go_ret
  exact ⟨ret_bool (by simp <;> omega), HW.out⟩
end Go.Proofs.Ytpohhcmkkjcelaa
