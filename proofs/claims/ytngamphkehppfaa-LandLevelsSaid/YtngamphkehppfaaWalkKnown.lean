/-
  The walks of flat and known: the document's example.
-/
import Derived.Test.YtngamphkehppfaaKeeps
namespace Go.Proofs.Ytngamphkehppfaa
open Go.RowKit

theorem ints_of_row {w : World} {B g n cap : Nat} {Z : Nat → Int} (h : w.ownsRow B 3 1 (.slice (some ⟨g, 0, none⟩) n cap) n (ints n Z)) : Ints w (some ⟨g, 0, none⟩) n Z := fun j hj =>
  ⟨g, 0, rfl, (h.lt g rfl).2, by rw [Nat.zero_add, h.cellAt j (by omega), ints_get _ hj]⟩

/-- The memory of flat. -/
structure Fl (B k : Nat) (v : Value) (w wr : World) : Prop where
  below : Below B w wr
  hr : wr.heap[B]? = some (.cells #[.int .i64 0, .int .i64 0, .slice none 0 0] 24 (0, 0))
  hl : wr.heap[B + 1]? = some (.cells #[.int .i64 4, .int .i64 4, v] 24 (0, 0))
  row : wr.ownsRow (B + 2) 3 1 v k (ints k (fun _ => 3))

set_option maxHeartbeats 1600000 in
theorem flat_any (w : World) : Calls Try.prog 41 #[.int .i64 4, .int .i64 4, .int .i64 3] w fun r w' =>
    ∃ g cap : Nat, r = .returned (lv 4 4 (.slice (some ⟨g, 0, none⟩) 25 cap)) ∧ w'.ownsRow w.heap.size 3 1 (.slice (some ⟨g, 0, none⟩) 25 cap) 25 (ints 25 (fun _ => 3)) ∧ Below w.heap.size w w' := by
  obtain ⟨i0, hi, hz0, hz1, hz2⟩ := info_parts info3
  have HIN := hid (And.intro hi (And.intro hz0 (And.intro hz1 hz2)))
  clear hi hz0 hz1 hz2
  have hF : Fl w.heap.size 0 (.slice none 0 0) w ((w.alloc (.cells #[.int .i64 0, .int .i64 0, .slice none 0 0] 24)).alloc (.cells #[.int .i64 4, .int .i64 4, .slice none 0 0] 24)) :=
    have h := bx2_start w #[.int .i64 0, .int .i64 0, .slice none 0 0] #[.int .i64 4, .int .i64 4, .slice none 0 0]
    ⟨h.below, h.hb, h.hr, World.ownsRow_nil _ _ _ _⟩
  have HF := hid hF
  clear hF
  go_enter Try.func41, Try.ntmps41
  go_wp2_with fail
  obtain ⟨B, hB⟩ : ∃ B, B = w.heap.size := ⟨_, rfl⟩
  have HBB := hid hB
  simp only [← hB] at HF ⊢
  clear hB
  generalize World.alloc _ _ = w1 at HF ⊢
  go_loopw [16] (fun iv wr => ∃ (k : Nat) (v : Value), k ≤ 25 ∧ iv = .int .i64 k ∧ Hid (Fl B k v w wr)) (fun iv _ => 25 - (intOf iv).toNat)
  case atStart => exact ⟨0, _, by omega, rfl, HF⟩
  case round =>
    obtain ⟨k, v, hk, rfl, hR⟩ := hrel
    clear HF
    have hbz := heap_lt hR.out.hl
    have hbz2 : B < wr.heap.size := by omega
    have l0 : wr.cell? ⟨B + 1, 0, none⟩ = some (.int .i64 4) := cell_of_row wr (B + 1) 0 _ _ _ hR.out.hl
    have l1 : wr.cell? ⟨B + 1, 1, none⟩ = some (.int .i64 4) := cell_of_row wr (B + 1) 1 _ _ _ hR.out.hl
    have l2 : wr.cell? ⟨B + 1, 2, none⟩ = some v := cell_of_row wr (B + 1) 2 _ _ _ hR.out.hl
    by_cases hlt : k < 25
    · go_wp2_with (at_builtin; refine wpList_append_own _ rfl _ _ 22 rfl (B + 2) 3 i0 (.int .i64 0) 1 8 Try.underlying22 HIN.out.1 HIN.out.2.1 HIN.out.2.2.1 HIN.out.2.2.2 rfl (by decide) _ _ _ rfl (hR.out.row.alloc _) ⟨wr.heap.size, 0, none⟩ 1 1 [.int .i64 3] rfl rfl ?c1 ?c2 ?c3 ?c4 ?c5 ?_)
      case c1 =>
        intro j u hj
        match j, hj with
        | 0, hj => simp at hj; subst hj; simp [Addr.add]
      case c2 => intro u hu; simp at hu; subst hu; rfl
      case c3 => unfold maxLen; omega
      case c4 => omega
      case c5 => simp; omega
      intro v' w2 hown hgrow _
      obtain ⟨g', cap', rfl, _, _⟩ := hown.form (by omega)
      have hg' := hown.lt g' rfl
      have ho := row_own hR.out.row
      have e1 : w2.heap[B]? = some (.cells #[.int .i64 0, .int .i64 0, .slice none 0 0] 24 (0, 0)) :=
        (hgrow.block B (by simp; omega) (fun h => by have := ho B h.symm; omega)).trans ((Below.heap_alloc wr _ B hbz2).trans hR.out.hr)
      have e2 : w2.heap[B + 1]? = some (.cells #[.int .i64 4, .int .i64 4, v] 24 (0, 0)) :=
        (hgrow.block (B + 1) (by simp; omega) (fun h => by have := ho (B + 1) h.symm; omega)).trans ((Below.heap_alloc wr _ (B + 1) hbz).trans hR.out.hl)
      have hb2 := (hR.out.below.alloc (by omega) (.cells #[.int .i64 3] 3)).grown hgrow (by simp; omega) (fun k hk => by have := ho k hk; omega)
      have m0 : w2.cell? ⟨B + 1, 0, none⟩ = some (.int .i64 4) := cell_of_row w2 (B + 1) 0 _ _ _ e2
      have m2 : w2.cell? ⟨B + 1, 2, none⟩ = some v := cell_of_row w2 (B + 1) 2 _ _ _ e2
      have mf : w2.frozen? ⟨B + 1, 2, none⟩ = false := frozen_of_row w2 (B + 1) 2 _ _ e2
      have mz := heap_lt e2
      have hN : Hid (Fl B (k + 1) (.slice (some ⟨g', 0, none⟩) (k + 1) cap') w (w2.setCell ⟨B + 1, 2, none⟩ (.slice (some ⟨g', 0, none⟩) (k + 1) cap'))) := by
        refine hid ⟨hb2.setCell (p := ⟨B + 1, 2, none⟩) (Nat.le_succ _) _, (Below.heap_setCell _ _ _ B (by simp)).trans e1, heap_setCell_same w2 (B + 1) 2 _ _ _ e2, ?_⟩
        have := row_other (a := ⟨B + 1, 2, none⟩) hown (by simp [Value.ownBlock]; omega) (.slice (some ⟨g', 0, none⟩) (k + 1) cap')
        rwa [← ints_succ k (fun _ => 3)] at this
      clear hown hgrow e1 e2 hb2 l0 l1 l2 hR
      go_wp2_with fail
      go_roundw
      case rel => exact ⟨k + 1, _, by omega, by go_num, hN⟩
      case measure => simp [intOf]; omega
    · obtain rfl : k = 25 := by omega
      obtain ⟨g, cap, rfl, _, _⟩ := hR.out.row.form (by omega)
      have r0 : wr.cell? ⟨B, 0, none⟩ = some (.int .i64 0) := cell_of_row wr B 0 _ _ _ hR.out.hr
      have r1 : wr.cell? ⟨B, 1, none⟩ = some (.int .i64 0) := cell_of_row wr B 1 _ _ _ hR.out.hr
      have r2 : wr.cell? ⟨B, 2, none⟩ = some (.slice none 0 0) := cell_of_row wr B 2 _ _ _ hR.out.hr
      have f0 : wr.frozen? ⟨B, 0, none⟩ = false := frozen_of_row wr B 0 _ _ hR.out.hr
      have f1 : wr.frozen? ⟨B, 1, none⟩ = false := frozen_of_row wr B 1 _ _ hR.out.hr
      have f2 : wr.frozen? ⟨B, 2, none⟩ = false := frozen_of_row wr B 2 _ _ hR.out.hr
      go_wp2_with fail
      have hg := hR.out.row.lt g rfl
      have k3 := set3 hR.out.hr (.int .i64 4) (.int .i64 4) (.slice (some ⟨g, 0, none⟩) 25 cap)
      have k4 := set3_below (g := B) hR.out.below (Nat.le_refl _) (.int .i64 4) (.int .i64 4) (.slice (some ⟨g, 0, none⟩) 25 cap)
      have k5 := set3_row (g := B) hR.out.row (by simp [Value.ownBlock]; omega) (.int .i64 4) (.int .i64 4) (.slice (some ⟨g, 0, none⟩) 25 cap)
      clear r0 r1 r2 f0 f1 f2 hR
      generalize World.setCell _ _ _ = w6 at k3 k4 k5 ⊢
      have q0 := cell_of_row w6 B 0 _ _ _ k3
      have q1 := cell_of_row w6 B 1 _ _ _ k3
      have q2 := cell_of_row w6 B 2 _ _ _ k3
      simp at q0 q1 q2
      refine bodyPost_ret (v := lv 4 4 (.slice (some ⟨g, 0, none⟩) 25 cap)) (by simp [results, Try.results41, go_sem, q0, q1, q2]) rfl ⟨g, cap, rfl, ?_, ?_⟩
      · rw [← HBB.out]; exact k5.mono' (by omega)
      · rw [← HBB.out]; exact k4

set_option maxHeartbeats 1600000 in
theorem known_any (w : World) : Calls Try.prog 16 #[] w fun r w' => r = .returned (.bool true) ∧ Below w.heap.size w w' := by
  go_enter Try.func16, Try.ntmps16
  go_wp2_with fail
  refine (flat_any _).mono ?_
  rintro r w1 ⟨g, cap, rfl, hr1, hb1⟩
  have HB1 := hid hb1
  have HR1 := hid hr1
  clear hb1 hr1
  go_wp2_with fail
  refine (shift_ok 4 4 _ 25 cap (fun _ => 3) 2 2 true 1 (.inl ⟨rfl, rfl⟩) none 0 0 (by omega) (fun _ => 0) _ (ints_of_row HR1.out) (Ints.nil _ _) ex1).mono ?_
  rintro r w2 ⟨g1, cap1, v, rfl, hrl, hrc, hb2⟩
  rw [ex1_len] at hrl ⊢
  obtain ⟨gv, capv, rfl, hgv, hgv'⟩ := hrl.form (by omega)
  have HB2 := hid (step HB1.out hb2)
  have HI2 := hid ((ints_of_row hrc).stays (Joins.below_alloc1 w2 (.cells #[.int .i64 4, .int .i64 4, .slice (some ⟨g1, 0, none⟩) 25 cap1] 24)))
  clear hrl hrc hb2 HB1 HR1
  go_wp2_with fail
  refine (shift_ok 4 4 _ 25 cap1 X1 2 2 true 1 (.inl ⟨rfl, rfl⟩) none 0 0 (by omega) (fun _ => 0) _ HI2.out (Ints.nil _ _) ex2).mono ?_
  rintro r w3 ⟨g2, cap2, v, rfl, hrl, hrc, hb3⟩
  rw [ex2_len] at hrl ⊢
  obtain ⟨gu, capu, rfl, hgu, hgu'⟩ := hrl.form (by omega)
  have HB3 := hid ((add HB2.out (.cells #[.int .i64 4, .int .i64 4, .slice (some ⟨g1, 0, none⟩) 25 cap1] 24)).trans (hb3.mono (by have := HB2.out.size; simp; omega)))
  have c12 := (hrc.cellAt 12 (by omega)).trans (ints_get _ (by omega))
  rw [ex2_at] at c12
  have hg2 := hrc.lt g2 rfl
  have HB4 := hid (add HB3.out (.cells #[.int .i64 4, .int .i64 4, .slice (some ⟨g2, 0, none⟩) 25 cap2] 24))
  have hg2z := hg2.2
  clear hrl hrc hb3 HB2 HI2 hg2
  go_wp2_with fail
  go_ret
  exact ⟨rfl, HB4.out⟩
end Go.Proofs.Ytngamphkehppfaa
