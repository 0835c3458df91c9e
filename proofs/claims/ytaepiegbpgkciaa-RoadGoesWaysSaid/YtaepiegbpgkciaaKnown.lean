/-
  The walk of known: the document's example on streets.
-/
import Derived.Test.YtaepiegbpgkciaaWalkNext
namespace Go.Proofs.Ytaepiegbpgkciaa
open Go.RowKit

theorem run_mk16 (w : World) : (Instr.makeSlice 22 (.int .i64 16) (.int .i64 16)).run Try.prog w = .ok (.slice (some ⟨w.heap.size, 0, none⟩) 16 16) (w.alloc (.cells (madeCells #[.int .i64 0] 16) 3)) := by
  obtain ⟨i0, hi, hz0, hz1, hz2⟩ := info_parts info3
  have := run_make (P := Try.prog) w 22 3 i0 (.int .i64 0) Try.underlying22 hi hz0 .i64 .i64 16 16 (by omega) (Int.le_refl _) (by rw [hz2]; omega) (by omega)
  rw [this]; simp [hz1, Value.cells]
/-- The example's arms. -/
def exZ : Nat → Int := fun j => if j = 0 then 1 else if j = 1 then 4 else 0
theorem ex_right : Right 4 4 16 16 exZ (fun _ => 0) := by
  refine ⟨⟨⟨by omega, by omega⟩, by decide, by decide, fun i _ => ?_⟩, fun i _ => .inl rfl⟩
  unfold exZ Fine
  split
  · omega
  · split <;> omega
theorem ex_joined : JIs 4 4 16 16 exZ (fun _ => 0) 0 0 true 0 :=
  ⟨.inr (.inr ⟨rfl, terr_ok ex_right ⟨by omega, by omega⟩, by omega, by omega⟩), fun h => absurd rfl h, fun _ => ⟨fun _ => by decide +kernel, fun _ => rfl⟩⟩
theorem ex_next : NIs 4 4 16 16 exZ (fun _ => 0) 1 2 [2] 0 :=
  ⟨.inr (.inr ⟨rfl, terr_ok ex_right ⟨by omega, by omega⟩, by omega, by omega⟩), fun h => absurd rfl h, fun _ => by decide +kernel⟩
abbrev exCells : Array Value := #[.int .i64 1, .int .i64 4, .int .i64 0, .int .i64 0, .int .i64 0, .int .i64 0, .int .i64 0, .int .i64 0, .int .i64 0, .int .i64 0, .int .i64 0, .int .i64 0, .int .i64 0, .int .i64 0, .int .i64 0, .int .i64 0]
theorem ex_cells {j : Nat} (h : j < 16) : exCells[j]? = some (.int .i64 (exZ j)) ∧ (madeCells #[.int .i64 0] 16)[j]? = some (.int .i64 0) := by
  obtain rfl | rfl | rfl | rfl | rfl | rfl | rfl | rfl | rfl | rfl | rfl | rfl | rfl | rfl | rfl | rfl : j = 0 ∨ j = 1 ∨ j = 2 ∨ j = 3 ∨ j = 4 ∨ j = 5 ∨ j = 6 ∨ j = 7 ∨ j = 8 ∨ j = 9 ∨ j = 10 ∨ j = 11 ∨ j = 12 ∨ j = 13 ∨ j = 14 ∨ j = 15 := by omega
  all_goals exact ⟨rfl, by kernel_rfl⟩
/-- The memory of the example: its arms, its ways, its box. -/
structure EX (A : Nat) (w wr : World) : Prop where
  below : Below A w wr
  size : A + 2 < wr.heap.size
  arms : Ints wr (some ⟨A, 0, none⟩) 16 exZ
  ways : Ints wr (some ⟨A + 1, 0, none⟩) 16 (fun _ => 0)
  c0 : wr.cell? ⟨A + 2, 0, none⟩ = some (.int .i64 4)
  c1 : wr.cell? ⟨A + 2, 1, none⟩ = some (.int .i64 4)
  c2 : wr.cell? ⟨A + 2, 2, none⟩ = some (.slice (some ⟨A, 0, none⟩) 16 16)
  c3 : wr.cell? ⟨A + 2, 3, none⟩ = some (.slice (some ⟨A + 1, 0, none⟩) 16 16)
theorem EX.stays {A : Nat} {w wr w' : World} (h : EX A w wr) (k : Below wr.heap.size wr w') : EX A w w' :=
  ⟨h.below.trans (k.mono (by have := h.size; omega)), Nat.lt_of_lt_of_le h.size k.size, h.arms.stays k, h.ways.stays k, (k.cell (p := ⟨A + 2, 0, none⟩) h.size).trans h.c0, (k.cell (p := ⟨A + 2, 1, none⟩) h.size).trans h.c1,
    (k.cell (p := ⟨A + 2, 2, none⟩) h.size).trans h.c2, (k.cell (p := ⟨A + 2, 3, none⟩) h.size).trans h.c3⟩
theorem ex_start (w : World) : EX w.heap.size w (((w.alloc (.cells exCells 3)).alloc (.cells (madeCells #[.int .i64 0] 16) 3)).alloc (.cells #[.int .i64 4, .int .i64 4, .slice (some ⟨w.heap.size, 0, none⟩) 16 16, .slice (some ⟨w.heap.size + 1, 0, none⟩) 16 16] 24)) := by
  have h1 := Joins.below_alloc1 (w.alloc (.cells exCells 3)) (.cells (madeCells #[.int .i64 0] 16) 3)
  have h2 := Joins.below_alloc1 ((w.alloc (.cells exCells 3)).alloc (.cells (madeCells #[.int .i64 0] 16) 3)) (.cells #[.int .i64 4, .int .i64 4, .slice (some ⟨w.heap.size, 0, none⟩) 16 16, .slice (some ⟨w.heap.size + 1, 0, none⟩) 16 16] 24)
  refine ⟨((Joins.below_alloc1 w _).trans (h1.mono (by simp))).trans (h2.mono (by simp; omega)), by simp, fun j hj => ⟨_, 0, rfl, by simp; omega, ?_⟩, fun j hj => ⟨_, 0, rfl, by simp, ?_⟩, ?_, ?_, ?_, ?_⟩
  · rw [h2.cell (p := ⟨w.heap.size, 0 + j, none⟩) (by simp; omega), h1.cell (p := ⟨w.heap.size, 0 + j, none⟩) (by simp), World.cell?_alloc_at _ _ _ _ rfl, Nat.zero_add]
    exact (ex_cells hj).1
  · rw [h2.cell (p := ⟨w.heap.size + 1, 0 + j, none⟩) (by simp), World.cell?_alloc_at _ _ _ _ (by simp), Nat.zero_add]
    exact (ex_cells hj).2
  all_goals (rw [World.cell?_alloc_at _ _ _ _ (by simp)]; rfl)
set_option maxHeartbeats 1600000 in
theorem known_any (w : World) : Calls Try.prog 16 #[] w fun r w' => r = .returned (.bool true) ∧ Below w.heap.size w w' := by
  have hmk := run_mk16
  have HE := hid (ex_start w)
  obtain ⟨A, hA⟩ : ∃ A, A = w.heap.size := ⟨_, rfl⟩
  have HA := hid hA
  simp only [← hA] at HE
  go_enter Try.func16, Try.ntmps16
  go_wp2_with fail
  simp only [← hA]
  clear hA hmk
  generalize World.alloc _ _ = w1 at HE ⊢
  refine (joined_to 4 4 _ 16 16 exZ _ 16 16 (fun _ => 0) (by omega) (by omega) 0 0 true 0 ex_joined _ HE.out.arms HE.out.ways).mono ?_
  rintro r w2 ⟨rfl, hb2⟩
  have H2 := hid (HE.out.stays hb2)
  obtain ⟨_, z2, _, _, c0, c1, c2, c3⟩ := HE.out.stays hb2
  clear hb2 HE
  go_wp2_with fail
  refine (next_to 4 4 _ 16 16 exZ _ 16 16 (fun _ => 0) (by omega) (by omega) 1 2 [2] 0 ex_next _ H2.out.arms H2.out.ways).mono ?_
  rintro r w3 ⟨al, cl, rfl, hrow, hb3⟩
  have H3 := hid (H2.out.stays hb3)
  obtain ⟨b, off, rfl, hbz, hc⟩ := (ints_of_row hrow rfl) 0 (by decide)
  have hc' : w3.cell? ⟨b, off, none⟩ = some (.int .i64 2) := hc
  clear hrow hb3 H2 c0 c1 c2 c3 z2 hc
  go_wp2_with fail
  go_ret
  exact ⟨rfl, by rw [← HA.out]; exact H3.out.below⟩
end Go.Proofs.Ytaepiegbpgkciaa
