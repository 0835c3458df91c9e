/-
  The walks of slices.Index and slices.Contains over spots.
-/
import Derived.Test.YtbfpcolkbfljoaaDoorRLawTurned
namespace Go.Proofs.YtbfpcolkbfljoaaDoor
open Go.RowKit

set_option maxRecDepth 20000 in
set_option maxHeartbeats 3200000 in
theorem index_any (L : List (Int × Int × Int)) (hL : L.length ≤ 30000) (A : Nat) (al : Option Addr) (cl : Nat) (a b c : Int) (w : World) (hr : w.ownsRow A 50 3 (.slice al L.length cl) L.length (encS L)) :
    Calls Tryd.prog 112 #[.slice al L.length cl, sv a b c] w fun r w' => (∃ i : Int, r = .returned (.int .i64 i) ∧ ((0 ≤ i ∧ i ≤ 30000 ∧ (a, b, c) ∈ L) ∨ (i = -1 ∧ (a, b, c) ∉ L))) ∧ Below w.heap.size w w' := by
  have HR := hid (row_stays hr (Joins.below_alloc1 w (.cells #[.int .i64 a, .int .i64 b, .int .i64 c] 50)))
  have HB := hid (Joins.below_alloc1 w (.cells #[.int .i64 a, .int .i64 b, .int .i64 c] 50))
  have HN : Hid (∀ i, i < 0 → L.getD i (0, 0, 0) ≠ (a, b, c)) := hid (fun i hi => by omega)
  clear hr
  go_enter Tryd.func112, Tryd.ntmps112
  go_wp2_with fail
  have z0 := cell_of_row (w.alloc (.cells #[.int .i64 a, .int .i64 b, .int .i64 c] 50)) w.heap.size 0 #[.int .i64 a, .int .i64 b, .int .i64 c] 50 (0, 0) (by show (w.heap.push _)[_]? = _; rw [Array.getElem?_push, if_pos rfl])
  have z1 := cell_of_row (w.alloc (.cells #[.int .i64 a, .int .i64 b, .int .i64 c] 50)) w.heap.size 1 #[.int .i64 a, .int .i64 b, .int .i64 c] 50 (0, 0) (by show (w.heap.push _)[_]? = _; rw [Array.getElem?_push, if_pos rfl])
  have z2 := cell_of_row (w.alloc (.cells #[.int .i64 a, .int .i64 b, .int .i64 c] 50)) w.heap.size 2 #[.int .i64 a, .int .i64 b, .int .i64 c] 50 (0, 0) (by show (w.heap.push _)[_]? = _; rw [Array.getElem?_push, if_pos rfl])
  simp only [List.getElem?_toArray, List.getElem?_cons_zero, List.getElem?_cons_succ] at z0 z1 z2
  have hW : w.heap.size < (w.alloc (.cells #[.int .i64 a, .int .i64 b, .int .i64 c] 50)).heap.size := by simp
  generalize World.alloc _ _ = w1 at HR HB z0 z1 z2 hW ⊢
  obtain ⟨C, hC⟩ : ∃ C, C = w.heap.size := ⟨_, rfl⟩
  have HC := hid hC
  rw [← hC] at z0 z1 z2 hW ⊢
  clear hC
  go_loopw [8] (fun iv wr => ∃ (j r : Nat), j ≤ L.length ∧ iv = .int .i64 j ∧ wr = w1.drewN r ∧ Hid (∀ i, i < j → L.getD i (0, 0, 0) ≠ (a, b, c))) (fun iv _ => L.length - (intOf iv).toNat)
  case atStart => exact ⟨0, 0, Nat.zero_le _, rfl, rfl, HN⟩
  case round =>
    obtain ⟨j, r, hj, rfl, rfl, hfd⟩ := hrel
    clear HN
    by_cases hjl : j < L.length
    · obtain ⟨gl, cl2, he, _, _⟩ := HR.out.form (by omega)
      obtain ⟨rfl, rfl⟩ : al = some ⟨gl, 0, none⟩ ∧ cl = cl2 := by simpa using he
      have e3 := encS_get L j hjl
      have k0 := (HR.out.cellAt (j * 3) (by omega)).trans e3.1
      have k1 := (HR.out.cellAt (j * 3 + 1) (by omega)).trans e3.2.1
      have k2 := (HR.out.cellAt (j * 3 + 2) (by omega)).trans e3.2.2
      obtain ⟨⟨a', b', c'⟩, hx⟩ : ∃ x, L.getD j (0, 0, 0) = x := ⟨_, rfl⟩
      rw [hx] at k0 k1 k2
      simp only at k0 k1 k2
      have HX2 := hid hx
      have y3 : (0 : Int) ≤ (j : Int) := by omega
      have y4 : (j : Int) < (L.length : Int) := by omega
      clear e3 hx he
      by_cases ha : a = a' ∧ b = b' ∧ c = c'
      · obtain ⟨rfl, rfl, rfl⟩ := ha
        go_wp2_with fail
        go_quiet (fail)
        go_wp2_with fail
        go_ret
        refine ⟨⟨j, rfl, .inl ⟨by omega, by omega, ?_⟩⟩, ?_⟩
        · rw [← HX2.out]; exact getD_mem hjl
        · exact HB.out.trans ((Joins.below_draws _ _ r).trans (Joins.below_draws _ _ _))
      · have hqj : Hid (∀ i, i < j + 1 → L.getD i (0, 0, 0) ≠ (a, b, c)) := hid (fun i hi h => by
          by_cases hq : i < j
          · exact hfd.out i hq h
          · obtain rfl : i = j := by omega
            have := HX2.out.symm.trans h
            simp only [Prod.mk.injEq] at this
            exact ha ⟨this.1.symm, this.2.1.symm, this.2.2.symm⟩)
        have hcs : (a == a') = false ∨ (a = a' ∧ (b == b') = false) ∨ (a = a' ∧ b = b' ∧ (c == c') = false) := by
          by_cases h1 : a = a'
          · by_cases h2 : b = b'
            · exact .inr (.inr ⟨h1, h2, by simpa using fun h3 => ha ⟨h1, h2, h3⟩⟩)
            · exact .inr (.inl ⟨h1, by simpa using h2⟩)
          · exact .inl (by simpa using h1)
        clear ha HX2
        rcases hcs with h1 | ⟨rfl, h2⟩ | ⟨rfl, rfl, h3⟩
        all_goals
          go_wp2_with fail
          go_quiet (fail)
          go_wp2_with fail
          go_roundw
          case rel => exact ⟨j + 1, _, by omega, by go_num, rfl, hqj⟩
          case measure => simp [intOf]; omega
    · obtain rfl : j = L.length := by omega
      go_wp2_with fail
      go_ret
      refine ⟨⟨-1, rfl, .inr ⟨rfl, fun h => ?_⟩⟩, ?_⟩
      · obtain ⟨q, hq, hqm⟩ := mem_getD h
        exact hfd.out q hq hqm
      · exact HB.out.trans (Joins.below_draws _ _ _)

set_option maxHeartbeats 1600000 in
theorem contains_any (L : List (Int × Int × Int)) (hL : L.length ≤ 30000) (A : Nat) (al : Option Addr) (cl : Nat) (a b c : Int) (g : Bool) (hg : g = true ↔ (a, b, c) ∈ L) (w : World) (hr : w.ownsRow A 50 3 (.slice al L.length cl) L.length (encS L)) :
    Calls Tryd.prog 77 #[.slice al L.length cl, sv a b c] w fun r w' => r = .returned (.bool g) ∧ Below w.heap.size w w' := by
  have HR := hid (row_stays hr (Joins.below_alloc1 w (.cells #[.int .i64 a, .int .i64 b, .int .i64 c] 50)))
  have HB := hid (Joins.below_alloc1 w (.cells #[.int .i64 a, .int .i64 b, .int .i64 c] 50))
  have HG := hid hg
  clear hr hg
  go_enter Tryd.func77, Tryd.ntmps77
  go_wp2_with fail
  refine (index_any L hL A al cl a b c _ HR.out).mono ?_
  rintro r w1 ⟨⟨i, rfl, hi⟩, hb1⟩
  have H1 := hid (HB.out.trans (hb1.mono HB.out.size))
  clear hb1 HR
  rcases hi with ⟨h0, h1, hm⟩ | ⟨rfl, hm⟩
  · obtain rfl : g = true := HG.out.2 hm
    go_wp2_with fail
    go_ret
    exact ⟨rfl, H1.out⟩
  · obtain rfl : g = false := by
      cases g
      · rfl
      · exact absurd (HG.out.1 rfl) hm
    go_wp2_with fail
    go_ret
    exact ⟨rfl, H1.out⟩
end Go.Proofs.YtbfpcolkbfljoaaDoor
