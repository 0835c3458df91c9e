/-
  The walk of the law on the spots behind a spot.
-/
import Derived.Test.YtlpmahdplilbiaaDoorWalkNext
namespace Go.Proofs.YtlpmahdplilbiaaDoor
open Go.RowKit

theorem row_slice {w : World} {B : Nat} {e : TypeId} {size n : Nat} {v : Value} {xs : List Value} (h : w.ownsRow B e size v n xs) : ∃ ao cap, v = .slice ao n cap := by
  rcases h.2 with ⟨rfl, rfl⟩ | ⟨g, cap, _, rfl, _⟩
  · exact ⟨none, 0, rfl⟩
  · exact ⟨_, _, rfl⟩
theorem encS_get (L : List (Int × Int × Int)) : ∀ j, j < L.length → (encS L)[j * 3]? = some (.int .i64 (L.getD j (0, 0, 0)).1) ∧ (encS L)[j * 3 + 1]? = some (.int .i64 (L.getD j (0, 0, 0)).2.1) ∧ (encS L)[j * 3 + 2]? = some (.int .i64 (L.getD j (0, 0, 0)).2.2) := by
  induction L with
  | nil => intro j hj; simp at hj
  | cons a L ih =>
    intro j hj
    cases j with
    | zero => exact ⟨rfl, rfl, rfl⟩
    | succ j =>
      have h := ih j (by simpa using hj)
      rw [show (j + 1) * 3 = j * 3 + 3 by omega]
      exact h
set_option maxHeartbeats 1600000 in
theorem spots_same (L : List (Int × Int × Int)) (B B' : Nat) (v v' : Value) (w : World) (hl : L.length ≤ 100000) (h : w.ownsRow B 31 3 v L.length (encS L)) (h' : w.ownsRow B' 31 3 v' L.length (encS L)) :
    Calls Tryd.prog 32 #[v, v'] w fun e w' => e = .returned (.bool true) ∧ ∃ m, w' = w.drewN m := by
  by_cases h0 : L.length = 0
  · obtain ⟨ao, cap, rfl⟩ := row_slice h
    obtain ⟨bo, cap', rfl⟩ := row_slice h'
    rw [h0]
    clear h h'
    go_enter Tryd.func32, Tryd.ntmps32
    go_wp2
    refine wp_loop_rounds 1 ?_
    rw [rounds_succ]
    go_wp2
    go_ret
    exact ⟨rfl, 0, rfl⟩
  · obtain ⟨g, cap, rfl, hg, hg'⟩ := h.form (by omega)
    obtain ⟨k, cap', rfl, hk, hk'⟩ := h'.form (by omega)
    have H := hid h
    have H' := hid h'
    clear h h'
    go_enter Tryd.func32, Tryd.ntmps32
    go_wp2
    go_loopw [5] (fun iv wr => ∃ (j k : Nat), j ≤ L.length ∧ iv = .int .i64 j ∧ wr = w.drewN k) (fun iv _ => L.length - (intOf iv).toNat)
    case atStart => exact ⟨0, 0, Nat.zero_le _, rfl, rfl⟩
    case round =>
      obtain ⟨j, q, hj, rfl, rfl⟩ := hrel
      by_cases hlt : j < L.length
      · have e3 := encS_get L j hlt
        have c0 := (H.out.cellAt (j * 3) (by omega)).trans e3.1
        have c1 := (H.out.cellAt (j * 3 + 1) (by omega)).trans e3.2.1
        have c2 := (H.out.cellAt (j * 3 + 2) (by omega)).trans e3.2.2
        have d0 := (H'.out.cellAt (j * 3) (by omega)).trans e3.1
        have d1 := (H'.out.cellAt (j * 3 + 1) (by omega)).trans e3.2.1
        have d2 := (H'.out.cellAt (j * 3 + 2) (by omega)).trans e3.2.2
        generalize (L.getD j (0, 0, 0)).1 = x0 at c0 d0
        generalize (L.getD j (0, 0, 0)).2.1 = x1 at c1 d1
        generalize (L.getD j (0, 0, 0)).2.2 = x2 at c2 d2
        have b1 : (j : Int) < (L.length : Int) := by omega
        have b2 : (0 : Int) ≤ (j : Int) := by omega
        clear e3
        go_wp2
        go_quiet (fail)
        go_wp2
        go_roundw
        case rel => exact ⟨j + 1, _, by omega, by go_num, rfl⟩
        case measure => simp [intOf]; omega
      · go_wp2
        go_ret
        exact ⟨rfl, _, rfl⟩

set_option maxHeartbeats 3200000 in
theorem walk_nexts (Wd Hd : Int) (ao : Option Addr) (n cap : Nat) (Z : Nat → Int) (bo : Option Addr) (m bcap : Nat) (B : Nat → Bool) (hn : n ≤ 9223372036854775807) (hm : m ≤ 9223372036854775807) (t p s : Int) (w : World) (hT : Tab w) (hI : Ints w ao n Z) (hB : Bools w bo m B) :
    Calls Tryd.prog 9 #[rv Wd Hd (.slice ao n cap) (.slice bo m bcap), sv t p s] w fun r w' => r = .returned (.bool true) ∧ Below w.heap.size w w' := by
  obtain ⟨L, e, hL⟩ := NextIs.ex Wd Hd n m Z B t p s
  have HL := hid hL
  have hlen := hL.len
  have HS := hid (nb_start (W := Wd) (H := Hd) (cap := cap) (bcap := bcap) (t := t) (p := p) (s := s) hT hI hB)
  clear hT hI hB hL
  obtain ⟨X, hX⟩ : ∃ X, X = w.heap.size := ⟨_, rfl⟩
  have HX := hid hX
  by_cases hf : Far n m
  · have HF := hid hf
    clear hf
    go_enter Tryd.func9, Tryd.ntmps9
    go_wp2_with fail
    refine (far_yes Wd Hd ao n cap bo m bcap (by omega) (by omega) HF.out _).mono ?_
    rintro r w1 ⟨rfl, hb1⟩
    have HS1 := hid (HS.out.stays hb1)
    clear hb1
    go_wp2_with fail
    refine (known_any _ HS1.out.tab).mono ?_
    rintro r w2 ⟨rfl, hb2⟩
    have HS2 := hid (HS1.out.stays hb2)
    clear hb2
    go_wp2_with fail
    go_ret
    exact ⟨rfl, HS2.out.bx.below⟩
  · have HF : Hid (n ≤ 3000 ∧ m ≤ 3000) := hid (by unfold Far at hf; omega)
    clear hf
    go_enter Tryd.func9, Tryd.ntmps9
    go_wp2_with fail
    refine (far_no Wd Hd ao n cap bo m bcap HF.out _).mono ?_
    rintro r w1 ⟨rfl, hb1⟩
    have HS1 := hid (HS.out.stays hb1)
    simp only [← hX] at HS1 ⊢
    obtain ⟨⟨x0, x1, x2, x3⟩, y0, y1, y2⟩ := HS1.out.cells
    clear hb1 HS hX
    go_wp2_with fail
    refine (refnext_to Wd Hd ao n cap Z bo m bcap B hn hm t p s L e HL.out _ HS1.out.tab HS1.out.ints HS1.out.bools).mono ?_
    rintro r w2 ⟨l1, rfl, hr1, hb2⟩
    have HS2 := hid (HS1.out.stays hb2)
    have HR1 := hid hr1
    clear hb2 hr1 x0 x1 x2 x3 y0 y1 y2 HS1
    obtain ⟨⟨x0, x1, x2, x3⟩, y0, y1, y2⟩ := HS2.out.cells
    go_wp2_with fail
    refine (next_to Wd Hd ao n cap Z bo m bcap B hn hm t p s L e HL.out _ HS2.out.tab HS2.out.ints HS2.out.bools).mono ?_
    rintro r w3 ⟨l2, rfl, hr2, hb3⟩
    have HS3 := hid (HS2.out.stays hb3)
    have HR2 := hid hr2
    have HR3 := hid (row_stays HR1.out hb3)
    clear hb3 hr2 x0 x1 x2 x3 y0 y1 y2 HS2 HR1
    go_wp2_with fail
    refine (spots_same L _ _ l2 l1 _ (by omega) HR2.out HR3.out).mono ?_
    rintro r w4 ⟨rfl, q, rfl⟩
    have HS4 := hid (HS3.out.stays (Joins.below_draws _ _ q))
    clear HS3 HR2 HR3
    go_wp2_with fail
    refine (known_any _ HS4.out.tab).mono ?_
    rintro r w5 ⟨rfl, hb5⟩
    have HS5 := hid (HS4.out.stays hb5)
    clear hb5
    go_wp2_with fail
    go_ret
    exact ⟨rfl, by rw [← HX.out]; exact HS5.out.bx.below⟩
end Go.Proofs.YtlpmahdplilbiaaDoor
