/-
  Two lists with the same spans.
-/
import Derived.Test.YtpohhcmkkjcelaaSOver
namespace Go.Proofs.Ytpohhcmkkjcelaa
open Go.RowKit

def sp0 : Sp := ⟨0, 0, 0, 0⟩
theorem encL_get (L : List Sp) : ∀ j, j < L.length → (encL L)[j * 4]? = some (.int .i64 (L.getD j sp0).k) ∧ (encL L)[j * 4 + 1]? = some (.int .i64 (L.getD j sp0).a) ∧ (encL L)[j * 4 + 2]? = some (.int .i64 (L.getD j sp0).b) ∧ (encL L)[j * 4 + 3]? = some (.int .i64 (L.getD j sp0).u) := by
  induction L with
  | nil => intro j hj; simp at hj
  | cons a L ih =>
    intro j hj
    cases j with
    | zero => exact ⟨rfl, rfl, rfl, rfl⟩
    | succ j =>
      have h := ih j (by simpa using hj)
      rw [show (j + 1) * 4 = j * 4 + 4 by omega]
      exact h
set_option maxHeartbeats 1600000 in
theorem spans_same (L : List Sp) (B B' : Nat) (v v' : Value) (w : World) (hl : L.length ≤ 100000) (h : w.ownsRow B 26 4 v L.length (encL L)) (h' : w.ownsRow B' 26 4 v' L.length (encL L)) :
    Calls Try.prog 20 #[v, v'] w fun e w' => e = .returned (.bool true) ∧ ∃ m, w' = w.drewN m := by
  by_cases h0 : L.length = 0
  · obtain ⟨ao, cap, rfl⟩ := row_slice h
    obtain ⟨bo, cap', rfl⟩ := row_slice h'
    rw [h0]
    clear h h'
    go_enter Try.func20, Try.ntmps20
    go_wp2
    refine wp_loop_rounds 1 ?_
    rw [rounds_succ]
    go_wp2
    go_ret
    exact ⟨rfl, 0, rfl⟩
  · obtain ⟨g, cap, rfl, hg, hg'⟩ := h.form (by omega)
    obtain ⟨k, cap', rfl, hk, hk'⟩ := h'.form (by omega)
    have H := hid h
    have H' := hid h'
    clear h h'
    go_enter Try.func20, Try.ntmps20
    go_wp2
    go_loopw [5] (fun iv wr => ∃ (j k : Nat), j ≤ L.length ∧ iv = .int .i64 j ∧ wr = w.drewN k) (fun iv _ => L.length - (intOf iv).toNat)
    case atStart => exact ⟨0, 0, Nat.zero_le _, rfl, rfl⟩
    case round =>
      obtain ⟨j, q, hj, rfl, rfl⟩ := hrel
      by_cases hlt : j < L.length
      · have e3 := encL_get L j hlt
        have c0 := (H.out.cellAt (j * 4) (by omega)).trans e3.1
        have c1 := (H.out.cellAt (j * 4 + 1) (by omega)).trans e3.2.1
        have c2 := (H.out.cellAt (j * 4 + 2) (by omega)).trans e3.2.2.1
        have c3 := (H.out.cellAt (j * 4 + 3) (by omega)).trans e3.2.2.2
        have d0 := (H'.out.cellAt (j * 4) (by omega)).trans e3.1
        have d1 := (H'.out.cellAt (j * 4 + 1) (by omega)).trans e3.2.1
        have d2 := (H'.out.cellAt (j * 4 + 2) (by omega)).trans e3.2.2.1
        have d3 := (H'.out.cellAt (j * 4 + 3) (by omega)).trans e3.2.2.2
        generalize (L.getD j sp0).k = x0 at c0 d0
        generalize (L.getD j sp0).a = x1 at c1 d1
        generalize (L.getD j sp0).b = x2 at c2 d2
        generalize (L.getD j sp0).u = x3 at c3 d3
        have b1 : (j : Int) < (L.length : Int) := by omega
        have b2 : (0 : Int) ≤ (j : Int) := by omega
        clear e3
        go_wp2
        go_quiet (fail)
        go_wp2
        go_roundw
        case rel => exact ⟨j + 1, _, by omega, by go_num, rfl⟩
        case measure => simp [intOf]; omega
      · go_wp2
        go_ret
        exact ⟨rfl, _, rfl⟩
end Go.Proofs.Ytpohhcmkkjcelaa
