/-
  The arguments of the laws, opened for the walks: lands, waters, lists of numbers.
-/
import Derived.Test.YtkpnngpnjimogaaSKit
import Derived.ProofKit
import Derived.OpenShut
import Derived.Deep.DeepHandedRow
namespace Go.Proofs.Ytkpnngpnjimogaa
open Go.ChangeShapes Go.WideShapes Go.ChangeAt Go.RowKit

theorem cells3 : Try.prog.cellsOf 3 = 1 := by kernel_rfl
set_option maxRecDepth 100000 in
theorem ints_of_trod {H : Type} {enc : TypeId × Value → H} {w : World} {base : Nat} {held : Bool} {k : Nat} {c : Value} {y : DataW H × List MemPlace}
    (hf : DataW.trod enc Try.prog w base (fun _ => true) held k 22 [c] = some y) :
    ∃ (ao : Option Addr) (n cap : Nat) (Z : Nat → Int), c = .slice ao n cap ∧ n ≤ maxLen ∧ Ints w ao n Z ∧ ∀ j, j < n → (Lit.int .i64 (Z j)).wf = true := by
  rcases Go.ChangeShapes.open_ints Try.underlying22 Try.underlying3 cells3 hf with ⟨hcs, _⟩ | ⟨a, len', cap', zs, hcs, _, hl, hm, hz, _, hcell, hwz⟩
  · simp at hcs
    exact ⟨none, 0, 0, fun _ => 0, hcs, by simp, fun j hj => by simp at hj, fun j hj => by simp at hj⟩
  · simp at hcs
    subst hcs
    simp only [if_true] at hz
    refine ⟨some a, len', cap', fun j => zs.getD j 0, rfl, by omega, fun j hj => ?_, fun j hj => ?_⟩
    · obtain ⟨b, off, rfl, hc⟩ := ints_at hcell (by omega)
      have := hc j (by omega)
      exact ⟨b, off, rfl, lt_of_cell this, this⟩
    · apply hwz
      show zs.getD j 0 ∈ zs
      rw [List.getD_eq_getElem?_getD, List.getElem?_eq_getElem (by omega)]
      exact List.getElem_mem _
set_option maxRecDepth 100000 in
theorem ints_open {H : Type} {enc : TypeId × Value → H} {w : World} {base : Nat} {r : Reach} {b0 : Nat} {held : Bool} {v : Value} {d : DataW H} {p : List MemPlace}
    (hv : Value.okWide Try.prog w r b0 22 v) (h : DataW.Trod enc Try.prog w base (fun _ => true) held 22 v d p) :
    ∃ (ao : Option Addr) (n cap : Nat) (Z : Nat → Int), v = .slice ao n cap ∧ n ≤ maxLen ∧ Ints w ao n Z ∧ ∀ j, j < n → (Lit.int .i64 (Z j)).wf = true := by
  obtain ⟨a0, len, cap, rfl⟩ := okWide_slice Try.underlying22 hv
  obtain ⟨fuel, hf⟩ := h
  exact ints_of_trod (by simpa [Value.cells] using hf)
theorem cellsL : Try.prog.cellsOf 24 = 3 := by kernel_rfl
set_option maxRecDepth 100000 in
theorem land_open {H : Type} {enc : TypeId × Value → H} {w : World} {base : Nat} {r : Reach} {b0 : Nat} {held : Bool} {v : Value} {d : DataW H} {p : List MemPlace}
    (hv : Value.okWide Try.prog w r b0 24 v) (h : DataW.Trod enc Try.prog w base (fun _ => true) held 24 v d p) :
    ∃ (W H : Int) (ao : Option Addr) (n cap : Nat) (Z : Nat → Int), v = lv W H (.slice ao n cap) ∧ n ≤ maxLen ∧ Ints w ao n Z ∧ (∀ j, j < n → (Lit.int .i64 (Z j)).wf = true) ∧ (Lit.int .i64 W).wf = true ∧ (Lit.int .i64 H).wf = true := by
  obtain ⟨c0, c1, c2, y0, y1, y2, _, rfl, _, _, t0, t1, t2⟩ := Joins.open_agg3 Try.underlying24 (by kernel_rfl) cellsL hv h
  obtain ⟨W, e0, _, wf0⟩ := DataW.trod_int Try.underlying3 t0
  obtain rfl : c0 = .int .i64 W := by simpa using e0
  obtain ⟨H, e1, _, wf1⟩ := DataW.trod_int Try.underlying3 t1
  obtain rfl : c1 = .int .i64 H := by simpa using e1
  obtain ⟨ao, n, cap, Z, rfl, hn, hI, hw⟩ := ints_of_trod t2
  exact ⟨W, H, ao, n, cap, Z, rfl, hn, hI, hw, wf0, wf1⟩
theorem cellsW : Try.prog.cellsOf 26 = 2 := by kernel_rfl
set_option maxRecDepth 100000 in
theorem waters_open {H : Type} {enc : TypeId × Value → H} {w : World} {base : Nat} {r : Reach} {b0 : Nat} {held : Bool} {v : Value} {d : DataW H} {p : List MemPlace}
    (hv : Value.okWide Try.prog w r b0 26 v) (h : DataW.Trod enc Try.prog w base (fun _ => true) held 26 v d p) :
    ∃ (ko : Option Addr) (m kcap : Nat) (K : Nat → Int) (bo : Option Addr) (q bcap : Nat) (Y : Nat → Int), v = .agg #[.slice ko m kcap, .slice bo q bcap] ∧ m ≤ maxLen ∧ Ints w ko m K ∧ q ≤ maxLen ∧ Ints w bo q Y ∧
      (∀ j, j < m → (Lit.int .i64 (K j)).wf = true) ∧ (∀ j, j < q → (Lit.int .i64 (Y j)).wf = true) := by
  obtain ⟨c0, c1, y0, y1, _, rfl, _, _, t0, t1⟩ := Joins.open_agg2 Try.underlying26 (by kernel_rfl) cellsW hv h
  obtain ⟨ko, m, kcap, K, rfl, hm, hK, hw⟩ := ints_of_trod t0
  obtain ⟨bo, q, bcap, Y, rfl, hq, hY, hw'⟩ := ints_of_trod t1
  exact ⟨ko, m, kcap, K, bo, q, bcap, Y, rfl, hm, hK, hq, hY, hw, hw'⟩
end Go.Proofs.Ytkpnngpnjimogaa
