/-
  The arguments of the laws, opened for the walks: lists of edges and of numbers.
-/
import Derived.Test.YtokpdjdpeaccbaaGFun
import Derived.ProofKit
import Derived.OpenShut
import Derived.Deep.DeepHandedRow
import Derived.Deep.SlicePairs
import Derived.Deep.Strs
namespace Go.Proofs.Ytokpdjdpeaccbaa
open Go.ChangeShapes Go.WideShapes Go.ChangeAt Go.RowKit

theorem cells3 : Try.prog.cellsOf 3 = 1 := by kernel_rfl
set_option maxRecDepth 100000 in
theorem ints_of_trod {H : Type} {enc : TypeId × Value → H} {w : World} {base : Nat} {held : Bool} {k : Nat} {c : Value} {y : DataW H × List MemPlace}
    (hf : DataW.trod enc Try.prog w base (fun _ => true) held k 28 [c] = some y) :
    ∃ (ao : Option Addr) (n cap : Nat) (Z : Nat → Int), c = .slice ao n cap ∧ n ≤ maxLen ∧ Ints w ao n Z ∧ ∀ j, j < n → (Lit.int .i64 (Z j)).wf = true := by
  rcases Go.ChangeShapes.open_ints Try.underlying28 Try.underlying3 cells3 hf with ⟨hcs, _⟩ | ⟨a, len', cap', zs, hcs, _, hl, hm, hz, _, hcell, hwz⟩
  · simp at hcs
    exact ⟨none, 0, 0, fun _ => 0, hcs, by simp, fun j hj => by simp at hj, fun j hj => by simp at hj⟩
  · simp at hcs
    subst hcs
    simp only [if_true] at hz
    refine ⟨some a, len', cap', fun j => zs.getD j 0, rfl, by omega, fun j hj => ?_, fun j hj => ?_⟩
    · obtain ⟨b, off, rfl, hc⟩ := ints_at hcell (by omega)
      have := hc j (by omega)
      exact ⟨b, off, rfl, lt_of_cell this, this⟩
    · apply hwz
      show zs.getD j 0 ∈ zs
      rw [List.getD_eq_getElem?_getD, List.getElem?_eq_getElem (by omega)]
      exact List.getElem_mem _
set_option maxRecDepth 100000 in
theorem ints_open {H : Type} {enc : TypeId × Value → H} {w : World} {base : Nat} {r : Reach} {b0 : Nat} {held : Bool} {v : Value} {d : DataW H} {p : List MemPlace}
    (hv : Value.okWide Try.prog w r b0 28 v) (h : DataW.Trod enc Try.prog w base (fun _ => true) held 28 v d p) :
    ∃ (ao : Option Addr) (n cap : Nat) (Z : Nat → Int), v = .slice ao n cap ∧ n ≤ maxLen ∧ Ints w ao n Z ∧ ∀ j, j < n → (Lit.int .i64 (Z j)).wf = true := by
  obtain ⟨a0, len, cap, rfl⟩ := okWide_slice Try.underlying28 hv
  obtain ⟨fuel, hf⟩ := h
  exact ints_of_trod (by simpa [Value.cells] using hf)
theorem cellsE : Try.prog.cellsOf 41 = 3 := by kernel_rfl
instance : Inhabited Ed := ⟨⟨0, 0, 0⟩⟩
theorem list3 {α : Type} {l : List α} (h : l.length = 3) : ∃ a b c, l = [a, b, c] := by
  match l, h with
  | [a, b, c], _ => exact ⟨a, b, c, rfl⟩
set_option maxRecDepth 100000 in
theorem eds_of_trod {H : Type} {enc : TypeId × Value → H} {w : World} {base : Nat} {held : Bool} {k : Nat} {c : Value} {y : DataW H × List MemPlace}
    (hf : DataW.trod enc Try.prog w base (fun _ => true) held k 22 [c] = some y) :
    ∃ (lo : Option Addr) (n cap : Nat) (S : Nat → Ed), c = .slice lo n cap ∧ n ≤ maxLen ∧ Eds w lo n S := by
  rcases Go.Deep.open_slice Try.underlying22 hf with ⟨hcs, _⟩ | ⟨a, len, cap, m, n, D, Pl, hcs, _, hl, hm, hmm, _, hx⟩
  · simp at hcs
    exact ⟨none, 0, 0, fun _ => ⟨0, 0, 0⟩, hcs, by simp, fun j hj => by omega⟩
  · simp at hcs
    subst hcs
    simp only [if_true] at hmm
    have each : ∀ i, i < len → ∃ q : Ed, w.cell? (a.add (i * 3)) = some (.int .i64 q.f) ∧ w.cell? (a.add (i * 3 + 1)) = some (.int .i64 q.t) ∧ w.cell? (a.add (i * 3 + 2)) = some (.int .i64 q.c) := by
      intro i hi
      obtain ⟨cs', h1, h2⟩ := hx i (by omega)
      rw [cellsE] at h1
      obtain ⟨_, hlen, hcell⟩ := World.cells?_some h1
      obtain ⟨xs, k', hk, hxy, _, hxl, hf'⟩ := DataW.trod_struct Try.underlying41 h2
      clear hxy hk h1 h2
      obtain ⟨v0, v1, v2, rfl⟩ := list3 hlen
      have g0 := hf' 0 _ rfl
      have g1 := hf' 1 _ rfl
      have g2 := hf' 2 _ rfl
      simp [cells3] at g0 g1 g2
      have hxl3 : xs.length = 3 := hxl
      rw [List.getElem?_eq_getElem (by omega)] at g0 g1 g2
      have e0 := hcell 0 (by omega)
      have e1 := hcell 1 (by omega)
      have e2 := hcell 2 (by omega)
      rw [Go.Deep.add_add] at e0 e1 e2
      obtain ⟨x0, q0, _, _⟩ := DataW.trod_int Try.underlying3 g0
      obtain ⟨x1, q1, _, _⟩ := DataW.trod_int Try.underlying3 g1
      obtain ⟨x2, q2, _, _⟩ := DataW.trod_int Try.underlying3 g2
      simp at q0 q1 q2
      subst q0 q1 q2
      exact ⟨⟨x0, x1, x2⟩, by simpa using e0, by simpa using e1, by simpa using e2⟩
    obtain ⟨S, hS⟩ := Go.Deep.choose_lt each
    refine ⟨some a, len, cap, S, rfl, by omega, fun j hj => ?_⟩
    obtain ⟨b, off, spot⟩ := a
    have h0 := hS 0 (by omega)
    have hspot : spot = none := by simpa [Addr.add] using World.cell?_spot h0.1
    subst hspot
    have h := hS j hj
    rw [Go.WideShapes.add_plain, Go.WideShapes.add_plain, Go.WideShapes.add_plain] at h
    exact ⟨b, off, rfl, lt_of_cell h.1, h.1, h.2.1, h.2.2⟩
set_option maxRecDepth 100000 in
theorem eds_open {H : Type} {enc : TypeId × Value → H} {w : World} {base : Nat} {r : Reach} {b0 : Nat} {held : Bool} {v : Value} {d : DataW H} {p : List MemPlace}
    (hv : Value.okWide Try.prog w r b0 22 v) (h : DataW.Trod enc Try.prog w base (fun _ => true) held 22 v d p) :
    ∃ (lo : Option Addr) (n cap : Nat) (S : Nat → Ed), v = .slice lo n cap ∧ n ≤ maxLen ∧ Eds w lo n S := by
  obtain ⟨a0, len, cap, rfl⟩ := Go.WideShapes.okWide_slice Try.underlying22 hv
  obtain ⟨fuel, hf⟩ := h
  have hf' : DataW.trod enc Try.prog w base (fun _ => true) held fuel 22 [.slice a0 len cap] = some (d, p) := hf
  exact eds_of_trod hf'
end Go.Proofs.Ytokpdjdpeaccbaa
