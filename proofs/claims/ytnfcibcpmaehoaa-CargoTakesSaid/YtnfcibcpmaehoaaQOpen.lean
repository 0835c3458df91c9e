/-
  The arguments of the laws, opened for the walks: a cargo, lists of cargoes and of parcels.
-/
import Derived.Test.YtnfcibcpmaehoaaQPar
import Derived.ProofKit
import Derived.OpenShut
import Derived.Deep.DeepHandedRow
import Derived.Deep.SlicePairs
import Derived.Deep.Strs
namespace Go.Proofs.Ytnfcibcpmaehoaa
open Go.ChangeShapes Go.WideShapes Go.ChangeAt Go.RowKit

theorem cells3 : Try.prog.cellsOf 3 = 1 := by kernel_rfl
theorem cellsStr : Try.prog.cellsOf 9 = 1 := by kernel_rfl
theorem cellsP : Try.prog.cellsOf 36 = 6 := by kernel_rfl
theorem cellsC : Try.prog.cellsOf 49 = 4 := by kernel_rfl
set_option maxRecDepth 100000 in
theorem cargo_open {H : Type} {enc : TypeId × Value → H} {w : World} {base : Nat} {r : Reach} {b0 : Nat} {held : Bool} {v : Value} {d : DataW H} {p : List MemPlace}
    (hv : Value.okWide Try.prog w r b0 49 v) (h : DataW.Trod enc Try.prog w base (fun _ => true) held 49 v d p) :
    ∃ c : Cg, v = cv c ∧ c.n.size ≤ maxLen := by
  obtain ⟨c0, c1, c2, c3, y0, y1, y2, y3, _, rfl, _, _, t0, t1, t2, t3⟩ := Joins.open_agg4 Try.underlying49 (by kernel_rfl) cellsC hv h
  obtain ⟨s, e0, _, hs⟩ := DataW.trod_string Try.underlying9 t0
  obtain rfl : c0 = .string s := by simpa using e0
  obtain ⟨a, e1, _, _⟩ := DataW.trod_int Try.underlying3 t1
  obtain rfl : c1 = .int .i64 a := by simpa using e1
  obtain ⟨b, e2, _, _⟩ := DataW.trod_int Try.underlying3 t2
  obtain rfl : c2 = .int .i64 b := by simpa using e2
  obtain ⟨u, e3, _, _⟩ := DataW.trod_int Try.underlying3 t3
  obtain rfl : c3 = .int .i64 u := by simpa using e3
  exact ⟨⟨s, a, b, u⟩, rfl, hs⟩
theorem list6 {α : Type} {l : List α} (h : l.length = 6) : ∃ a b c d e f, l = [a, b, c, d, e, f] := by
  match l, h with
  | [a, b, c, d, e, f], _ => exact ⟨a, b, c, d, e, f, rfl⟩
theorem list4 {α : Type} {l : List α} (h : l.length = 4) : ∃ a b c d, l = [a, b, c, d] := by
  match l, h with
  | [a, b, c, d], _ => exact ⟨a, b, c, d, rfl⟩
set_option maxRecDepth 100000 in
theorem pars_of_trod {H : Type} {enc : TypeId × Value → H} {w : World} {base : Nat} {held : Bool} {k : Nat} {c : Value} {y : DataW H × List MemPlace}
    (hf : DataW.trod enc Try.prog w base (fun _ => true) held k 22 [c] = some y) :
    ∃ (lo : Option Addr) (n cap : Nat) (S : Nat → Par), c = .slice lo n cap ∧ n ≤ maxLen ∧ Pars w lo n S := by
  rcases Go.Deep.open_slice Try.underlying22 hf with ⟨hcs, _⟩ | ⟨a, len, cap, m, n, D, Pl, hcs, _, hl, hm, hmm, _, hx⟩
  · simp at hcs
    exact ⟨none, 0, 0, fun _ => ⟨0, 0, 0, 0, 0, 0⟩, hcs, by simp, fun j hj => by omega⟩
  · simp at hcs
    subst hcs
    simp only [if_true] at hmm
    have each : ∀ i, i < len → ∃ q : Par, w.cell? (a.add (i * 6)) = some (.int .i64 q.k) ∧ w.cell? (a.add (i * 6 + 1)) = some (.int .i64 q.f) ∧ w.cell? (a.add (i * 6 + 2)) = some (.int .i64 q.t) ∧ w.cell? (a.add (i * 6 + 3)) = some (.int .i64 q.a) ∧ w.cell? (a.add (i * 6 + 4)) = some (.int .i64 q.c) ∧ w.cell? (a.add (i * 6 + 5)) = some (.int .i64 q.s) := by
      intro i hi
      obtain ⟨cs', h1, h2⟩ := hx i (by omega)
      rw [cellsP] at h1
      obtain ⟨_, hlen, hcell⟩ := World.cells?_some h1
      obtain ⟨xs, k', hk, hxy, _, hxl, hf'⟩ := DataW.trod_struct Try.underlying36 h2
      clear hxy hk h1 h2
      obtain ⟨v0, v1, v2, v3, v4, v5, rfl⟩ := list6 hlen
      have g0 := hf' 0 _ rfl
      have g1 := hf' 1 _ rfl
      have g2 := hf' 2 _ rfl
      have g3 := hf' 3 _ rfl
      have g4 := hf' 4 _ rfl
      have g5 := hf' 5 _ rfl
      simp [cells3] at g0 g1 g2 g3 g4 g5
      have hxlK : xs.length = 6 := hxl
      rw [List.getElem?_eq_getElem (by omega)] at g0 g1 g2 g3 g4 g5
      have e0 := hcell 0 (by omega)
      have e1 := hcell 1 (by omega)
      have e2 := hcell 2 (by omega)
      have e3 := hcell 3 (by omega)
      have e4 := hcell 4 (by omega)
      have e5 := hcell 5 (by omega)
      rw [Go.Deep.add_add] at e0 e1 e2 e3 e4 e5
      obtain ⟨x0, q0, _, _⟩ := DataW.trod_int Try.underlying3 g0
      obtain ⟨x1, q1, _, _⟩ := DataW.trod_int Try.underlying3 g1
      obtain ⟨x2, q2, _, _⟩ := DataW.trod_int Try.underlying3 g2
      obtain ⟨x3, q3, _, _⟩ := DataW.trod_int Try.underlying3 g3
      obtain ⟨x4, q4, _, _⟩ := DataW.trod_int Try.underlying3 g4
      obtain ⟨x5, q5, _, _⟩ := DataW.trod_int Try.underlying3 g5
      simp at q0 q1 q2 q3 q4 q5
      subst q0 q1 q2 q3 q4 q5
      exact ⟨⟨x0, x1, x2, x3, x4, x5⟩, by simpa using e0, by simpa using e1, by simpa using e2, by simpa using e3, by simpa using e4, by simpa using e5⟩
    obtain ⟨S, hS⟩ := Go.Deep.choose_lt each
    refine ⟨some a, len, cap, S, rfl, by omega, fun j hj => ?_⟩
    obtain ⟨b, off, spot⟩ := a
    have h0 := hS 0 (by omega)
    have hspot : spot = none := by simpa [Addr.add] using World.cell?_spot h0.1
    subst hspot
    have h := hS j hj
    rw [Go.WideShapes.add_plain, Go.WideShapes.add_plain, Go.WideShapes.add_plain, Go.WideShapes.add_plain, Go.WideShapes.add_plain, Go.WideShapes.add_plain] at h
    exact ⟨b, off, rfl, lt_of_cell h.1, h.1, h.2.1, h.2.2.1, h.2.2.2.1, h.2.2.2.2.1, h.2.2.2.2.2⟩
set_option maxRecDepth 100000 in
theorem pars_open {H : Type} {enc : TypeId × Value → H} {w : World} {base : Nat} {r : Reach} {b0 : Nat} {held : Bool} {v : Value} {d : DataW H} {p : List MemPlace}
    (hv : Value.okWide Try.prog w r b0 22 v) (h : DataW.Trod enc Try.prog w base (fun _ => true) held 22 v d p) :
    ∃ (lo : Option Addr) (n cap : Nat) (S : Nat → Par), v = .slice lo n cap ∧ n ≤ maxLen ∧ Pars w lo n S := by
  obtain ⟨a0, len, cap, rfl⟩ := Go.WideShapes.okWide_slice Try.underlying22 hv
  obtain ⟨fuel, hf⟩ := h
  have hf' : DataW.trod enc Try.prog w base (fun _ => true) held fuel 22 [.slice a0 len cap] = some (d, p) := hf
  exact pars_of_trod hf'
set_option maxRecDepth 100000 in
theorem cgs_of_trod {H : Type} {enc : TypeId × Value → H} {w : World} {base : Nat} {held : Bool} {k : Nat} {c : Value} {y : DataW H × List MemPlace}
    (hf : DataW.trod enc Try.prog w base (fun _ => true) held k 23 [c] = some y) :
    ∃ (lo : Option Addr) (n cap : Nat) (S : Nat → Cg), c = .slice lo n cap ∧ n ≤ maxLen ∧ Cgs w lo n S ∧ ∀ j, j < n → (S j).n.size ≤ maxLen := by
  rcases Go.Deep.open_slice Try.underlying23 hf with ⟨hcs, _⟩ | ⟨a, len, cap, m, n, D, Pl, hcs, _, hl, hm, hmm, _, hx⟩
  · simp at hcs
    exact ⟨none, 0, 0, fun _ => ⟨ByteArray.empty, 0, 0, 0⟩, hcs, by simp, fun j hj => by omega, fun j hj => by omega⟩
  · simp at hcs
    subst hcs
    simp only [if_true] at hmm
    have each : ∀ i, i < len → ∃ q : Cg, w.cell? (a.add (i * 4)) = some (.string q.n) ∧ w.cell? (a.add (i * 4 + 1)) = some (.int .i64 q.r) ∧ w.cell? (a.add (i * 4 + 2)) = some (.int .i64 q.f) ∧ w.cell? (a.add (i * 4 + 3)) = some (.int .i64 q.l) ∧ q.n.size ≤ maxLen := by
      intro i hi
      obtain ⟨cs', h1, h2⟩ := hx i (by omega)
      rw [cellsC] at h1
      obtain ⟨_, hlen, hcell⟩ := World.cells?_some h1
      obtain ⟨xs, k', hk, hxy, _, hxl, hf'⟩ := DataW.trod_struct Try.underlying49 h2
      clear hxy hk h1 h2
      obtain ⟨v0, v1, v2, v3, rfl⟩ := list4 hlen
      have g0 := hf' 0 _ rfl
      have g1 := hf' 1 _ rfl
      have g2 := hf' 2 _ rfl
      have g3 := hf' 3 _ rfl
      simp [cells3, cellsStr] at g0 g1 g2 g3
      have hxlK : xs.length = 4 := hxl
      rw [List.getElem?_eq_getElem (by omega)] at g0 g1 g2 g3
      have e0 := hcell 0 (by omega)
      have e1 := hcell 1 (by omega)
      have e2 := hcell 2 (by omega)
      have e3 := hcell 3 (by omega)
      rw [Go.Deep.add_add] at e0 e1 e2 e3
      obtain ⟨x0, q0, _, hs0⟩ := DataW.trod_string Try.underlying9 g0
      obtain ⟨x1, q1, _, _⟩ := DataW.trod_int Try.underlying3 g1
      obtain ⟨x2, q2, _, _⟩ := DataW.trod_int Try.underlying3 g2
      obtain ⟨x3, q3, _, _⟩ := DataW.trod_int Try.underlying3 g3
      simp at q0 q1 q2 q3
      subst q0 q1 q2 q3
      exact ⟨⟨x0, x1, x2, x3⟩, by simpa using e0, by simpa using e1, by simpa using e2, by simpa using e3, hs0⟩
    obtain ⟨S, hS⟩ := Go.Deep.choose_lt each
    refine ⟨some a, len, cap, S, rfl, by omega, fun j hj => ?_, fun j hj => (hS j hj).2.2.2.2⟩
    obtain ⟨b, off, spot⟩ := a
    have h0 := hS 0 (by omega)
    have hspot : spot = none := by simpa [Addr.add] using World.cell?_spot h0.1
    subst hspot
    have h := hS j hj
    rw [Go.WideShapes.add_plain, Go.WideShapes.add_plain, Go.WideShapes.add_plain, Go.WideShapes.add_plain] at h
    exact ⟨b, off, rfl, lt_of_cell h.1, h.1, h.2.1, h.2.2.1, h.2.2.2.1⟩
set_option maxRecDepth 100000 in
theorem cgs_open {H : Type} {enc : TypeId × Value → H} {w : World} {base : Nat} {r : Reach} {b0 : Nat} {held : Bool} {v : Value} {d : DataW H} {p : List MemPlace}
    (hv : Value.okWide Try.prog w r b0 23 v) (h : DataW.Trod enc Try.prog w base (fun _ => true) held 23 v d p) :
    ∃ (lo : Option Addr) (n cap : Nat) (S : Nat → Cg), v = .slice lo n cap ∧ n ≤ maxLen ∧ Cgs w lo n S ∧ ∀ j, j < n → (S j).n.size ≤ maxLen := by
  obtain ⟨a0, len, cap, rfl⟩ := Go.WideShapes.okWide_slice Try.underlying23 hv
  obtain ⟨fuel, hf⟩ := h
  have hf' : DataW.trod enc Try.prog w base (fun _ => true) held fuel 23 [.slice a0 len cap] = some (d, p) := hf
  exact cgs_of_trod hf'
end Go.Proofs.Ytnfcibcpmaehoaa
