/-
  A list of signals, and a signal, among a law's arguments, opened for the walks.
-/
import Derived.Test.YtbfpcolkbfljoaaDoorROpen
import Derived.Test.YtbfpcolkbfljoaaDoorBSig
import Derived.Deep.SlicePairs
import Derived.Deep.Strs
namespace Go.Proofs.YtbfpcolkbfljoaaDoor
open Go.ChangeShapes Go.WideShapes Go.ChangeAt Go.RowKit

instance : Inhabited Sg := ⟨⟨0, 0, 0, 0⟩⟩
theorem cellsG : Tryd.prog.cellsOf 32 = 4 := by kernel_rfl
theorem list4 {α : Type} {l : List α} (h : l.length = 4) : ∃ a b c d, l = [a, b, c, d] := by
  match l, h with
  | [a, b, c, d], _ => exact ⟨a, b, c, d, rfl⟩
set_option maxRecDepth 100000 in
theorem sigs_of_trod {H : Type} {enc : TypeId × Value → H} {w : World} {base : Nat} {held : Bool} {k : Nat} {c : Value} {y : DataW H × List MemPlace}
    (hf : DataW.trod enc Tryd.prog w base (fun _ => true) held k 26 [c] = some y) :
    ∃ (lo : Option Addr) (n cap : Nat) (S : Nat → Sg), c = .slice lo n cap ∧ n ≤ maxLen ∧ SigsAt w lo n S := by
  rcases Go.Deep.open_slice Tryd.underlying26 hf with ⟨hcs, _⟩ | ⟨a, len, cap, m, n, D, Pl, hcs, _, hl, hm, hmm, _, hx⟩
  · simp at hcs
    exact ⟨none, 0, 0, fun _ => ⟨0, 0, 0, 0⟩, hcs, by simp, fun j hj => by omega⟩
  · simp at hcs
    subst hcs
    simp only [if_true] at hmm
    have each : ∀ i, i < len → ∃ q : Sg, w.cell? (a.add (i * 4)) = some (.int .i64 q.t) ∧ w.cell? (a.add (i * 4 + 1)) = some (.int .i64 q.p) ∧ w.cell? (a.add (i * 4 + 2)) = some (.int .i64 q.o) ∧ w.cell? (a.add (i * 4 + 3)) = some (.int .i64 q.k) := by
      intro i hi
      obtain ⟨cs', h1, h2⟩ := hx i (by omega)
      rw [cellsG] at h1
      obtain ⟨_, hlen, hcell⟩ := World.cells?_some h1
      obtain ⟨xs, k', hk, hxy, _, hxl, hf'⟩ := DataW.trod_struct Tryd.underlying32 h2
      clear hxy hk h1 h2
      obtain ⟨v0, v1, v2, v3, rfl⟩ := list4 hlen
      have g0 := hf' 0 _ rfl
      have g1 := hf' 1 _ rfl
      have g2 := hf' 2 _ rfl
      have g3 := hf' 3 _ rfl
      simp [cells3] at g0 g1 g2 g3
      have hxl4 : xs.length = 4 := hxl
      rw [List.getElem?_eq_getElem (by omega)] at g0 g1 g2 g3
      have e0 := hcell 0 (by omega)
      have e1 := hcell 1 (by omega)
      have e2 := hcell 2 (by omega)
      have e3 := hcell 3 (by omega)
      rw [Go.Deep.add_add] at e0 e1 e2 e3
      obtain ⟨x0, q0, _, _⟩ := DataW.trod_int Tryd.underlying3 g0
      obtain ⟨x1, q1, _, _⟩ := DataW.trod_int Tryd.underlying3 g1
      obtain ⟨x2, q2, _, _⟩ := DataW.trod_int Tryd.underlying3 g2
      obtain ⟨x3, q3, _, _⟩ := DataW.trod_int Tryd.underlying3 g3
      simp at q0 q1 q2 q3
      subst q0 q1 q2 q3
      exact ⟨⟨x0, x1, x2, x3⟩, by simpa using e0, by simpa using e1, by simpa using e2, by simpa using e3⟩
    obtain ⟨S, hS⟩ := Go.Deep.choose_lt each
    refine ⟨some a, len, cap, S, rfl, by omega, fun j hj => ?_⟩
    obtain ⟨b, off, spot⟩ := a
    have h0 := hS 0 (by omega)
    have hspot : spot = none := by simpa [Addr.add] using World.cell?_spot h0.1
    subst hspot
    have h := hS j hj
    rw [Go.WideShapes.add_plain, Go.WideShapes.add_plain, Go.WideShapes.add_plain, Go.WideShapes.add_plain] at h
    exact ⟨b, off, rfl, lt_of_cell h.1, h.1, h.2.1, h.2.2.1, h.2.2.2⟩
set_option maxRecDepth 100000 in
theorem sigs_open {H : Type} {enc : TypeId × Value → H} {w : World} {base : Nat} {r : Reach} {b0 : Nat} {held : Bool} {v : Value} {d : DataW H} {p : List MemPlace}
    (hv : Value.okWide Tryd.prog w r b0 26 v) (h : DataW.Trod enc Tryd.prog w base (fun _ => true) held 26 v d p) :
    ∃ (lo : Option Addr) (n cap : Nat) (S : Nat → Sg), v = .slice lo n cap ∧ n ≤ maxLen ∧ SigsAt w lo n S := by
  obtain ⟨a0, len, cap, rfl⟩ := Go.WideShapes.okWide_slice Tryd.underlying26 hv
  obtain ⟨fuel, hf⟩ := h
  have hf' : DataW.trod enc Tryd.prog w base (fun _ => true) held fuel 26 [.slice a0 len cap] = some (d, p) := hf
  exact sigs_of_trod hf'
set_option maxRecDepth 100000 in
theorem sig_open {H : Type} {enc : TypeId × Value → H} {w : World} {base : Nat} {r : Reach} {b0 : Nat} {held : Bool} {v : Value} {d : DataW H} {p : List MemPlace}
    (hv : Value.okWide Tryd.prog w r b0 32 v) (h : DataW.Trod enc Tryd.prog w base (fun _ => true) held 32 v d p) :
    ∃ (k a b u : Int), v = sgv ⟨k, a, b, u⟩ ∧ (Lit.int .i64 k).wf = true ∧ (Lit.int .i64 a).wf = true ∧ (Lit.int .i64 b).wf = true ∧ (Lit.int .i64 u).wf = true := by
  obtain ⟨c0, c1, c2, c3, y0, y1, y2, y3, _, rfl, _, _, t0, t1, t2, t3⟩ := Joins.open_agg4 Tryd.underlying32 (by kernel_rfl) cellsG hv h
  obtain ⟨k, e0, _, wf0⟩ := DataW.trod_int Tryd.underlying3 t0
  obtain rfl : c0 = .int .i64 k := by simpa using e0
  obtain ⟨a, e1, _, wf1⟩ := DataW.trod_int Tryd.underlying3 t1
  obtain rfl : c1 = .int .i64 a := by simpa using e1
  obtain ⟨b, e2, _, wf2⟩ := DataW.trod_int Tryd.underlying3 t2
  obtain rfl : c2 = .int .i64 b := by simpa using e2
  obtain ⟨u, e3, _, wf3⟩ := DataW.trod_int Tryd.underlying3 t3
  obtain rfl : c3 = .int .i64 u := by simpa using e3
  exact ⟨k, a, b, u, rfl, wf0, wf1, wf2, wf3⟩
set_option maxRecDepth 100000 in
theorem ints_open {H : Type} {enc : TypeId × Value → H} {w : World} {base : Nat} {r : Reach} {b0 : Nat} {held : Bool} {v : Value} {d : DataW H} {p : List MemPlace}
    (hv : Value.okWide Tryd.prog w r b0 22 v) (h : DataW.Trod enc Tryd.prog w base (fun _ => true) held 22 v d p) :
    ∃ (lo : Option Addr) (n cap : Nat) (X : Nat → Int), v = .slice lo n cap ∧ n ≤ maxLen ∧ Ints w lo n X ∧ ∀ j, j < n → (Lit.int .i64 (X j)).wf = true := by
  obtain ⟨a0, len, cap, rfl⟩ := Go.WideShapes.okWide_slice Tryd.underlying22 hv
  obtain ⟨fuel, hf⟩ := h
  have hf' : DataW.trod enc Tryd.prog w base (fun _ => true) held fuel 22 [.slice a0 len cap] = some (d, p) := hf
  exact ints_of_trod hf'
end Go.Proofs.YtbfpcolkbfljoaaDoor
