/-
  A list of spots among a law's arguments, opened for the walks.
-/
import Derived.Test.YtlpmahdplilbiabDoorOpen
import Derived.Test.YtlpmahdplilbiabDoorWalkSpots
import Derived.Deep.SlicePairs
import Derived.Deep.Strs
namespace Go.Proofs.YtlpmahdplilbiabDoor
open Go.ChangeShapes Go.WideShapes Go.ChangeAt Go.RowKit

theorem list3 {α : Type} {l : List α} (h : l.length = 3) : ∃ a b c, l = [a, b, c] := by
  match l, h with
  | [a, b, c], _ => exact ⟨a, b, c, rfl⟩
set_option maxRecDepth 100000 in
theorem spots_of_trod {H : Type} {enc : TypeId × Value → H} {w : World} {base : Nat} {held : Bool} {k : Nat} {c : Value} {y : DataW H × List MemPlace}
    (hf : DataW.trod enc Tryd.prog w base (fun _ => true) held k 26 [c] = some y) :
    ∃ (lo : Option Addr) (n cap : Nat) (S : Nat → Int × Int × Int), c = .slice lo n cap ∧ n ≤ maxLen ∧ SpotsAt w lo n S := by
  rcases Go.Deep.open_slice Tryd.underlying26 hf with ⟨hcs, _⟩ | ⟨a, len, cap, m, n, D, Pl, hcs, _, hl, hm, hmm, _, hx⟩
  · simp at hcs
    exact ⟨none, 0, 0, fun _ => (0, 0, 0), hcs, by simp, fun j hj => by omega⟩
  · simp at hcs
    subst hcs
    simp only [if_true] at hmm
    have each : ∀ i, i < len → ∃ q : Int × Int × Int, w.cell? (a.add (i * 3)) = some (.int .i64 q.1) ∧ w.cell? (a.add (i * 3 + 1)) = some (.int .i64 q.2.1) ∧ w.cell? (a.add (i * 3 + 2)) = some (.int .i64 q.2.2) := by
      intro i hi
      obtain ⟨cs', h1, h2⟩ := hx i (by omega)
      rw [cells31] at h1
      obtain ⟨_, hlen, hcell⟩ := World.cells?_some h1
      obtain ⟨xs, k', hk, hxy, _, hxl, hf'⟩ := DataW.trod_struct Tryd.underlying32 h2
      clear hxy hk h1 h2
      obtain ⟨v0, v1, v2, rfl⟩ := list3 hlen
      have g0 := hf' 0 _ rfl
      have g1 := hf' 1 _ rfl
      have g2 := hf' 2 _ rfl
      simp [cells3] at g0 g1 g2
      have hxl3 : xs.length = 3 := hxl
      rw [List.getElem?_eq_getElem (by omega)] at g0 g1 g2
      have e0 := hcell 0 (by omega)
      have e1 := hcell 1 (by omega)
      have e2 := hcell 2 (by omega)
      rw [Go.Deep.add_add] at e0 e1 e2
      obtain ⟨t, q0, _, _⟩ := DataW.trod_int Tryd.underlying3 g0
      obtain ⟨p, q1, _, _⟩ := DataW.trod_int Tryd.underlying3 g1
      obtain ⟨s, q2, _, _⟩ := DataW.trod_int Tryd.underlying3 g2
      simp at q0 q1 q2
      subst q0 q1 q2
      exact ⟨(t, p, s), by simpa using e0, by simpa using e1, by simpa using e2⟩
    obtain ⟨S, hS⟩ := Go.Deep.choose_lt each
    refine ⟨some a, len, cap, S, rfl, by omega, fun j hj => ?_⟩
    obtain ⟨b, off, spot⟩ := a
    have h0 := hS 0 (by omega)
    have hspot : spot = none := by simpa [Addr.add] using World.cell?_spot h0.1
    subst hspot
    have h := hS j hj
    rw [Go.WideShapes.add_plain, Go.WideShapes.add_plain, Go.WideShapes.add_plain] at h
    exact ⟨b, off, rfl, lt_of_cell h.1, h.1, h.2.1, h.2.2⟩
set_option maxRecDepth 100000 in
theorem spots_open {H : Type} {enc : TypeId × Value → H} {w : World} {base : Nat} {r : Reach} {b0 : Nat} {held : Bool} {v : Value} {d : DataW H} {p : List MemPlace}
    (hv : Value.okWide Tryd.prog w r b0 26 v) (h : DataW.Trod enc Tryd.prog w base (fun _ => true) held 26 v d p) :
    ∃ (lo : Option Addr) (n cap : Nat) (S : Nat → Int × Int × Int), v = .slice lo n cap ∧ n ≤ maxLen ∧ SpotsAt w lo n S := by
  obtain ⟨a0, len, cap, rfl⟩ := Go.WideShapes.okWide_slice Tryd.underlying26 hv
  obtain ⟨fuel, hf⟩ := h
  have hf' : DataW.trod enc Tryd.prog w base (fun _ => true) held fuel 26 [.slice a0 len cap] = some (d, p) := hf
  exact spots_of_trod hf'
end Go.Proofs.YtlpmahdplilbiabDoor
