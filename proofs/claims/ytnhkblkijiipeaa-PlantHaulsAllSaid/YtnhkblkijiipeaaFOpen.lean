/-
  The arguments of the laws, opened for the walks: lists of kinds, a plant.
-/
import Derived.Test.YtnhkblkijiipeaaFPar
import Derived.ProofKit
import Derived.OpenShut
import Derived.Deep.DeepHandedRow
import Derived.Deep.SlicePairs
import Derived.Deep.Strs
namespace Go.Proofs.Ytnhkblkijiipeaa
open Go.ChangeShapes Go.WideShapes Go.ChangeAt Go.RowKit

theorem cells3 : Try.prog.cellsOf 3 = 1 := by kernel_rfl
theorem cells4 : Try.prog.cellsOf 4 = 1 := by kernel_rfl
theorem cellsStr : Try.prog.cellsOf 9 = 1 := by kernel_rfl
theorem cellsInts : Try.prog.cellsOf 23 = 1 := by kernel_rfl
theorem cellsMks : Try.prog.cellsOf 38 = 1 := by kernel_rfl
theorem cellsMk : Try.prog.cellsOf 42 = 2 := by kernel_rfl
theorem cellsK : Try.prog.cellsOf 40 = 3 := by kernel_rfl
theorem cellsPl : Try.prog.cellsOf 25 = 10 := by kernel_rfl
theorem list2 {α : Type} {l : List α} (h : l.length = 2) : ∃ a b, l = [a, b] := by
  match l, h with
  | [a, b], _ => exact ⟨a, b, rfl⟩
theorem list3 {α : Type} {l : List α} (h : l.length = 3) : ∃ a b c, l = [a, b, c] := by
  match l, h with
  | [a, b, c], _ => exact ⟨a, b, c, rfl⟩
theorem list10 {α : Type} {l : List α} (h : l.length = 10) : ∃ a b c d e f g i j k, l = [a, b, c, d, e, f, g, i, j, k] := by
  match l, h with
  | [a, b, c, d, e, f, g, i, j, k], _ => exact ⟨a, b, c, d, e, f, g, i, j, k, rfl⟩
theorem ints_of_trod {H : Type} {enc : TypeId × Value → H} {w : World} {base : Nat} {held : Bool} {k : Nat} {c : Value} {y : DataW H × List MemPlace}
    (hf : DataW.trod enc Try.prog w base (fun _ => true) held k 23 [c] = some y) :
    ∃ (ao : Option Addr) (n cap : Nat) (Z : Nat → Int), c = .slice ao n cap ∧ n ≤ maxLen ∧ Ints w ao n Z := by
  rcases Go.ChangeShapes.open_ints Try.underlying23 Try.underlying3 cells3 hf with ⟨hcs, _⟩ | ⟨a, len', cap', zs, hcs, _, hl, hm, hz, _, hcell, hwz⟩
  · simp at hcs
    exact ⟨none, 0, 0, fun _ => 0, hcs, by simp, fun j hj => by simp at hj⟩
  · simp at hcs
    subst hcs
    simp only [if_true] at hz
    refine ⟨some a, len', cap', fun j => zs.getD j 0, rfl, by omega, fun j hj => ?_⟩
    obtain ⟨b, off, rfl, hc⟩ := ints_at hcell (by omega)
    have := hc j (by omega)
    exact ⟨b, off, rfl, lt_of_cell this, this⟩
set_option maxRecDepth 100000 in
theorem mks_of_trod {H : Type} {enc : TypeId × Value → H} {w : World} {base : Nat} {held : Bool} {k : Nat} {c : Value} {y : DataW H × List MemPlace}
    (hf : DataW.trod enc Try.prog w base (fun _ => true) held k 38 [c] = some y) :
    ∃ (ao : Option Addr) (n cap : Nat) (C A : Nat → Int), c = .slice ao n cap ∧ n ≤ maxLen ∧ Mks w ao n C A := by
  rcases Go.Deep.open_slice Try.underlying38 hf with ⟨hcs, _⟩ | ⟨a, len, cap, m, n, D, Pl, hcs, _, hl, hm, hmm, _, hx⟩
  · simp at hcs
    exact ⟨none, 0, 0, fun _ => 0, fun _ => 0, hcs, by simp, fun j hj => by omega⟩
  · simp at hcs
    subst hcs
    simp only [if_true] at hmm
    have each : ∀ i, i < len → ∃ q : Int × Int, w.cell? (a.add (i * 2)) = some (.int .i64 q.1) ∧ w.cell? (a.add (i * 2 + 1)) = some (.int .i64 q.2) := by
      intro i hi
      obtain ⟨cs', h1, h2⟩ := hx i (by omega)
      rw [cellsMk] at h1
      obtain ⟨_, hlen, hcell⟩ := World.cells?_some h1
      obtain ⟨xs, k', hk, hxy, _, hxl, hf'⟩ := DataW.trod_struct Try.underlying42 h2
      clear hxy hk h1 h2
      obtain ⟨v0, v1, rfl⟩ := list2 hlen
      have g0 := hf' 0 _ rfl
      have g1 := hf' 1 _ rfl
      simp [cells3] at g0 g1
      have hxlK : xs.length = 2 := hxl
      rw [List.getElem?_eq_getElem (by omega)] at g0 g1
      have e0 := hcell 0 (by omega)
      have e1 := hcell 1 (by omega)
      rw [Go.Deep.add_add] at e0 e1
      obtain ⟨x0, q0, _, _⟩ := DataW.trod_int Try.underlying3 g0
      obtain ⟨x1, q1, _, _⟩ := DataW.trod_int Try.underlying3 g1
      simp at q0 q1
      subst q0 q1
      exact ⟨(x0, x1), by simpa using e0, by simpa using e1⟩
    obtain ⟨S, hS⟩ := Go.Deep.choose_lt each
    refine ⟨some a, len, cap, fun j => (S j).1, fun j => (S j).2, rfl, by omega, fun j hj => ?_⟩
    obtain ⟨b, off, spot⟩ := a
    have h0 := hS 0 (by omega)
    have hspot : spot = none := by simpa [Addr.add] using World.cell?_spot h0.1
    subst hspot
    have h := hS j hj
    rw [Go.WideShapes.add_plain, Go.WideShapes.add_plain] at h
    exact ⟨b, off, rfl, lt_of_cell h.1, h.1, h.2⟩
instance : Inhabited Kd := ⟨⟨ByteArray.empty, none, 0, 0, fun _ => 0, none, 0, 0, fun _ => 0, fun _ => 0⟩⟩
set_option maxRecDepth 100000 in
theorem kds_of_trod {H : Type} {enc : TypeId × Value → H} {w : World} {base : Nat} {held : Bool} {k : Nat} {c : Value} {y : DataW H × List MemPlace}
    (hf : DataW.trod enc Try.prog w base (fun _ => true) held k 22 [c] = some y) :
    ∃ (ko : Option Addr) (m kc : Nat) (K : Nat → Kd), c = .slice ko m kc ∧ m ≤ maxLen ∧ m ≤ kc ∧ Kds w ko m K ∧ ∀ j, j < m → (K j).nm.size ≤ maxLen ∧ (K j).tn ≤ maxLen ∧ (K j).mn ≤ maxLen := by
  rcases Go.Deep.open_slice Try.underlying22 hf with ⟨hcs, _⟩ | ⟨a, len, cap, m, n, D, Pl, hcs, _, hl, hm, hmm, _, hx⟩
  · simp at hcs
    exact ⟨none, 0, 0, fun _ => ⟨ByteArray.empty, none, 0, 0, fun _ => 0, none, 0, 0, fun _ => 0, fun _ => 0⟩, hcs, by simp, by simp, fun j hj => by omega, fun j hj => by omega⟩
  · simp at hcs
    subst hcs
    simp only [if_true] at hmm
    have each : ∀ i, i < len → ∃ q : Kd, (w.cell? (a.add (i * 3)) = some (.string q.nm) ∧ w.cell? (a.add (i * 3 + 1)) = some (.slice q.ta q.tn q.tc) ∧ w.cell? (a.add (i * 3 + 2)) = some (.slice q.ma q.mn q.mc)) ∧ KdAt w q ∧ q.nm.size ≤ maxLen ∧ q.tn ≤ maxLen ∧ q.mn ≤ maxLen := by
      intro i hi
      obtain ⟨cs', h1, h2⟩ := hx i (by omega)
      rw [cellsK] at h1
      obtain ⟨_, hlen, hcell⟩ := World.cells?_some h1
      obtain ⟨xs, k', hk, hxy, _, hxl, hf'⟩ := DataW.trod_struct Try.underlying40 h2
      clear hxy hk h1 h2
      obtain ⟨v0, v1, v2, rfl⟩ := list3 hlen
      have g0 := hf' 0 _ rfl
      have g1 := hf' 1 _ rfl
      have g2 := hf' 2 _ rfl
      simp [cellsStr, cellsInts, cellsMks] at g0 g1 g2
      have hxlK : xs.length = 3 := hxl
      rw [List.getElem?_eq_getElem (by omega)] at g0 g1 g2
      have e0 := hcell 0 (by omega)
      have e1 := hcell 1 (by omega)
      have e2 := hcell 2 (by omega)
      rw [Go.Deep.add_add] at e0 e1 e2
      obtain ⟨x0, q0, _, hs0⟩ := DataW.trod_string Try.underlying9 g0
      simp at q0
      subst q0
      obtain ⟨ta, tn, tc, T, rfl, ht, hT⟩ := ints_of_trod g1
      obtain ⟨ma, mn, mc, C, A, rfl, hmn, hM⟩ := mks_of_trod g2
      exact ⟨⟨x0, ta, tn, tc, T, ma, mn, mc, C, A⟩, ⟨by simpa using e0, by simpa using e1, by simpa using e2⟩, ⟨hT, hM⟩, hs0, ht, hmn⟩
    obtain ⟨S, hS⟩ := Go.Deep.choose_lt each
    refine ⟨some a, len, cap, S, rfl, by omega, hl, fun j hj => ⟨?_, (hS j hj).2.1⟩, fun j hj => (hS j hj).2.2⟩
    obtain ⟨b, off, spot⟩ := a
    have h0 := hS 0 (by omega)
    have hspot : spot = none := by simpa [Addr.add] using World.cell?_spot h0.1.1
    subst hspot
    have h := (hS j hj).1
    rw [Go.WideShapes.add_plain, Go.WideShapes.add_plain, Go.WideShapes.add_plain] at h
    exact ⟨b, off, rfl, lt_of_cell h.1, h.1, h.2.1, h.2.2⟩
set_option maxRecDepth 100000 in
theorem kds_open {H : Type} {enc : TypeId × Value → H} {w : World} {base : Nat} {r : Reach} {b0 : Nat} {held : Bool} {v : Value} {d : DataW H} {p : List MemPlace}
    (hv : Value.okWide Try.prog w r b0 22 v) (h : DataW.Trod enc Try.prog w base (fun _ => true) held 22 v d p) :
    ∃ (ko : Option Addr) (m kc : Nat) (K : Nat → Kd), v = .slice ko m kc ∧ m ≤ maxLen ∧ m ≤ kc ∧ Kds w ko m K ∧ ∀ j, j < m → (K j).nm.size ≤ maxLen ∧ (K j).tn ≤ maxLen ∧ (K j).mn ≤ maxLen := by
  obtain ⟨a0, len, cap, rfl⟩ := Go.WideShapes.okWide_slice Try.underlying22 hv
  obtain ⟨fuel, hf⟩ := h
  have hf' : DataW.trod enc Try.prog w base (fun _ => true) held fuel 22 [.slice a0 len cap] = some (d, p) := hf
  exact kds_of_trod hf'
/-- The lengths of a plant's lists. -/
structure BigP (p : Pl) : Prop where
  st : p.st.n ≤ maxLen
  re : p.re.n ≤ maxLen
  ma : p.ma.n ≤ maxLen
  mo : p.mo.n ≤ maxLen
set_option maxRecDepth 100000 in
theorem plant_open {H : Type} {enc : TypeId × Value → H} {w : World} {base : Nat} {r : Reach} {b0 : Nat} {held : Bool} {v : Value} {d : DataW H} {pl : List MemPlace}
    (hv : Value.okWide Try.prog w r b0 25 v) (h : DataW.Trod enc Try.prog w base (fun _ => true) held 25 v d pl) :
    ∃ p : Pl, v = pv p ∧ PlAt w p ∧ BigP p := by
  obtain ⟨cs, rfl, hsz⟩ := okWide_struct Try.underlying25 hv
  obtain ⟨fuel, hf⟩ := h
  rcases cs with ⟨l⟩
  obtain ⟨v0, v1, v2, v3, v4, v5, v6, v7, v8, v9, rfl⟩ := list10 (hsz.trans cellsPl)
  have hf2 : DataW.trod enc Try.prog w base (fun _ => true) held fuel 25 [v0, v1, v2, v3, v4, v5, v6, v7, v8, v9] = some (d, pl) := hf
  obtain ⟨xs, k', hk, hxy, _, hxl, hf'⟩ := DataW.trod_struct Try.underlying25 hf2
  clear hxy hk hf2 hf
  have g0 := hf' 0 _ rfl
  have g1 := hf' 1 _ rfl
  have g2 := hf' 2 _ rfl
  have g3 := hf' 3 _ rfl
  have g4 := hf' 4 _ rfl
  have g5 := hf' 5 _ rfl
  have g6 := hf' 6 _ rfl
  have g7 := hf' 7 _ rfl
  have g8 := hf' 8 _ rfl
  have g9 := hf' 9 _ rfl
  simp [cells3, cells4, cellsInts] at g0 g1 g2 g3 g4 g5 g6 g7 g8 g9
  have hxlK : xs.length = 10 := hxl
  rw [List.getElem?_eq_getElem (by omega)] at g0 g1 g2 g3 g4 g5 g6 g7 g8 g9
  obtain ⟨k, q0, _, _⟩ := DataW.trod_int Try.underlying3 g0
  obtain rfl : v0 = .int .i64 k := by simpa using q0
  obtain ⟨t, q1, _, _⟩ := DataW.trod_int Try.underlying3 g1
  obtain rfl : v1 = .int .i64 t := by simpa using q1
  obtain ⟨l, q2, _, _⟩ := DataW.trod_int Try.underlying3 g2
  obtain rfl : v2 = .int .i64 l := by simpa using q2
  obtain ⟨g, q7, _, _⟩ := DataW.trod_int Try.underlying3 g7
  obtain rfl : v7 = .int .i64 g := by simpa using q7
  obtain ⟨i, q8, _, _⟩ := DataW.trod_int Try.underlying3 g8
  obtain rfl : v8 = .int .i64 i := by simpa using q8
  obtain ⟨o, q9, _⟩ := DataW.trod_bool Try.underlying4 g9
  obtain rfl : v9 = .bool o := by simpa using q9
  obtain ⟨sa, sn, sc, sZ, rfl, sb, sI⟩ := ints_of_trod g3
  obtain ⟨ra, rn, rc, rZ, rfl, rb, rI⟩ := ints_of_trod g4
  obtain ⟨ma, mn, mc, mZ, rfl, mb, mI⟩ := ints_of_trod g5
  obtain ⟨va, vn, vc, vZ, rfl, vb, vI⟩ := ints_of_trod g6
  exact ⟨⟨k, t, l, ⟨sa, sn, sc, sZ⟩, ⟨ra, rn, rc, rZ⟩, ⟨ma, mn, mc, mZ⟩, ⟨va, vn, vc, vZ⟩, g, i, o⟩, rfl, ⟨sI, rI, mI, vI⟩, ⟨sb, rb, mb, vb⟩⟩
end Go.Proofs.Ytnhkblkijiipeaa
