/-
  The arguments of the laws, opened for the walks: rails, spots; and the table of ends, out of what the rows list.
-/
import Derived.Test.YtbfpcolkbfljoaaDoorRKit
import Derived.ProofKit
import Derived.OpenShut
import Derived.Deep.DeepHandedRow
import Derived.Deep.Grids
import Derived.Lib.LaidU8
namespace Go.Proofs.YtbfpcolkbfljoaaDoor
open Go.ChangeShapes Go.WideShapes Go.ChangeAt Go.RowKit

theorem cells3 : Tryd.prog.cellsOf 3 = 1 := by kernel_rfl
theorem cells4 : Tryd.prog.cellsOf 4 = 1 := by kernel_rfl
theorem cells60 : Tryd.prog.cellsOf 144 = 2 := by kernel_rfl
theorem gTab : Tryd.prog.globalNamed "hinterland/rail.ends" = some 0 := by kernel_rfl
theorem gTabType : (Tryd.prog.globals[0]?).map (·.type) = some 145 := by kernel_rfl
theorem ends_pair {H : Type} {enc : TypeId × Value → H} {w : World} {base : Nat} {sp : Nat → Bool} {held : Bool} {fuel : Nat} {cs : List Value} {p : List MemPlace} {r : Nat} {a b : Int} {ds : List (DataW H)}
    (h : DataW.trod enc Tryd.prog w base sp held fuel 145 cs = some (.agg ds, p)) (hr : r < 6) (hd : ds[r]? = some (.agg [.lit (.int .i64 a), .lit (.int .i64 b)])) :
    cs[2 * r]? = some (.int .i64 a) ∧ cs[2 * r + 1]? = some (.int .i64 b) := by
  obtain ⟨f1, d, q, hd', h1⟩ := Lib.array_elem Tryd.underlying145 h r hr
  rw [hd] at hd'
  obtain rfl := Option.some.inj hd'
  rw [cells60] at h1
  have e := Lib.cells_of_tab (zs := [a, b]) Tryd.underlying144 Tryd.underlying3 cells3 cells60 h1
  have k0 : ((cs.drop (r * 2)).take 2)[0]? = some (.int .i64 a) := by rw [e]; rfl
  have k1 : ((cs.drop (r * 2)).take 2)[1]? = some (.int .i64 b) := by rw [e]; rfl
  rw [List.getElem?_take, List.getElem?_drop] at k0 k1
  simp at k0 k1
  rw [Nat.mul_comm 2 r]
  exact ⟨k0, k1⟩
/-- What a row's list gives: the ends of pieces. -/
theorem table_of {W : World} (h : laidMetH Tryd.prog [("hinterland/rail.ends", Rows.laid_hinterland_rail_ends)] W) : Tab W := by
  obtain ⟨ps, ⟨g', t', cs, fuel, p, q, hg', ht', hvar, hd, _, _⟩, _⟩ := h
  obtain rfl := Option.some.inj (gTab.symm.trans hg')
  obtain rfl := Option.some.inj (gTabType.symm.trans ht')
  have cell : ∀ i v, cs.toList[i]? = some v → W.cell? ⟨0, i, none⟩ = some v := fun i v hi => by
    have := World.var?_cell gTab hvar i
    rw [this]
    simpa using hi
  intro r hr
  rcases (show r = 0 ∨ r = 1 ∨ r = 2 ∨ r = 3 ∨ r = 4 ∨ r = 5 by omega) with rfl | rfl | rfl | rfl | rfl | rfl
  all_goals
    have e := ends_pair hd hr rfl
    exact ⟨cell _ _ e.1, cell _ _ e.2⟩

theorem ints_of_trod {H : Type} {enc : TypeId × Value → H} {w : World} {base : Nat} {held : Bool} {k : Nat} {c : Value} {y : DataW H × List MemPlace}
    (hf : DataW.trod enc Tryd.prog w base (fun _ => true) held k 22 [c] = some y) :
    ∃ (ao : Option Addr) (n cap : Nat) (Z : Nat → Int), c = .slice ao n cap ∧ n ≤ maxLen ∧ Ints w ao n Z ∧ ∀ j, j < n → (Lit.int .i64 (Z j)).wf = true := by
  rcases Go.ChangeShapes.open_ints Tryd.underlying22 Tryd.underlying3 cells3 hf with ⟨hcs, _⟩ | ⟨a, len', cap', zs, hcs, _, hl, hm, hz, _, hcell, hwz⟩
  · simp at hcs
    exact ⟨none, 0, 0, fun _ => 0, hcs, by simp, fun j hj => by simp at hj, fun j hj => by simp at hj⟩
  · simp at hcs
    subst hcs
    simp only [if_true] at hz
    refine ⟨some a, len', cap', fun j => zs.getD j 0, rfl, by omega, fun j hj => ?_, fun j hj => ?_⟩
    · obtain ⟨b, off, rfl, hc⟩ := ints_at hcell (by omega)
      have := hc j (by omega)
      exact ⟨b, off, rfl, lt_of_cell this, this⟩
    · apply hwz
      show zs.getD j 0 ∈ zs
      rw [List.getD_eq_getElem?_getD, List.getElem?_eq_getElem (by omega)]
      exact List.getElem_mem _
theorem bools_of_trod {H : Type} {enc : TypeId × Value → H} {w : World} {base : Nat} {held : Bool} {k : Nat} {c : Value} {y : DataW H × List MemPlace}
    (hf : DataW.trod enc Tryd.prog w base (fun _ => true) held k 23 [c] = some y) :
    ∃ (ao : Option Addr) (n cap : Nat) (B : Nat → Bool), c = .slice ao n cap ∧ n ≤ maxLen ∧ Bools w ao n B := by
  rcases Go.Deep.open_bools Tryd.underlying23 Tryd.underlying4 cells4 hf with ⟨hcs, _⟩ | ⟨a, len', cap', B, hcs, _, hl, hm, _, hcell⟩
  · simp at hcs
    exact ⟨none, 0, 0, fun _ => false, hcs, by simp, fun j hj => by simp at hj⟩
  · simp at hcs
    subst hcs
    refine ⟨some a, len', cap', B, rfl, by omega, fun j hj => ?_⟩
    have h := hcell j (by omega)
    obtain ⟨b, off, spot⟩ := a
    have hspot : spot = none := by simpa [Addr.add] using World.cell?_spot (hcell 0 (by omega))
    subst hspot
    rw [Go.WideShapes.add_plain] at h
    exact ⟨b, off, rfl, lt_of_cell h, h⟩
theorem cells25 : Tryd.prog.cellsOf 25 = 4 := by kernel_rfl
theorem cells31 : Tryd.prog.cellsOf 50 = 3 := by kernel_rfl
set_option maxRecDepth 100000 in
theorem rails_open {H : Type} {enc : TypeId × Value → H} {w : World} {base : Nat} {r : Reach} {b0 : Nat} {held : Bool} {v : Value} {d : DataW H} {p : List MemPlace}
    (hv : Value.okWide Tryd.prog w r b0 25 v) (h : DataW.Trod enc Tryd.prog w base (fun _ => true) held 25 v d p) :
    ∃ (W H : Int) (ao : Option Addr) (n cap : Nat) (Z : Nat → Int) (bo : Option Addr) (m bcap : Nat) (B : Nat → Bool), v = rv W H (.slice ao n cap) (.slice bo m bcap) ∧ n ≤ maxLen ∧ Ints w ao n Z ∧ m ≤ maxLen ∧ Bools w bo m B ∧
      (∀ j, j < n → (Lit.int .i64 (Z j)).wf = true) ∧ (Lit.int .i64 W).wf = true ∧ (Lit.int .i64 H).wf = true := by
  obtain ⟨c0, c1, c2, c3, y0, y1, y2, y3, _, rfl, _, _, t0, t1, t2, t3⟩ := Joins.open_agg4 Tryd.underlying25 (by kernel_rfl) cells25 hv h
  obtain ⟨W, e0, _, wf0⟩ := DataW.trod_int Tryd.underlying3 t0
  obtain rfl : c0 = .int .i64 W := by simpa using e0
  obtain ⟨H, e1, _, wf1⟩ := DataW.trod_int Tryd.underlying3 t1
  obtain rfl : c1 = .int .i64 H := by simpa using e1
  obtain ⟨ao, n, cap, Z, rfl, hn, hI, hw⟩ := ints_of_trod t2
  obtain ⟨bo, m, bcap, B, rfl, hm, hB⟩ := bools_of_trod t3
  exact ⟨W, H, ao, n, cap, Z, bo, m, bcap, B, rfl, hn, hI, hm, hB, hw, wf0, wf1⟩
set_option maxRecDepth 100000 in
theorem spot_open {H : Type} {enc : TypeId × Value → H} {w : World} {base : Nat} {r : Reach} {b0 : Nat} {held : Bool} {v : Value} {d : DataW H} {p : List MemPlace}
    (hv : Value.okWide Tryd.prog w r b0 50 v) (h : DataW.Trod enc Tryd.prog w base (fun _ => true) held 50 v d p) :
    ∃ (t q s : Int), v = sv t q s ∧ (Lit.int .i64 t).wf = true ∧ (Lit.int .i64 q).wf = true ∧ (Lit.int .i64 s).wf = true := by
  obtain ⟨c0, c1, c2, y0, y1, y2, _, rfl, _, _, t0, t1, t2⟩ := Joins.open_agg3 Tryd.underlying50 (by kernel_rfl) cells31 hv h
  obtain ⟨t, e0, _, wf0⟩ := DataW.trod_int Tryd.underlying3 t0
  obtain rfl : c0 = .int .i64 t := by simpa using e0
  obtain ⟨q, e1, _, wf1⟩ := DataW.trod_int Tryd.underlying3 t1
  obtain rfl : c1 = .int .i64 q := by simpa using e1
  obtain ⟨s, e2, _, wf2⟩ := DataW.trod_int Tryd.underlying3 t2
  obtain rfl : c2 = .int .i64 s := by simpa using e2
  exact ⟨t, q, s, rfl, wf0, wf1, wf2⟩
end Go.Proofs.YtbfpcolkbfljoaaDoor
