/-
  Rows of the call's own, and the walks of what copies rails.
-/
import Derived.Test.YtlpmahdplilbiabDoorBox
import Derived.Test.YtlpmahdplilbiabDoorWalkLies
import Derived.Deep.AppendLies
import Derived.Deep.LoopGhost
import Derived.WalkMore
namespace Go.Proofs.YtlpmahdplilbiabDoor
open Go.RowKit

theorem row_below {w w' : World} {B B' : Nat} {e : TypeId} {size n : Nat} {v : Value} {xs : List Value} (h : w.ownsRow B e size v n xs) (hb : Below B' w w') (hv : ∀ k, v.ownBlock = some k → k < B') : w'.ownsRow B e size v n xs := by
  refine ⟨h.1, ?_⟩
  rcases h.2 with hn | ⟨g, cap, cur, rfl, hB, hg, rest⟩
  · exact .inl hn
  · refine .inr ⟨g, cap, cur, rfl, hB, ?_, rest⟩
    rw [hb.block g (hv g rfl)]
    exact hg
theorem row_stays {w w' : World} {B : Nat} {e : TypeId} {size n : Nat} {v : Value} {xs : List Value} (h : w.ownsRow B e size v n xs) (hb : Below w.heap.size w w') : w'.ownsRow B e size v n xs :=
  row_below h hb fun k hk => (h.lt k hk).2
theorem row_mono {w : World} {base base' : Nat} {e : TypeId} {size : Nat} {v : Value} {n : Nat} {xs : List Value} (h : w.ownsRow base e size v n xs) (hb : base' ≤ base) : w.ownsRow base' e size v n xs := by
  refine ⟨h.1, ?_⟩
  rcases h.2 with hn | ⟨g, cap, cur, hv, hB, rest⟩
  · exact .inl hn
  · exact .inr ⟨g, cap, cur, hv, by omega, rest⟩
theorem row_other {w : World} {base : Nat} {e : TypeId} {size : Nat} {v : Value} {n : Nat} {xs : List Value} (h : w.ownsRow base e size v n xs) {a : Addr} (ha : v.ownBlock ≠ some a.block) (u : Value) : (w.setCell a u).ownsRow base e size v n xs := by
  refine ⟨h.1, ?_⟩
  rcases h.2 with hn | ⟨g, cap, cur, rfl, hB, hg, rest⟩
  · exact .inl hn
  · refine .inr ⟨g, cap, cur, rfl, hB, ?_, rest⟩
    rw [Below.heap_setCell _ _ _ g (by simpa [Value.ownBlock] using ha)]
    exact hg

/-- Values as cells. -/
def vals (n : Nat) (F : Nat → Value) : List Value := (List.range n).map F
theorem vals_length (n : Nat) (F : Nat → Value) : (vals n F).length = n := by simp [vals]
theorem vals_get {n : Nat} (F : Nat → Value) {j : Nat} (h : j < n) : (vals n F)[j]? = some (F j) := by simp [vals, h]
theorem vals_set (n : Nat) (F : Nat → Value) (j : Nat) (x : Value) : (vals n F).set j x = vals n (fun i => if i = j then x else F i) := by
  apply List.ext_getElem?
  intro i
  rw [List.getElem?_set]
  by_cases hi : i < n
  · rw [vals_get _ hi, vals_length, vals_get _ hi]
    by_cases h : j = i
    · subst h; simp [hi]
    · rw [if_neg h, if_neg (Ne.symm h)]
  · rw [List.getElem?_eq_none (by rw [vals_length]; omega)]
    rw [List.getElem?_eq_none (l := vals n _) (by rw [vals_length]; omega)]
    simp [vals_length]; omega
theorem vals_congr {n : Nat} {F G : Nat → Value} (h : ∀ i, i < n → F i = G i) : vals n F = vals n G := by
  unfold vals; apply List.map_congr_left; intro i hi; rw [h i (by simpa using hi)]
theorem vals_succ (n : Nat) (F : Nat → Value) : vals (n + 1) F = vals n F ++ [F n] := by simp [vals, List.range_succ]
theorem vals_of_row {w : World} {B g n cap : Nat} {F : Nat → Value} {e : TypeId} (h : w.ownsRow B e 1 (.slice (some ⟨g, 0, none⟩) n cap) n (vals n F)) : Vals w (some ⟨g, 0, none⟩) n F := fun j hj =>
  ⟨g, 0, rfl, (h.lt g rfl).2, by rw [Nat.zero_add, h.cellAt j (by omega), vals_get _ hj]⟩
abbrev iv (Z : Nat → Int) : Nat → Value := fun j => .int .i64 (Z j)
abbrev bv (B : Nat → Bool) : Nat → Value := fun j => .bool (B j)
theorem info3 : (Tryd.prog.info? 3).map (fun i => (i.zero, i.size, i.bytes)) = some (some (.int .i64 0), 1, 8) := by kernel_rfl
theorem info4 : (Tryd.prog.info? 4).map (fun i => (i.zero, i.size, i.bytes)) = some (some (.bool false), 1, 1) := by kernel_rfl

end Go.Proofs.YtlpmahdplilbiabDoor
