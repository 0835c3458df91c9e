/-
  Rows of ways in memory of the call's own: what they hold, place by place.
-/
import Derived.Test.YtokpdjdpeaccbaaGBe2
namespace Go.Proofs.Ytokpdjdpeaccbaa
open Go.RowKit

/-- Ways as cells, q of them. -/
def encW (q : Nat) (L : Nat → Wy) : List Value := (List.range q).flatMap fun i => wc (L i)
theorem encW_length (q : Nat) (L : Nat → Wy) : (encW q L).length = q * 4 := by
  induction q with
  | zero => rfl
  | succ q ih => unfold encW at *; rw [List.range_succ, List.flatMap_append, List.length_append, ih]; simp [wc]; omega
theorem encW_succ (q : Nat) (L : Nat → Wy) : encW (q + 1) L = encW q L ++ wc (L q) := by simp [encW, List.range_succ]
theorem encW_congr {q : Nat} {L M : Nat → Wy} (h : ∀ i, i < q → L i = M i) : encW q L = encW q M := by
  induction q with
  | zero => rfl
  | succ q ih => rw [encW_succ, encW_succ, ih (fun i hi => h i (by omega)), h q (by omega)]
def fld (w : Wy) : Nat → Int | 0 => w.nd | 1 => w.co | 2 => w.ns | _ => w.nx
theorem encW_get {q : Nat} (L : Nat → Wy) {i t : Nat} (hi : i < q) (ht : t < 4) : (encW q L)[i * 4 + t]? = some (.int .i64 (fld (L i) t)) := by
  induction q with
  | zero => omega
  | succ q ih =>
    rw [encW_succ]
    by_cases h : i < q
    · rw [List.getElem?_append_left (by rw [encW_length]; omega)]; exact ih h
    · obtain rfl : i = q := by omega
      rw [List.getElem?_append_right (by rw [encW_length]; omega), encW_length, show i * 4 + t - i * 4 = t by omega]
      have : t = 0 ∨ t = 1 ∨ t = 2 ∨ t = 3 := by omega
      rcases this with rfl | rfl | rfl | rfl <;> rfl
/-- A list whose cells are those. -/
theorem encW_ext {q : Nat} {L : Nat → Wy} {l : List Value} (hl : l.length = q * 4) (h : ∀ i t, i < q → t < 4 → l[i * 4 + t]? = some (.int .i64 (fld (L i) t))) : l = encW q L := by
  apply List.ext_getElem?
  intro j
  by_cases hj : j < q * 4
  · have e : j = j / 4 * 4 + j % 4 := by omega
    rw [e, h (j / 4) (j % 4) (by omega) (by omega), encW_get L (by omega) (by omega)]
  · rw [List.getElem?_eq_none (by omega), List.getElem?_eq_none (by rw [encW_length]; omega)]
/-- One way is put in the place of another. -/
def updW (L : Nat → Wy) (j : Nat) (x : Wy) : Nat → Wy := fun i => if i = j then x else L i
theorem updW_same (L : Nat → Wy) (j : Nat) (x : Wy) : updW L j x j = x := by simp [updW]
theorem updW_ne (L : Nat → Wy) {i j : Nat} (x : Wy) (h : i ≠ j) : updW L j x i = L i := by simp [updW, h]
theorem encW_set (q : Nat) (L : Nat → Wy) (j : Nat) (x : Wy) : ((((encW q L).set (j * 4) (.int .i64 x.nd)).set (j * 4 + 1) (.int .i64 x.co)).set (j * 4 + 2) (.int .i64 x.ns)).set (j * 4 + 3) (.int .i64 x.nx) = encW q (updW L j x) := by
  refine encW_ext (by simp [encW_length]) fun i t hi ht => ?_
  have ht4 : t = 0 ∨ t = 1 ∨ t = 2 ∨ t = 3 := by omega
  by_cases e : i = j
  · subst e
    rw [updW_same]
    have h0 := encW_length q L
    rcases ht4 with rfl | rfl | rfl | rfl <;> simp [List.getElem?_set, fld] <;> omega
  · rw [updW_ne _ _ e, ← encW_get L hi ht]
    rw [List.getElem?_set_ne (by omega), List.getElem?_set_ne (by omega), List.getElem?_set_ne (by omega), List.getElem?_set_ne (by omega)]
/-- A row of ways that the call has made. -/
abbrev RowW (w : World) (B : Nat) (v : Value) (q : Nat) (L : Nat → Wy) : Prop := w.ownsRow B 68 4 v q (encW q L)
theorem RowW.cell {w : World} {B g q c : Nat} {L : Nat → Wy} (h : RowW w B (.slice (some ⟨g, 0, none⟩) q c) q L) {i : Nat} (hi : i < q) :
    w.cell? ⟨g, i * 4, none⟩ = some (.int .i64 (L i).nd) ∧ w.cell? ⟨g, i * 4 + 1, none⟩ = some (.int .i64 (L i).co) ∧ w.cell? ⟨g, i * 4 + 2, none⟩ = some (.int .i64 (L i).ns) ∧ w.cell? ⟨g, i * 4 + 3, none⟩ = some (.int .i64 (L i).nx) :=
  ⟨(h.cellAt (i * 4) (by omega)).trans (encW_get L hi (t := 0) (by omega)), (h.cellAt (i * 4 + 1) (by omega)).trans (encW_get L hi (by omega)), (h.cellAt (i * 4 + 2) (by omega)).trans (encW_get L hi (by omega)), (h.cellAt (i * 4 + 3) (by omega)).trans (encW_get L hi (by omega))⟩
theorem RowW.put {w : World} {B g q c : Nat} {L : Nat → Wy} (h : RowW w B (.slice (some ⟨g, 0, none⟩) q c) q L) (j : Nat) (x : Wy) :
    RowW ((((w.setCell ⟨g, j * 4, none⟩ (.int .i64 x.nd)).setCell ⟨g, j * 4 + 1, none⟩ (.int .i64 x.co)).setCell ⟨g, j * 4 + 2, none⟩ (.int .i64 x.ns)).setCell ⟨g, j * 4 + 3, none⟩ (.int .i64 x.nx)) B (.slice (some ⟨g, 0, none⟩) q c) q (updW L j x) := by
  have := (((h.stored (j * 4) (.int .i64 x.nd)).1.stored (j * 4 + 1) (.int .i64 x.co)).1.stored (j * 4 + 2) (.int .i64 x.ns)).1.stored (j * 4 + 3) (.int .i64 x.nx)
  rw [encW_set] at this
  exact this.1
theorem put_below {w wr : World} {B g : Nat} (h : Below B w wr) (hg : B ≤ g) (a b c d : Nat) (p q r s : Value) : Below B w ((((wr.setCell ⟨g, a, none⟩ p).setCell ⟨g, b, none⟩ q).setCell ⟨g, c, none⟩ r).setCell ⟨g, d, none⟩ s) :=
  (((h.setCell (p := ⟨g, a, none⟩) hg p).setCell (p := ⟨g, b, none⟩) hg q).setCell (p := ⟨g, c, none⟩) hg r).setCell (p := ⟨g, d, none⟩) hg s
theorem put_other {w : World} {g k : Nat} (a b c d : Nat) (p q r s : Value) (h : k ≠ g) : ((((w.setCell ⟨g, a, none⟩ p).setCell ⟨g, b, none⟩ q).setCell ⟨g, c, none⟩ r).setCell ⟨g, d, none⟩ s).heap[k]? = w.heap[k]? :=
  (Below.heap_setCell _ _ _ k h).trans ((Below.heap_setCell _ _ _ k h).trans ((Below.heap_setCell _ _ _ k h).trans (Below.heap_setCell _ _ _ k h)))
end Go.Proofs.Ytokpdjdpeaccbaa
