/-
  Rows of parcels that are told as lists; two of them side by side.
-/
import Derived.Test.YtnfcibcpmaehoaaQSeg
import Derived.Test.YtnfcibcpmaehoaaQRo2
namespace Go.Proofs.Ytnfcibcpmaehoaa
open Go.RowKit

def p0 : Par := ⟨0, 0, 0, 0, 0, 0⟩
def lf (l : List Par) : Nat → Par := fun i => l.getD i p0
theorem lf_at (l : List Par) {i : Nat} (h : i < l.length) : lf l i = l[i] := getD_is l p0 h
theorem lf_snoc_old (l : List Par) (x : Par) {i : Nat} (h : i < l.length) : lf (l ++ [x]) i = lf l i := by
  rw [lf_at _ h, lf_at _ (by simp; omega), List.getElem_append_left h]
theorem lf_snoc_new (l : List Par) (x : Par) : lf (l ++ [x]) l.length = x := by
  rw [lf_at _ (by simp), List.getElem_append_right (Nat.le_refl _)]; simp
theorem encP_snoc (l : List Par) (x : Par) : encP (l.length + 1) (lf (l ++ [x])) = encP l.length (lf l) ++ pc x := by
  rw [encP_succ, lf_snoc_new, encP_congr fun i hi => lf_snoc_old l x hi]
/-- A row of these parcels. -/
abbrev RowL (w : World) (B : Nat) (v : Value) (l : List Par) : Prop := RowP w B v l.length (lf l)
theorem RowL.app {w' : World} {B : Nat} {v' : Value} {l : List Par} {x : Par} (h : w'.ownsRow B 36 6 v' (l.length + 1) (encP l.length (lf l) ++ pc x)) : RowL w' B v' (l ++ [x]) := by
  show w'.ownsRow B _ 6 v' (l ++ [x]).length (encP (l ++ [x]).length _)
  rw [List.length_append, show [x].length = 1 from rfl, encP_snoc]
  exact h
theorem pc_one (x : Par) : ∀ u ∈ pc x, u.oneCell' = true := fun u hu => by
  simp [pc] at hu
  rcases hu with rfl | rfl | rfl | rfl | rfl | rfl <;> rfl
theorem pc_new (w : World) (x : Par) : ∀ (j : Nat) (u : Value), (pc x)[j]? = some u → (w.alloc (.cells #[.int .i64 x.k, .int .i64 x.f, .int .i64 x.t, .int .i64 x.a, .int .i64 x.c, .int .i64 x.s] 36)).cell? (Addr.add ⟨w.heap.size, 0, none⟩ j) = some u := fun j u hu => by
  have hj : j < 6 := (List.getElem?_eq_some_iff.1 hu).1
  rw [Addr.add_lit, Nat.zero_add]
  rw [cell_of_row _ _ j _ _ _ (heap_new w _)]
  have : j = 0 ∨ j = 1 ∨ j = 2 ∨ j = 3 ∨ j = 4 ∨ j = 5 := by omega
  rcases this with rfl | rfl | rfl | rfl | rfl | rfl <;> exact hu
theorem pc_at (w : World) (x : Par) (X : Nat) (h : w.heap.size = X) : ∀ (j : Nat) (u : Value), (pc x)[j]? = some u → (w.alloc (.cells #[.int .i64 x.k, .int .i64 x.f, .int .i64 x.t, .int .i64 x.a, .int .i64 x.c, .int .i64 x.s] 36)).cell? (Addr.add ⟨X, 0, none⟩ j) = some u := by
  rw [← h]; exact pc_new w x
/-- Two rows side by side, and nothing below has turned. -/
structure TK (B : Nat) (tl ll : List Par) (tv lv : Value) (w wr : World) : Prop where
  t : RowL wr B tv tl
  l : RowL wr B lv ll
  ne : ∀ k, tv.ownBlock = some k → lv.ownBlock ≠ some k
  below : Below B w wr
  size : B ≤ wr.heap.size
section
variable {B : Nat} {tl ll : List Par} {tv lv : Value} {w wr w' : World}
theorem TK.stays (h : TK B tl ll tv lv w wr) (k : Below wr.heap.size wr w') : TK B tl ll tv lv w w' :=
  ⟨row_stays h.t k, row_stays h.l k, h.ne, h.below.trans (k.mono h.size), Nat.le_trans h.size k.size⟩
theorem TK.swap (h : TK B tl ll tv lv w wr) : TK B ll tl lv tv w wr := ⟨h.l, h.t, fun k hk e => h.ne k e hk, h.below, h.size⟩
theorem TK.app (h : TK B tl ll tv lv w wr) {x : Par} {g c : Nat} {o : Obj} (hr : w'.ownsRow B 36 6 (.slice (some ⟨g, 0, none⟩) (tl.length + 1) c) (tl.length + 1) (encP tl.length (lf tl) ++ pc x)) (hg : (wr.alloc o).grownBy w' tv.ownBlock) (hat : tv.ownBlock = some g ∨ g = wr.heap.size + 1) : TK B (tl ++ [x]) ll (.slice (some ⟨g, 0, none⟩) (tl.length + 1) c) lv w w' := by
  have ho : ∀ k, tv.ownBlock = some k → B ≤ k := fun k hk => (h.t.lt k hk).1
  have hb : Below B wr w' := ((Below.refl _ wr).alloc h.size o).grown hg (by simp; have := h.size; omega) ho
  have hne : lv.ownBlock = none ∨ lv.ownBlock ≠ tv.ownBlock := by
    by_cases c : lv.ownBlock = none
    · exact .inl c
    · refine .inr fun e => ?_
      cases hx : tv.ownBlock with
      | none => rw [hx] at e; exact c e
      | some k => exact h.ne k hx (e.trans hx)
  refine ⟨RowL.app hr, (h.l.alloc o).kept hg hne, fun k hk e => ?_, h.below.trans hb, Nat.le_trans h.size hb.size⟩
  simp [Value.ownBlock] at hk
  subst hk
  rcases hat with c | c
  · exact h.ne _ c e
  · have := (h.l.lt _ e).2; omega
end
end Go.Proofs.Ytnfcibcpmaehoaa
