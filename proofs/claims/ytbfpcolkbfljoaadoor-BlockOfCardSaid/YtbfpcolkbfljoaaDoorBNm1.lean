/-
  The memory of the reference's search for blocks; touch of the reference.
-/
import Derived.Test.YtbfpcolkbfljoaaDoorBNum
import Derived.Test.YtbfpcolkbfljoaaDoorBLVal
import Derived.Test.YtbfpcolkbfljoaaDoorRWalkHas
import Derived.Deep.OwnRows
namespace Go.Proofs.YtbfpcolkbfljoaaDoor
open Go.RowKit Go.Maps

set_option maxHeartbeats 3200000 in
theorem rtouch_any (p q : Nat) (hp : p ≤ 5) (hq : q ≤ 5) (b : Bool) (hb : tch p q = b) (w : World) : Calls Tryd.prog 101 #[.int .i64 p, .int .i64 q] w fun e w' => e = .returned (.bool b) ∧ Below w.heap.size w w' := by
  rcases (show p = 0 ∨ p = 1 ∨ p = 2 ∨ p = 3 ∨ p = 4 ∨ p = 5 by omega) with rfl | rfl | rfl | rfl | rfl | rfl <;> rcases (show q = 0 ∨ q = 1 ∨ q = 2 ∨ q = 3 ∨ q = 4 ∨ q = 5 by omega) with rfl | rfl | rfl | rfl | rfl | rfl
  all_goals
    clear hp hq
    revert hb
    cases b <;> intro hb
    all_goals first
      | (exfalso; revert hb; decide)
      | (clear hb
         go_enter Tryd.func101, Tryd.ntmps101
         go_wp2_with fail
         go_ret
         exact ⟨rfl, Below.refl _ _⟩)
      | (clear hb
         go_enter Tryd.func101, Tryd.ntmps101
         go_wp2_with fail
         go_quiet (fail)
         go_wp2_with fail
         go_ret
         exact ⟨rfl, Joins.below_draws _ _ _⟩)
theorem run_mkIN (n : Nat) (hn : n ≤ 100000) (w : World) : (Instr.makeSlice 22 (.int .i64 (n : Int)) (.int .i64 (n : Int))).run Tryd.prog w = .ok (.slice (some ⟨w.heap.size, 0, none⟩) n n) (w.alloc (.cells (madeCells #[.int .i64 0] n) 3)) :=
  run_make_row' 22 3 (.int .i64 0) 8 Tryd.underlying22 info3 rfl .i64 .i64 n (by omega) (by omega) w
theorem run_mkBN (n : Nat) (hn : n ≤ 100000) (w : World) : (Instr.makeSlice 23 (.int .i64 (n : Int)) (.int .i64 (n : Int))).run Tryd.prog w = .ok (.slice (some ⟨w.heap.size, 0, none⟩) n n) (w.alloc (.cells (madeCells #[.bool false] n) 4)) :=
  run_make_row' 23 4 (.bool false) 1 Tryd.underlying23 info4 rfl .i64 .i64 n (by omega) (by omega) w
theorem made_int (n : Nat) : (madeCells #[.int .i64 0] n).toList = vals n (iv fun _ => 0) := by
  apply List.ext_getElem?
  intro j
  rw [toList_madeCells_one, List.getElem?_replicate]
  by_cases h : j < n
  · rw [if_pos h, vals_get _ h]
  · rw [if_neg h, List.getElem?_eq_none (by rw [vals_length]; omega)]
theorem made_bool (n : Nat) : (madeCells #[.bool false] n).toList = vals n (bv fun _ => false) := by
  apply List.ext_getElem?
  intro j
  rw [toList_madeCells_one, List.getElem?_replicate]
  by_cases h : j < n
  · rw [if_pos h, vals_get _ h]
  · rw [if_neg h, List.getElem?_eq_none (by rw [vals_length]; omega)]
/-- A row but for its last element. -/
theorem row_cutN {w : World} {B g n c : Nat} {e : TypeId} {xs : List Value} {x : Value} (h : w.ownsRow B e 1 (.slice (some ⟨g, 0, none⟩) (n + 1) c) (n + 1) (xs ++ [x])) : w.ownsRow B e 1 (.slice (some ⟨g, 0, none⟩) n c) n xs := by
  obtain ⟨hl, h⟩ := h
  simp at hl
  rcases h with ⟨hv, _⟩ | ⟨g', cap, cur, hv, hb, hh, hn, hm, hs, ht⟩
  · cases hv
  · cases hv
    refine ⟨by omega, .inr ⟨g, c, cur, rfl, hb, hh, by omega, hm, hs, ?_⟩⟩
    have := congrArg (List.take (n * 1)) ht
    rw [List.take_take] at this
    simp at this ⊢
    rw [this, List.take_append_of_le_length (by omega), List.take_of_length_le (by omega)]
def upK (K : Nat → Bool) (t : Nat) (x : Bool) : Nat → Bool := fun j => if j = t then x else K j
theorem vals_upF (n : Nat) (F : Nat → Int) (t : Nat) (x : Int) : (vals n (iv F)).set t (.int .i64 x) = vals n (iv (upF F t x)) := by
  rw [vals_set]
  exact vals_congr fun i _ => by show (if i = t then _ else Value.int .i64 (F i)) = Value.int .i64 (if i = t then x else F i); split <;> rfl
theorem vals_upK (n : Nat) (K : Nat → Bool) (t : Nat) (x : Bool) : (vals n (bv K)).set t (.bool x) = vals n (bv (upK K t x)) := by
  rw [vals_set]
  exact vals_congr fun i _ => by show (if i = t then _ else Value.bool (K i)) = Value.bool (if i = t then x else K i); split <;> rfl
/-- The marks in memory. -/
structure NO (d : Rl) (A N : Nat) (F : Nat → Int) (w wr : World) : Prop where
  eA : A = w.heap.size
  hA : wr.heap[A]? = some (.cells #[.int .i64 d.W, .int .i64 d.H, d.as, d.bs] 25 (0, 0))
  below : Below A w wr
  out : wr.ownsRow A 3 1 (.slice (some ⟨A + 1, 0, none⟩) (N) (N)) (N) (vals (N) (iv F))
  size : A + 1 < wr.heap.size
  has0 : Has d w
  eN : N = 6 * d.n
section
variable {d : Rl} {A N Q : Nat} {F : Nat → Int} {w wr w' : World}
theorem NO.has (h : NO d A N F w wr) : Has d wr := h.has0.stays (by rw [← h.eA]; exact h.below)
theorem NO.up (h : NO d A N F w wr) (k : Below (A + 2) wr w') : NO d A N F w w' :=
  ⟨h.eA, (k.block A (by omega)).trans h.hA, h.below.trans (k.mono (by omega)), row_below h.out k (fun g hg => by simp [Value.ownBlock] at hg; omega), Nat.lt_of_lt_of_le h.size k.size, h.has0, h.eN⟩
theorem NO.mark (h : NO d A N F w wr) (u : Nat) (x : Int) : NO d A N (upF F u x) w (wr.setCell ⟨A + 1, u, none⟩ (.int .i64 x)) := by
  have r := h.out.stored u (.int .i64 x)
  rw [vals_upF] at r
  exact ⟨h.eA, (Below.heap_setCell _ _ _ A (by simp)).trans h.hA, h.below.setCell (p := ⟨A + 1, u, none⟩) (by show A ≤ A + 1; omega) _, r.1, by simpa using h.size, h.has0, h.eN⟩
theorem NO.cells (h : NO d A N F w wr) : wr.cell? ⟨A, 0, none⟩ = some (.int .i64 d.W) ∧ wr.cell? ⟨A, 1, none⟩ = some (.int .i64 d.H) ∧ wr.cell? ⟨A, 2, none⟩ = some d.as ∧ wr.cell? ⟨A, 3, none⟩ = some d.bs ∧ A < wr.heap.size ∧ A + 1 < wr.heap.size :=
  ⟨cell_of_row wr A 0 _ _ _ h.hA, cell_of_row wr A 1 _ _ _ h.hA, cell_of_row wr A 2 _ _ _ h.hA, cell_of_row wr A 3 _ _ _ h.hA, heap_lt h.hA, h.size⟩
theorem NO.at (h : NO d A N F w wr) {t : Nat} (ht : t < N) : wr.cell? ⟨A + 1, t, none⟩ = some (.int .i64 (F t)) ∧ wr.frozen? ⟨A + 1, t, none⟩ = false :=
  ⟨(h.out.cellAt t (by omega)).trans (vals_get _ ht), h.out.frozenAt t⟩
theorem NO.congr {F' : Nat → Int} (h : NO d A N F w wr) (e : ∀ j, j < N → F j = F' j) : NO d A N F' w wr :=
  ⟨h.eA, h.hA, h.below, by rw [← vals_congr (F := iv F) (G := iv F') (fun i hi => by show Value.int .i64 (F i) = Value.int .i64 (F' i); rw [e i hi])]; exact h.out, h.size, h.has0, h.eN⟩
theorem NO.start (h : Has d w) (hA : A = w.heap.size) (hN : N = 6 * d.n) (hn : d.n ≤ 1024) : NO d A N (fun _ => 0) w ((w.alloc (.cells #[.int .i64 d.W, .int .i64 d.H, d.as, d.bs] 25)).alloc (.cells (madeCells #[.int .i64 0] (N)) 3)) := by
  subst hA
  have r := World.ownsRow_lit (base := w.heap.size) (e := 3) (size := 1) (w.alloc (.cells #[.int .i64 d.W, .int .i64 d.H, d.as, d.bs] 25)) (madeCells #[.int .i64 0] (N)) (N) (by simp) (by unfold maxLen; omega) (by simp [madeCells])
  rw [made_int] at r
  refine ⟨rfl, ?_, Joins.below_alloc2 _ _ _, by simpa using r, by simp, h, hN⟩
  show ((w.heap.push _).push _)[_]? = _
  rw [Array.getElem?_push, if_neg (by simp), Array.getElem?_push, if_pos rfl]
end
/-- The marks and the cuts in memory. -/
structure NM (d : Rl) (A N Q : Nat) (F : Nat → Int) (K : Nat → Bool) (w wr : World) : Prop where
  no : NO d A N F w wr
  cut : wr.ownsRow A 4 1 (.slice (some ⟨A + 2, 0, none⟩) (Q) (Q)) (Q) (vals (Q) (bv K))
  size : A + 2 < wr.heap.size
  eQ : Q = 24 * d.n
section
variable {d : Rl} {A N Q : Nat} {F : Nat → Int} {K : Nat → Bool} {w wr w' : World}
theorem NM.up (h : NM d A N Q F K w wr) (k : Below (A + 3) wr w') : NM d A N Q F K w w' :=
  ⟨h.no.up (k.mono (by omega)), row_below h.cut k (fun g hg => by simp [Value.ownBlock] at hg; omega), Nat.lt_of_lt_of_le h.size k.size, h.eQ⟩
theorem NM.stays (h : NM d A N Q F K w wr) (k : Below wr.heap.size wr w') : NM d A N Q F K w w' := h.up (k.mono (by have := h.size; omega))
theorem NM.mark (h : NM d A N Q F K w wr) (u : Nat) (x : Int) : NM d A N Q (upF F u x) K w (wr.setCell ⟨A + 1, u, none⟩ (.int .i64 x)) :=
  ⟨h.no.mark u x, row_other (a := ⟨A + 1, u, none⟩) h.cut (by simp [Value.ownBlock]) _, by simpa using h.size, h.eQ⟩
theorem NM.stop (h : NM d A N Q F K w wr) (u : Nat) (x : Bool) : NM d A N Q F (upK K u x) w (wr.setCell ⟨A + 2, u, none⟩ (.bool x)) := by
  have r := h.cut.stored u (.bool x)
  rw [vals_upK] at r
  refine ⟨⟨h.no.eA, (Below.heap_setCell _ _ _ A (by simp)).trans h.no.hA, h.no.below.setCell (p := ⟨A + 2, u, none⟩) (by show A ≤ A + 2; omega) _, row_other (a := ⟨A + 2, u, none⟩) h.no.out (by simp [Value.ownBlock]) _, by simpa using h.no.size, h.no.has0, h.no.eN⟩, r.1, by simpa using h.size, h.eQ⟩
theorem NM.cutAt (h : NM d A N Q F K w wr) {t : Nat} (ht : t < Q) : wr.cell? ⟨A + 2, t, none⟩ = some (.bool (K t)) ∧ wr.frozen? ⟨A + 2, t, none⟩ = false :=
  ⟨(h.cut.cellAt t (by omega)).trans (vals_get _ ht), h.cut.frozenAt t⟩
theorem NM.congrK {K' : Nat → Bool} (h : NM d A N Q F K w wr) (e : ∀ j, j < Q → K j = K' j) : NM d A N Q F K' w wr :=
  ⟨h.no, by rw [← vals_congr (F := bv K) (G := bv K') (fun i hi => by show Value.bool (K i) = Value.bool (K' i); rw [e i hi])]; exact h.cut, h.size, h.eQ⟩
theorem NM.start (h : NO d A N F w wr) (hz : A + 2 = wr.heap.size) (hQ : Q = 24 * d.n) (hn : d.n ≤ 1024) : NM d A N Q F (fun _ => false) w (wr.alloc (.cells (madeCells #[.bool false] (Q)) 4)) := by
  have r := World.ownsRow_lit (base := A) (e := 4) (size := 1) wr (madeCells #[.bool false] (Q)) (Q) (by omega) (by unfold maxLen; omega) (by simp [madeCells])
  rw [made_bool, ← hz] at r
  exact ⟨h.up ((Joins.below_alloc1 _ _).mono (by omega)), r, by simp; omega, hQ⟩
end
/-- The marks, the cuts, the stack and the list of what is near in memory. -/
structure NS (d : Rl) (A N Q : Nat) (F : Nat → Int) (K : Nat → Bool) (L : List Nat) (tl : Value) (M : List Nat) (nl : Value) (w wr : World) : Prop where
  nm : NM d A N Q F K w wr
  td : wr.ownsRow (A + 3) 3 1 tl L.length (encN L.reverse)
  nr : wr.ownsRow (A + 3) 3 1 nl M.length (encN M)
  far : ∀ b, tl.ownBlock = some b → nl.ownBlock ≠ some b
section
variable {d : Rl} {A N Q : Nat} {F : Nat → Int} {K : Nat → Bool} {L M : List Nat} {tl nl : Value} {w wr w' : World}
theorem NS.stays (h : NS d A N Q F K L tl M nl w wr) (k : Below wr.heap.size wr w') : NS d A N Q F K L tl M nl w w' :=
  ⟨h.nm.stays k, row_stays h.td k, row_stays h.nr k, h.far⟩
theorem NS.start (h : NM d A N Q F K w wr) (i : Nat) : NS d A N Q F K [i] (.slice (some ⟨wr.heap.size, 0, none⟩) 1 1) [] (.slice none 0 0) w (wr.alloc (.cells #[.int .i64 (i : Nat)] 3)) := by
  have hs := h.size
  exact ⟨h.stays (Joins.below_alloc1 _ _), World.ownsRow_lit wr #[.int .i64 (i : Nat)] 1 (by omega) (by unfold maxLen; omega) rfl, by simpa [encN] using World.ownsRow_nil _ _ _ _, fun b _ h => by cases h⟩
theorem NS.top {t : Nat} (h : NS d A N Q F K (t :: L) tl M nl w wr) : ∃ b c, tl = .slice (some ⟨b, 0, none⟩) (L.length + 1) c ∧ wr.cell? ⟨b, L.length, none⟩ = some (.int .i64 (t : Nat)) ∧ b < wr.heap.size ∧ L.length + 1 ≤ c := by
  obtain ⟨b, c, e, _, _⟩ := h.td.form (by simp)
  have r := h.td
  rw [e, List.reverse_cons, encN_snoc] at r
  refine ⟨b, c, e, (r.cellAt L.length (by simp)).trans ?_, (r.lt b rfl).2, ?_⟩
  · rw [List.getElem?_append_right (by simp [encN_length])]; simp [encN_length]
  · obtain ⟨_, hx⟩ := r
    rcases hx with ⟨hv, _⟩ | ⟨_, _, _, hv, _, _, hle, _⟩
    · cases hv
    · cases hv; simp only [List.length_cons] at hle; omega
theorem NS.cut {t b c : Nat} (h : NS d A N Q F K (t :: L) (.slice (some ⟨b, 0, none⟩) (L.length + 1) c) M nl w wr) : NS d A N Q F K L (.slice (some ⟨b, 0, none⟩) L.length c) [] (.slice none 0 0) w wr := by
  have r := h.td
  rw [List.reverse_cons, encN_snoc] at r
  exact ⟨h.nm, row_cutN r, by simpa [encN] using World.ownsRow_nil _ _ _ _, fun b _ h => by cases h⟩
theorem NS.mark (h : NS d A N Q F K L tl M nl w wr) (u : Nat) (x : Int) : NS d A N Q (upF F u x) K L tl M nl w (wr.setCell ⟨A + 1, u, none⟩ (.int .i64 x)) :=
  ⟨h.nm.mark u x, row_other (a := ⟨A + 1, u, none⟩) h.td (fun e => by have := (h.td.lt _ e).1; simp at this) _, row_other (a := ⟨A + 1, u, none⟩) h.nr (fun e => by have := (h.nr.lt _ e).1; simp at this) _, h.far⟩
/-- One more near. -/
theorem NS.near {x g c : Nat} (h : NS d A N Q F K L tl M nl w wr) (hr : w'.ownsRow (A + 3) 3 1 (.slice (some ⟨g, 0, none⟩) (M.length + 1) c) (M.length + 1) (encN M ++ [.int .i64 (x : Nat)])) (o : Obj) (hg : (wr.alloc o).grownBy w' nl.ownBlock) (hl : nl.ownBlock = some g ∨ g = wr.heap.size + 1) :
    NS d A N Q F K L tl (M ++ [x]) (.slice (some ⟨g, 0, none⟩) (M.length + 1) c) w w' := by
  have hs := h.nm.size
  refine ⟨h.nm.up (grow_below h.nr (by omega) hg), row_same h.td fun q hq => grown_far hg (h.td.lt q hq).2 (h.far q hq), ?_, fun b hb => ?_⟩
  · rw [List.length_append, encN_snoc]; exact hr
  · exact far_new (h.far b hb) (h.td.lt b hb).2 hl (Nat.le_succ _)
/-- One more in the stack. -/
theorem NS.push {x g c : Nat} (h : NS d A N Q F K L tl M nl w wr) (hr : w'.ownsRow (A + 3) 3 1 (.slice (some ⟨g, 0, none⟩) (L.length + 1) c) (L.length + 1) (encN L.reverse ++ [.int .i64 (x : Nat)])) (o : Obj) (hg : (wr.alloc o).grownBy w' tl.ownBlock) (hl : tl.ownBlock = some g ∨ g = wr.heap.size + 1) :
    NS d A N Q F K (x :: L) (.slice (some ⟨g, 0, none⟩) (L.length + 1) c) M nl w w' := by
  have hs := h.nm.size
  have hf : ∀ q, nl.ownBlock = some q → tl.ownBlock ≠ some q := fun q hq e => h.far q e hq
  refine ⟨h.nm.up (grow_below h.td (by omega) hg), ?_, row_same h.nr fun q hq => grown_far hg (h.nr.lt q hq).2 (hf q hq), fun b hb hq => ?_⟩
  · rw [List.reverse_cons, encN_snoc]; exact hr
  · exact far_new (n := 0) (c := 0) (hf b hq) (h.nr.lt b hq).2 hl (Nat.le_succ _) (by simpa [Value.ownBlock] using hb)
theorem NS.drop (h : NS d A N Q F K L tl M nl w wr) : NM d A N Q F K w wr := h.nm
end
end Go.Proofs.YtbfpcolkbfljoaaDoor
