/-
  The walk of better: which of two ways comes first.
-/
import Derived.Test.YtokpdjdpeaccbaaGCmp
namespace Go.Proofs.Ytokpdjdpeaccbaa
open Go.RowKit

def kX (a : Wy) : Nat → Int | 0 => a.co | 1 => a.ns | _ => a.nx
theorem cmp_of {a b : Wy} {r : Int} (h : CmpIs (kX a) (kX b) r) : r < 0 ↔ lt3 a.rk b.rk := by
  simp only [lt3, Wy.rk]
  rcases h with ⟨k, hk, he, hne, rfl⟩ | ⟨he, rfl⟩
  · have e0 : 0 < k → (a.co : Int) = b.co := fun h => he 0 h
    have e1 : 1 < k → (a.ns : Int) = b.ns := fun h => he 1 h
    have hk' : k = 0 ∨ k = 1 ∨ k = 2 := by omega
    unfold sgn
    rcases hk' with rfl | rfl | rfl <;> simp only [kX] at hne ⊢
    · split
      · constructor <;> intro _ <;> omega
      · split <;> constructor <;> intro _ <;> omega
    · have := e0 (by omega)
      split
      · constructor <;> intro _ <;> omega
      · split <;> constructor <;> intro _ <;> omega
    · have := e0 (by omega)
      have := e1 (by omega)
      split
      · constructor <;> intro _ <;> omega
      · split <;> constructor <;> intro _ <;> omega
  · have e0 : (a.co : Int) = b.co := he 0 (by omega)
    have e1 : (a.ns : Int) = b.ns := he 1 (by omega)
    have e2 : a.nx = b.nx := he 2 (by omega)
    omega
theorem heap_new (w : World) (o : Obj) : (w.alloc o).heap[w.heap.size]? = some o := by
  show (w.heap.push o)[_]? = _
  rw [Array.getElem?_push, if_pos rfl]
/-- The two ranks in memory. -/
structure BT (a b : Wy) (w wr : World) (x y : Nat) : Prop where
  hx : ∀ j, j < 3 → wr.cell? ⟨x, j, none⟩ = some (.int .i64 (kX a j))
  hy : ∀ j, j < 3 → wr.cell? ⟨y, j, none⟩ = some (.int .i64 (kX b j))
  below : Below w.heap.size w wr
/-- The two ways' boxes, cell by cell. -/
def SB (a b : Wy) (w w' : World) : Prop := w'.cell? ⟨w.heap.size, 0, none⟩ = some (.int .i64 a.nd) ∧ w'.cell? ⟨w.heap.size, 1, none⟩ = some (.int .i64 a.co) ∧ w'.cell? ⟨w.heap.size, 2, none⟩ = some (.int .i64 a.ns) ∧ w'.cell? ⟨w.heap.size, 3, none⟩ = some (.int .i64 a.nx) ∧
  w'.cell? ⟨w.heap.size + 1, 0, none⟩ = some (.int .i64 b.nd) ∧ w'.cell? ⟨w.heap.size + 1, 1, none⟩ = some (.int .i64 b.co) ∧ w'.cell? ⟨w.heap.size + 1, 2, none⟩ = some (.int .i64 b.ns) ∧ w'.cell? ⟨w.heap.size + 1, 3, none⟩ = some (.int .i64 b.nx)
def tri (k : Nat) (a : Wy) : Array Value := if k = 0 then #[.int .i64 0, .int .i64 0, .int .i64 0] else #[.int .i64 a.co, .int .i64 a.ns, .int .i64 a.nx]
/-- What lies in memory while the region goes: the boxes, the arrays that have been made, empty or filled. -/
structure LB (a b : Wy) (w : World) (o5 o6 : Option (Nat × Nat)) (wr : World) : Prop where
  bx : Bx2 w.heap.size 68 68 #[.int .i64 a.nd, .int .i64 a.co, .int .i64 a.ns, .int .i64 a.nx] #[.int .i64 b.nd, .int .i64 b.co, .int .i64 b.ns, .int .i64 b.nx] w wr
  h5 : ∀ p, o5 = some p → wr.heap[p.1]? = some (.cells (tri p.2 a) 101 (0, 0)) ∧ w.heap.size + 2 ≤ p.1
  h6 : ∀ p, o6 = some p → wr.heap[p.1]? = some (.cells (tri p.2 b) 101 (0, 0)) ∧ w.heap.size + 2 ≤ p.1
  ne : ∀ p q, o5 = some p → o6 = some q → p.1 ≠ q.1
theorem LB.stays {a b : Wy} {w wr w' : World} {o5 o6 : Option (Nat × Nat)} (h : LB a b w o5 o6 wr) (k : Below wr.heap.size wr w') : LB a b w o5 o6 w' :=
  ⟨h.bx.stays k, fun p e => ⟨(k.block _ (heap_lt (h.h5 p e).1)).trans (h.h5 p e).1, (h.h5 p e).2⟩, fun p e => ⟨(k.block _ (heap_lt (h.h6 p e).1)).trans (h.h6 p e).1, (h.h6 p e).2⟩, h.ne⟩
theorem LB.s {a b : Wy} {w wr : World} {o5 o6 : Option (Nat × Nat)} (h : LB a b w o5 o6 wr) : SB a b w wr :=
  ⟨cell_of_row _ _ 0 _ _ _ h.bx.hb, cell_of_row _ _ 1 _ _ _ h.bx.hb, cell_of_row _ _ 2 _ _ _ h.bx.hb, cell_of_row _ _ 3 _ _ _ h.bx.hb, cell_of_row _ _ 0 _ _ _ h.bx.hr, cell_of_row _ _ 1 _ _ _ h.bx.hr, cell_of_row _ _ 2 _ _ _ h.bx.hr, cell_of_row _ _ 3 _ _ _ h.bx.hr⟩
theorem LB.add5 {a b : Wy} {w wr : World} {o6 : Option (Nat × Nat)} (h : LB a b w none o6 wr) : LB a b w (some (wr.heap.size, 0)) o6 (wr.alloc (.cells #[.int .i64 0, .int .i64 0, .int .i64 0] 101)) :=
  ⟨(h.stays ((Below.refl _ _).alloc (Nat.le_refl _) _)).bx, fun p e => by cases e; exact ⟨heap_new _ _, heap_lt h.bx.hr⟩, (h.stays ((Below.refl _ _).alloc (Nat.le_refl _) _)).h6, fun p q e e' => by cases e; have := heap_lt (h.h6 q e').1; dsimp only; omega⟩
theorem LB.add6 {a b : Wy} {w wr : World} {o5 : Option (Nat × Nat)} (h : LB a b w o5 none wr) : LB a b w o5 (some (wr.heap.size, 0)) (wr.alloc (.cells #[.int .i64 0, .int .i64 0, .int .i64 0] 101)) :=
  ⟨(h.stays ((Below.refl _ _).alloc (Nat.le_refl _) _)).bx, (h.stays ((Below.refl _ _).alloc (Nat.le_refl _) _)).h5, fun p e => by cases e; exact ⟨heap_new _ _, heap_lt h.bx.hr⟩, fun p q e e' => by cases e'; have := heap_lt (h.h5 p e).1; dsimp only; omega⟩
theorem tri_at {wr : World} {x : Nat} {a : Wy} (h : wr.heap[x]? = some (.cells (tri 0 a) 101 (0, 0))) : wr.cell? ⟨x, 0, none⟩ = some (.int .i64 0) ∧ wr.cell? ⟨x, 1, none⟩ = some (.int .i64 0) ∧ wr.cell? ⟨x, 2, none⟩ = some (.int .i64 0) ∧ ∀ j, wr.frozen? ⟨x, j, none⟩ = false :=
  ⟨cell_of_row _ _ 0 _ _ _ h, cell_of_row _ _ 1 _ _ _ h, cell_of_row _ _ 2 _ _ _ h, fun j => frozen_of_row _ _ j _ _ h⟩
theorem LB.at5 {a b : Wy} {w wr : World} {x : Nat} {o6 : Option (Nat × Nat)} (h : LB a b w (some (x, 0)) o6 wr) : wr.cell? ⟨x, 0, none⟩ = some (.int .i64 0) ∧ wr.cell? ⟨x, 1, none⟩ = some (.int .i64 0) ∧ wr.cell? ⟨x, 2, none⟩ = some (.int .i64 0) ∧ ∀ j, wr.frozen? ⟨x, j, none⟩ = false := tri_at (h.h5 _ rfl).1
theorem LB.at6 {a b : Wy} {w wr : World} {x : Nat} {o5 : Option (Nat × Nat)} (h : LB a b w o5 (some (x, 0)) wr) : wr.cell? ⟨x, 0, none⟩ = some (.int .i64 0) ∧ wr.cell? ⟨x, 1, none⟩ = some (.int .i64 0) ∧ wr.cell? ⟨x, 2, none⟩ = some (.int .i64 0) ∧ ∀ j, wr.frozen? ⟨x, j, none⟩ = false := tri_at (h.h6 _ rfl).1
theorem set3_other {w : World} {g k : Nat} (p q r : Value) (h : k ≠ g) : (((w.setCell ⟨g, 0, none⟩ p).setCell ⟨g, 1, none⟩ q).setCell ⟨g, 2, none⟩ r).heap[k]? = w.heap[k]? :=
  (Below.heap_setCell _ _ _ k h).trans ((Below.heap_setCell _ _ _ k h).trans (Below.heap_setCell _ _ _ k h))
theorem LB.set5 {a b : Wy} {w wr : World} {x : Nat} {o6 : Option (Nat × Nat)} (h : LB a b w (some (x, 0)) o6 wr) (a' : Wy) (e : a' = a := by rfl) : LB a b w (some (x, 1)) o6 (((wr.setCell ⟨x, 0, none⟩ (.int .i64 a'.co)).setCell ⟨x, 1, none⟩ (.int .i64 a'.ns)).setCell ⟨x, 2, none⟩ (.int .i64 a'.nx)) := by
  subst e
  obtain ⟨h1, h2⟩ := h.h5 _ rfl
  exact ⟨⟨set3_below h.bx.below (by show w.heap.size ≤ x; simp at h2; omega) _ _ _, (set3_other _ _ _ (by simp at h2; omega)).trans h.bx.hb, (set3_other _ _ _ (by simp at h2; omega)).trans h.bx.hr⟩, fun p e => by cases e; exact ⟨set3 h1 _ _ _, h2⟩, fun p e => ⟨(set3_other _ _ _ (Ne.symm (h.ne _ _ rfl e))).trans (h.h6 p e).1, (h.h6 p e).2⟩, fun p q e e' => by cases e; exact h.ne (x, 0) _ rfl e'⟩
theorem LB.set6 {a b : Wy} {w wr : World} {x : Nat} {o5 : Option (Nat × Nat)} (h : LB a b w o5 (some (x, 0)) wr) (b' : Wy) (e : b' = b := by rfl) : LB a b w o5 (some (x, 1)) (((wr.setCell ⟨x, 0, none⟩ (.int .i64 b'.co)).setCell ⟨x, 1, none⟩ (.int .i64 b'.ns)).setCell ⟨x, 2, none⟩ (.int .i64 b'.nx)) := by
  subst e
  obtain ⟨h1, h2⟩ := h.h6 _ rfl
  exact ⟨⟨set3_below h.bx.below (by show w.heap.size ≤ x; simp at h2; omega) _ _ _, (set3_other _ _ _ (by simp at h2; omega)).trans h.bx.hb, (set3_other _ _ _ (by simp at h2; omega)).trans h.bx.hr⟩, fun p e => ⟨(set3_other _ _ _ (h.ne _ _ e rfl)).trans (h.h5 p e).1, (h.h5 p e).2⟩, fun p e => by cases e; exact ⟨set3 h1 _ _ _, h2⟩, fun p q e e' => by cases e'; exact h.ne _ (x, 0) e rfl⟩
def betOps : Array Oper := #[
  { dst := some 7, op := Op.load 68 (Operand.tmp 2), type := 68, pos := "search.go:48", after := #[], guard := none },
  { dst := some 8, op := Op.makeInterface 68 (Operand.tmp 7), type := 20, pos := "search.go:48", after := #[{ on := 0, ground := Ground.data }], guard := none },
  { dst := some 9, op := Op.call { callee := Callee.invoke (Operand.tmp 8) "hinterland/route.rank", args := #[], argTypes := #[] }, type := 101, pos := "search.go:48", after := #[{ on := 1, ground := Ground.data }], guard := none },
  { dst := some 10, op := Op.load 68 (Operand.tmp 3), type := 68, pos := "search.go:48", after := #[], guard := none },
  { dst := some 11, op := Op.makeInterface 68 (Operand.tmp 10), type := 20, pos := "search.go:48", after := #[{ on := 3, ground := Ground.data }], guard := none },
  { dst := some 12, op := Op.call { callee := Callee.invoke (Operand.tmp 11) "hinterland/route.rank", args := #[], argTypes := #[] }, type := 101, pos := "search.go:48", after := #[{ on := 4, ground := Ground.data }, { on := 2, ground := Ground.chain }], guard := none },
  { dst := some 5, op := Op.alloc 101, type := 0, pos := "search.go:48", after := #[], guard := none },
  { dst := some 6, op := Op.alloc 101, type := 0, pos := "search.go:48", after := #[], guard := none },
  { dst := none, op := Op.store 101 (Operand.tmp 5) (Operand.tmp 9), type := 0, pos := "search.go:48", after := #[{ on := 6, ground := Ground.data }, { on := 2, ground := Ground.data }, { on := 5, ground := Ground.chain }, { on := 0, ground := Ground.phase }, { on := 1, ground := Ground.phase }, { on := 2, ground := Ground.phase }, { on := 3, ground := Ground.textOnly Departure.lateStores }, { on := 4, ground := Ground.textOnly Departure.lateStores }, { on := 5, ground := Ground.phase }, { on := 6, ground := Ground.phase }, { on := 7, ground := Ground.phase }], guard := none },
  { dst := none, op := Op.store 101 (Operand.tmp 6) (Operand.tmp 12), type := 0, pos := "search.go:48", after := #[{ on := 7, ground := Ground.data }, { on := 5, ground := Ground.data }, { on := 8, ground := Ground.chain }, { on := 0, ground := Ground.phase }, { on := 1, ground := Ground.phase }, { on := 2, ground := Ground.phase }, { on := 3, ground := Ground.phase }, { on := 4, ground := Ground.phase }, { on := 5, ground := Ground.phase }, { on := 6, ground := Ground.phase }, { on := 7, ground := Ground.phase }, { on := 8, ground := Ground.phase }], guard := none }]
set_option maxRecDepth 100000 in
set_option maxHeartbeats 3200000 in
theorem bet_region (a b : Wy) (w w0 : World) (h0 : LB a b w none none w0) (Q : Exit → Act → World → Prop)
    (hQ : ∀ (wr : World) (x5 x6 : Nat), LB a b w (some (x5, 1)) (some (x6, 1)) wr → Q .normal { tmps := #[wv a, wv b, .pointer (some ⟨w.heap.size, 0, none⟩), .pointer (some ⟨w.heap.size + 1, 0, none⟩), .bool false, .pointer (some ⟨x5, 0, none⟩), .pointer (some ⟨x6, 0, none⟩), wv a, .iface 68 (wv a), kv a, wv b, .iface 68 (wv b), kv b, undef, undef, undef, undef], defers := [] } wr) :
    (Code.region 1 betOps true).wp Try.prog Q { tmps := #[wv a, wv b, .pointer (some ⟨w.heap.size, 0, none⟩), .pointer (some ⟨w.heap.size + 1, 0, none⟩), .bool false, undef, undef, undef, undef, undef, undef, undef, undef, undef, undef, undef, undef], defers := [] } w0 := by
  refine wp_region_noPanic ?_
  have hQ : ∀ (wr : World) (x5 x6 : Nat), LB a b w (some (x5, 1)) (some (x6, 1)) wr → NoPanic Q .normal { tmps := #[wv a, wv b, .pointer (some ⟨w.heap.size, 0, none⟩), .pointer (some ⟨w.heap.size + 1, 0, none⟩), .bool false, .pointer (some ⟨x5, 0, none⟩), .pointer (some ⟨x6, 0, none⟩), wv a, .iface 68 (wv a), kv a, wv b, .iface 68 (wv b), kv b, undef, undef, undef, undef], defers := [] } wr := fun wr x5 x6 h => NoPanic.normal (hQ wr x5 x6 h)
  generalize hQQ : NoPanic Q = Q at hQ ⊢
  have hPQ : ∀ (c : List PanicEntry) (a a' : Act) (w : World), Q (.panic c) a w → Q (.panic c) a' w := fun c a a' w h => by rw [← hQQ] at h ⊢; exact h
  have h1 := h0.stays ((Below.refl _ _).drew)
  have n_2_5_6_7_8_9 : ∀ (wr : World) (x5 x6 : Nat), LB a b w (some (x5, 1)) (some (x6, 1)) wr → wpAnyH Try.prog .any betOps Q (fun w' => SB a b w w') 0 #[true, true, true, true, true, true, true, true, true, true] { tmps := #[wv a, wv b, .pointer (some ⟨w.heap.size, 0, none⟩), .pointer (some ⟨w.heap.size + 1, 0, none⟩), .bool false, .pointer (some ⟨x5, 0, none⟩), .pointer (some ⟨x6, 0, none⟩), wv a, .iface 68 (wv a), kv a, wv b, .iface 68 (wv b), kv b, undef, undef, undef, undef], defers := [] } wr := by
    intro wr x5 x6 HF
    exact wpAnyH_done (by kernel_rfl) (hQ _ _ _ HF) _
  have n_2_5_6_7_8 : ∀ (wr : World) (x5 x6 : Nat), LB a b w (some (x5, 1)) (some (x6, 0)) wr → wpAnyH Try.prog .any betOps Q (fun w' => SB a b w w') 1 #[true, true, true, true, true, true, true, true, true, false] { tmps := #[wv a, wv b, .pointer (some ⟨w.heap.size, 0, none⟩), .pointer (some ⟨w.heap.size + 1, 0, none⟩), .bool false, .pointer (some ⟨x5, 0, none⟩), .pointer (some ⟨x6, 0, none⟩), wv a, .iface 68 (wv a), kv a, wv b, .iface 68 (wv b), kv b, undef, undef, undef, undef], defers := [] } wr := by
    intro wr x5 x6 HF
    refine wpAnyH_ready (rs := [9]) (by kernel_rfl) (by simp) ?_
    refine (AllReadyH.cons (o := { dst := none, op := Op.store 101 (Operand.tmp 6) (Operand.tmp 12), type := 0, pos := "search.go:48", after := #[{ on := 7, ground := Ground.data }, { on := 5, ground := Ground.data }, { on := 8, ground := Ground.chain }, { on := 0, ground := Ground.phase }, { on := 1, ground := Ground.phase }, { on := 2, ground := Ground.phase }, { on := 3, ground := Ground.phase }, { on := 4, ground := Ground.phase }, { on := 5, ground := Ground.phase }, { on := 6, ground := Ground.phase }, { on := 7, ground := Ground.phase }, { on := 8, ground := Ground.phase }], guard := none }) rfl (fun K hK => ?_) AllReadyH.nil)
    · skip
      obtain ⟨c0, c1, c2, f0⟩ := HF.at6
      have hs6 := HF.set6 b
      go_simp
      refine hK.out _ _ (hs6.s) (fun _ => ?_)
      clear hK K
      exact n_2_5_6_7_8_9 _ (x5) (x6) (hs6)
  have n_2_5_6_7 : ∀ (wr : World) (x5 x6 : Nat), LB a b w (some (x5, 0)) (some (x6, 0)) wr → wpAnyH Try.prog .any betOps Q (fun w' => SB a b w w') 2 #[true, true, true, true, true, true, true, true, false, false] { tmps := #[wv a, wv b, .pointer (some ⟨w.heap.size, 0, none⟩), .pointer (some ⟨w.heap.size + 1, 0, none⟩), .bool false, .pointer (some ⟨x5, 0, none⟩), .pointer (some ⟨x6, 0, none⟩), wv a, .iface 68 (wv a), kv a, wv b, .iface 68 (wv b), kv b, undef, undef, undef, undef], defers := [] } wr := by
    intro wr x5 x6 HF
    refine wpAnyH_ready (rs := [8]) (by kernel_rfl) (by simp) ?_
    refine (AllReadyH.cons (o := { dst := none, op := Op.store 101 (Operand.tmp 5) (Operand.tmp 9), type := 0, pos := "search.go:48", after := #[{ on := 6, ground := Ground.data }, { on := 2, ground := Ground.data }, { on := 5, ground := Ground.chain }, { on := 0, ground := Ground.phase }, { on := 1, ground := Ground.phase }, { on := 2, ground := Ground.phase }, { on := 3, ground := Ground.textOnly Departure.lateStores }, { on := 4, ground := Ground.textOnly Departure.lateStores }, { on := 5, ground := Ground.phase }, { on := 6, ground := Ground.phase }, { on := 7, ground := Ground.phase }], guard := none }) rfl (fun K hK => ?_) AllReadyH.nil)
    · skip
      obtain ⟨c0, c1, c2, f0⟩ := HF.at5
      have hs5 := HF.set5 a
      go_simp
      refine hK.out _ _ (hs5.s) (fun _ => ?_)
      clear hK K
      exact n_2_5_6_7_8 _ (x5) (x6) (hs5)
  have n_2_6_7 : ∀ (wr : World) (x5 x6 : Nat), LB a b w (some (x5, 0)) (some (x6, 0)) wr → wpAnyH Try.prog .any betOps Q (fun w' => SB a b w w') 3 #[true, true, true, true, true, false, true, true, false, false] { tmps := #[wv a, wv b, .pointer (some ⟨w.heap.size, 0, none⟩), .pointer (some ⟨w.heap.size + 1, 0, none⟩), .bool false, .pointer (some ⟨x5, 0, none⟩), .pointer (some ⟨x6, 0, none⟩), wv a, .iface 68 (wv a), kv a, wv b, .iface 68 (wv b), undef, undef, undef, undef, undef], defers := [] } wr := by
    intro wr x5 x6 HF
    refine wpAnyH_ready (rs := [5]) (by kernel_rfl) (by simp) ?_
    refine (AllReadyH.cons (o := { dst := some 12, op := Op.call { callee := Callee.invoke (Operand.tmp 11) "hinterland/route.rank", args := #[], argTypes := #[] }, type := 101, pos := "search.go:48", after := #[{ on := 4, ground := Ground.data }, { on := 2, ground := Ground.chain }], guard := none }) rfl (fun K hK => ?_) AllReadyH.nil)
    · skip
      go_simp
      simp only [run_rank]
      go_simp
      refine (rank_any b _).mono ?_
      rintro e w2 ⟨rfl, hb⟩
      try go_wp2_with fail
      refine hK.out _ _ ((HF.stays hb).s) (fun _ => ?_)
      clear hK K
      exact n_2_5_6_7 _ (x5) (x6) (HF.stays hb)
  have n_2_5_7 : ∀ (wr : World) (x6 : Nat), LB a b w none (some (x6, 0)) wr → wpAnyH Try.prog .any betOps Q (fun w' => SB a b w w') 3 #[true, true, true, true, true, true, false, true, false, false] { tmps := #[wv a, wv b, .pointer (some ⟨w.heap.size, 0, none⟩), .pointer (some ⟨w.heap.size + 1, 0, none⟩), .bool false, undef, .pointer (some ⟨x6, 0, none⟩), wv a, .iface 68 (wv a), kv a, wv b, .iface 68 (wv b), kv b, undef, undef, undef, undef], defers := [] } wr := by
    intro wr x6 HF
    refine wpAnyH_ready (rs := [6]) (by kernel_rfl) (by simp) ?_
    refine (AllReadyH.cons (o := { dst := some 5, op := Op.alloc 101, type := 0, pos := "search.go:48", after := #[], guard := none }) rfl (fun K hK => ?_) AllReadyH.nil)
    · skip
      go_simp
      refine hK.out _ _ (HF.add5.s) (fun _ => ?_)
      clear hK K
      exact n_2_5_6_7 _ (wr.heap.size) (x6) (HF.add5)
  have n_2_5_6 : ∀ (wr : World) (x5 : Nat), LB a b w (some (x5, 0)) none wr → wpAnyH Try.prog .any betOps Q (fun w' => SB a b w w') 3 #[true, true, true, true, true, true, true, false, false, false] { tmps := #[wv a, wv b, .pointer (some ⟨w.heap.size, 0, none⟩), .pointer (some ⟨w.heap.size + 1, 0, none⟩), .bool false, .pointer (some ⟨x5, 0, none⟩), undef, wv a, .iface 68 (wv a), kv a, wv b, .iface 68 (wv b), kv b, undef, undef, undef, undef], defers := [] } wr := by
    intro wr x5 HF
    refine wpAnyH_ready (rs := [7]) (by kernel_rfl) (by simp) ?_
    refine (AllReadyH.cons (o := { dst := some 6, op := Op.alloc 101, type := 0, pos := "search.go:48", after := #[], guard := none }) rfl (fun K hK => ?_) AllReadyH.nil)
    · skip
      go_simp
      refine hK.out _ _ (HF.add6.s) (fun _ => ?_)
      clear hK K
      exact n_2_5_6_7 _ (x5) (wr.heap.size) (HF.add6)
  have n_6_7 : ∀ (wr : World) (x5 x6 : Nat), LB a b w (some (x5, 0)) (some (x6, 0)) wr → wpAnyH Try.prog .any betOps Q (fun w' => SB a b w w') 4 #[true, true, false, true, true, false, true, true, false, false] { tmps := #[wv a, wv b, .pointer (some ⟨w.heap.size, 0, none⟩), .pointer (some ⟨w.heap.size + 1, 0, none⟩), .bool false, .pointer (some ⟨x5, 0, none⟩), .pointer (some ⟨x6, 0, none⟩), wv a, .iface 68 (wv a), undef, wv b, .iface 68 (wv b), undef, undef, undef, undef, undef], defers := [] } wr := by
    intro wr x5 x6 HF
    refine wpAnyH_ready (rs := [2]) (by kernel_rfl) (by simp) ?_
    refine (AllReadyH.cons (o := { dst := some 9, op := Op.call { callee := Callee.invoke (Operand.tmp 8) "hinterland/route.rank", args := #[], argTypes := #[] }, type := 101, pos := "search.go:48", after := #[{ on := 1, ground := Ground.data }], guard := none }) rfl (fun K hK => ?_) AllReadyH.nil)
    · skip
      go_simp
      simp only [run_rank]
      go_simp
      refine (rank_any a _).mono ?_
      rintro e w2 ⟨rfl, hb⟩
      try go_wp2_with fail
      refine hK.out _ _ ((HF.stays hb).s) (fun _ => ?_)
      clear hK K
      exact n_2_6_7 _ (x5) (x6) (HF.stays hb)
  have n_2_7 : ∀ (wr : World) (x6 : Nat), LB a b w none (some (x6, 0)) wr → wpAnyH Try.prog .any betOps Q (fun w' => SB a b w w') 4 #[true, true, true, true, true, false, false, true, false, false] { tmps := #[wv a, wv b, .pointer (some ⟨w.heap.size, 0, none⟩), .pointer (some ⟨w.heap.size + 1, 0, none⟩), .bool false, undef, .pointer (some ⟨x6, 0, none⟩), wv a, .iface 68 (wv a), kv a, wv b, .iface 68 (wv b), undef, undef, undef, undef, undef], defers := [] } wr := by
    intro wr x6 HF
    refine wpAnyH_ready (rs := [5, 6]) (by kernel_rfl) (by simp) ?_
    refine (AllReadyH.cons (o := { dst := some 12, op := Op.call { callee := Callee.invoke (Operand.tmp 11) "hinterland/route.rank", args := #[], argTypes := #[] }, type := 101, pos := "search.go:48", after := #[{ on := 4, ground := Ground.data }, { on := 2, ground := Ground.chain }], guard := none }) rfl (fun K hK => ?_) (AllReadyH.cons (o := { dst := some 5, op := Op.alloc 101, type := 0, pos := "search.go:48", after := #[], guard := none }) rfl (fun K hK => ?_) AllReadyH.nil))
    · skip
      go_simp
      simp only [run_rank]
      go_simp
      refine (rank_any b _).mono ?_
      rintro e w2 ⟨rfl, hb⟩
      try go_wp2_with fail
      refine hK.out _ _ ((HF.stays hb).s) (fun _ => ?_)
      clear hK K
      exact n_2_5_7 _ (x6) (HF.stays hb)
    · skip
      go_simp
      refine hK.out _ _ (HF.add5.s) (fun _ => ?_)
      clear hK K
      exact n_2_6_7 _ (wr.heap.size) (x6) (HF.add5)
  have n_2_6 : ∀ (wr : World) (x5 : Nat), LB a b w (some (x5, 0)) none wr → wpAnyH Try.prog .any betOps Q (fun w' => SB a b w w') 4 #[true, true, true, true, true, false, true, false, false, false] { tmps := #[wv a, wv b, .pointer (some ⟨w.heap.size, 0, none⟩), .pointer (some ⟨w.heap.size + 1, 0, none⟩), .bool false, .pointer (some ⟨x5, 0, none⟩), undef, wv a, .iface 68 (wv a), kv a, wv b, .iface 68 (wv b), undef, undef, undef, undef, undef], defers := [] } wr := by
    intro wr x5 HF
    refine wpAnyH_ready (rs := [5, 7]) (by kernel_rfl) (by simp) ?_
    refine (AllReadyH.cons (o := { dst := some 12, op := Op.call { callee := Callee.invoke (Operand.tmp 11) "hinterland/route.rank", args := #[], argTypes := #[] }, type := 101, pos := "search.go:48", after := #[{ on := 4, ground := Ground.data }, { on := 2, ground := Ground.chain }], guard := none }) rfl (fun K hK => ?_) (AllReadyH.cons (o := { dst := some 6, op := Op.alloc 101, type := 0, pos := "search.go:48", after := #[], guard := none }) rfl (fun K hK => ?_) AllReadyH.nil))
    · skip
      go_simp
      simp only [run_rank]
      go_simp
      refine (rank_any b _).mono ?_
      rintro e w2 ⟨rfl, hb⟩
      try go_wp2_with fail
      refine hK.out _ _ ((HF.stays hb).s) (fun _ => ?_)
      clear hK K
      exact n_2_5_6 _ (x5) (HF.stays hb)
    · skip
      go_simp
      refine hK.out _ _ (HF.add6.s) (fun _ => ?_)
      clear hK K
      exact n_2_6_7 _ (x5) (wr.heap.size) (HF.add6)
  have n_2_5 : ∀ (wr : World), LB a b w none none wr → wpAnyH Try.prog .any betOps Q (fun w' => SB a b w w') 4 #[true, true, true, true, true, true, false, false, false, false] { tmps := #[wv a, wv b, .pointer (some ⟨w.heap.size, 0, none⟩), .pointer (some ⟨w.heap.size + 1, 0, none⟩), .bool false, undef, undef, wv a, .iface 68 (wv a), kv a, wv b, .iface 68 (wv b), kv b, undef, undef, undef, undef], defers := [] } wr := by
    intro wr  HF
    refine wpAnyH_ready (rs := [6, 7]) (by kernel_rfl) (by simp) ?_
    refine (AllReadyH.cons (o := { dst := some 5, op := Op.alloc 101, type := 0, pos := "search.go:48", after := #[], guard := none }) rfl (fun K hK => ?_) (AllReadyH.cons (o := { dst := some 6, op := Op.alloc 101, type := 0, pos := "search.go:48", after := #[], guard := none }) rfl (fun K hK => ?_) AllReadyH.nil))
    · skip
      go_simp
      refine hK.out _ _ (HF.add5.s) (fun _ => ?_)
      clear hK K
      exact n_2_5_6 _ (wr.heap.size) (HF.add5)
    · skip
      go_simp
      refine hK.out _ _ (HF.add6.s) (fun _ => ?_)
      clear hK K
      exact n_2_5_7 _ (wr.heap.size) (HF.add6)
  have n_7 : ∀ (wr : World) (x6 : Nat), LB a b w none (some (x6, 0)) wr → wpAnyH Try.prog .any betOps Q (fun w' => SB a b w w') 5 #[true, true, false, true, true, false, false, true, false, false] { tmps := #[wv a, wv b, .pointer (some ⟨w.heap.size, 0, none⟩), .pointer (some ⟨w.heap.size + 1, 0, none⟩), .bool false, undef, .pointer (some ⟨x6, 0, none⟩), wv a, .iface 68 (wv a), undef, wv b, .iface 68 (wv b), undef, undef, undef, undef, undef], defers := [] } wr := by
    intro wr x6 HF
    refine wpAnyH_ready (rs := [2, 6]) (by kernel_rfl) (by simp) ?_
    refine (AllReadyH.cons (o := { dst := some 9, op := Op.call { callee := Callee.invoke (Operand.tmp 8) "hinterland/route.rank", args := #[], argTypes := #[] }, type := 101, pos := "search.go:48", after := #[{ on := 1, ground := Ground.data }], guard := none }) rfl (fun K hK => ?_) (AllReadyH.cons (o := { dst := some 5, op := Op.alloc 101, type := 0, pos := "search.go:48", after := #[], guard := none }) rfl (fun K hK => ?_) AllReadyH.nil))
    · skip
      go_simp
      simp only [run_rank]
      go_simp
      refine (rank_any a _).mono ?_
      rintro e w2 ⟨rfl, hb⟩
      try go_wp2_with fail
      refine hK.out _ _ ((HF.stays hb).s) (fun _ => ?_)
      clear hK K
      exact n_2_7 _ (x6) (HF.stays hb)
    · skip
      go_simp
      refine hK.out _ _ (HF.add5.s) (fun _ => ?_)
      clear hK K
      exact n_6_7 _ (wr.heap.size) (x6) (HF.add5)
  have n_6 : ∀ (wr : World) (x5 : Nat), LB a b w (some (x5, 0)) none wr → wpAnyH Try.prog .any betOps Q (fun w' => SB a b w w') 5 #[true, true, false, true, true, false, true, false, false, false] { tmps := #[wv a, wv b, .pointer (some ⟨w.heap.size, 0, none⟩), .pointer (some ⟨w.heap.size + 1, 0, none⟩), .bool false, .pointer (some ⟨x5, 0, none⟩), undef, wv a, .iface 68 (wv a), undef, wv b, .iface 68 (wv b), undef, undef, undef, undef, undef], defers := [] } wr := by
    intro wr x5 HF
    refine wpAnyH_ready (rs := [2, 7]) (by kernel_rfl) (by simp) ?_
    refine (AllReadyH.cons (o := { dst := some 9, op := Op.call { callee := Callee.invoke (Operand.tmp 8) "hinterland/route.rank", args := #[], argTypes := #[] }, type := 101, pos := "search.go:48", after := #[{ on := 1, ground := Ground.data }], guard := none }) rfl (fun K hK => ?_) (AllReadyH.cons (o := { dst := some 6, op := Op.alloc 101, type := 0, pos := "search.go:48", after := #[], guard := none }) rfl (fun K hK => ?_) AllReadyH.nil))
    · skip
      go_simp
      simp only [run_rank]
      go_simp
      refine (rank_any a _).mono ?_
      rintro e w2 ⟨rfl, hb⟩
      try go_wp2_with fail
      refine hK.out _ _ ((HF.stays hb).s) (fun _ => ?_)
      clear hK K
      exact n_2_6 _ (x5) (HF.stays hb)
    · skip
      go_simp
      refine hK.out _ _ (HF.add6.s) (fun _ => ?_)
      clear hK K
      exact n_6_7 _ (x5) (wr.heap.size) (HF.add6)
  have n_2 : ∀ (wr : World), LB a b w none none wr → wpAnyH Try.prog .any betOps Q (fun w' => SB a b w w') 5 #[true, true, true, true, true, false, false, false, false, false] { tmps := #[wv a, wv b, .pointer (some ⟨w.heap.size, 0, none⟩), .pointer (some ⟨w.heap.size + 1, 0, none⟩), .bool false, undef, undef, wv a, .iface 68 (wv a), kv a, wv b, .iface 68 (wv b), undef, undef, undef, undef, undef], defers := [] } wr := by
    intro wr  HF
    refine wpAnyH_ready (rs := [5, 6, 7]) (by kernel_rfl) (by simp) ?_
    refine (AllReadyH.cons (o := { dst := some 12, op := Op.call { callee := Callee.invoke (Operand.tmp 11) "hinterland/route.rank", args := #[], argTypes := #[] }, type := 101, pos := "search.go:48", after := #[{ on := 4, ground := Ground.data }, { on := 2, ground := Ground.chain }], guard := none }) rfl (fun K hK => ?_) (AllReadyH.cons (o := { dst := some 5, op := Op.alloc 101, type := 0, pos := "search.go:48", after := #[], guard := none }) rfl (fun K hK => ?_) (AllReadyH.cons (o := { dst := some 6, op := Op.alloc 101, type := 0, pos := "search.go:48", after := #[], guard := none }) rfl (fun K hK => ?_) AllReadyH.nil)))
    · skip
      go_simp
      simp only [run_rank]
      go_simp
      refine (rank_any b _).mono ?_
      rintro e w2 ⟨rfl, hb⟩
      try go_wp2_with fail
      refine hK.out _ _ ((HF.stays hb).s) (fun _ => ?_)
      clear hK K
      exact n_2_5 _  (HF.stays hb)
    · skip
      go_simp
      refine hK.out _ _ (HF.add5.s) (fun _ => ?_)
      clear hK K
      exact n_2_6 _ (wr.heap.size) (HF.add5)
    · skip
      go_simp
      refine hK.out _ _ (HF.add6.s) (fun _ => ?_)
      clear hK K
      exact n_2_7 _ (wr.heap.size) (HF.add6)
  have n_0 : ∀ (wr : World), LB a b w none none wr → wpAnyH Try.prog .any betOps Q (fun w' => SB a b w w') 6 #[true, true, false, true, true, false, false, false, false, false] { tmps := #[wv a, wv b, .pointer (some ⟨w.heap.size, 0, none⟩), .pointer (some ⟨w.heap.size + 1, 0, none⟩), .bool false, undef, undef, wv a, .iface 68 (wv a), undef, wv b, .iface 68 (wv b), undef, undef, undef, undef, undef], defers := [] } wr := by
    intro wr  HF
    refine wpAnyH_ready (rs := [2, 6, 7]) (by kernel_rfl) (by simp) ?_
    refine (AllReadyH.cons (o := { dst := some 9, op := Op.call { callee := Callee.invoke (Operand.tmp 8) "hinterland/route.rank", args := #[], argTypes := #[] }, type := 101, pos := "search.go:48", after := #[{ on := 1, ground := Ground.data }], guard := none }) rfl (fun K hK => ?_) (AllReadyH.cons (o := { dst := some 5, op := Op.alloc 101, type := 0, pos := "search.go:48", after := #[], guard := none }) rfl (fun K hK => ?_) (AllReadyH.cons (o := { dst := some 6, op := Op.alloc 101, type := 0, pos := "search.go:48", after := #[], guard := none }) rfl (fun K hK => ?_) AllReadyH.nil)))
    · skip
      go_simp
      simp only [run_rank]
      go_simp
      refine (rank_any a _).mono ?_
      rintro e w2 ⟨rfl, hb⟩
      try go_wp2_with fail
      refine hK.out _ _ ((HF.stays hb).s) (fun _ => ?_)
      clear hK K
      exact n_2 _  (HF.stays hb)
    · skip
      go_simp
      refine hK.out _ _ (HF.add5.s) (fun _ => ?_)
      clear hK K
      exact n_6 _ (wr.heap.size) (HF.add5)
    · skip
      go_simp
      refine hK.out _ _ (HF.add6.s) (fun _ => ?_)
      clear hK K
      exact n_7 _ (wr.heap.size) (HF.add6)
  refine wp_region_held_drew (S := fun w' => SB a b w w') (by kernel_rfl) h1.s (fun hS => ?_)
  refine wpAnyH_take (i := 0) (oi := { dst := some 7, op := Op.load 68 (Operand.tmp 2), type := 68, pos := "search.go:48", after := #[], guard := none }) (v := wv a) rfl (by kernel_rfl) (by kernel_rfl) (by kernel_rfl) (fun _ _ _ h => hPQ _ _ _ _ h) (Or.inl ⟨by rfl, ?_⟩) hS ?_
  · intro w' hSw; obtain ⟨c0, c1, c2, c3, d0, d1, d2, d3⟩ := hSw; go_simp; try (with_reducible rfl)
  try simp only [Act.put, List.setIfInBounds_toArray, List.set_cons_zero, List.set_cons_succ]
  refine wpAnyH_take (i := 1) (oi := { dst := some 8, op := Op.makeInterface 68 (Operand.tmp 7), type := 20, pos := "search.go:48", after := #[{ on := 0, ground := Ground.data }], guard := none }) (v := .iface 68 (wv a)) rfl (by kernel_rfl) (by kernel_rfl) (by kernel_rfl) (fun _ _ _ h => hPQ _ _ _ _ h) (Or.inl ⟨by rfl, ?_⟩) hS ?_
  · intro w' hSw; obtain ⟨c0, c1, c2, c3, d0, d1, d2, d3⟩ := hSw; go_simp; try (with_reducible rfl)
  try simp only [Act.put, List.setIfInBounds_toArray, List.set_cons_zero, List.set_cons_succ]
  refine wpAnyH_take (i := 3) (oi := { dst := some 10, op := Op.load 68 (Operand.tmp 3), type := 68, pos := "search.go:48", after := #[], guard := none }) (v := wv b) rfl (by kernel_rfl) (by kernel_rfl) (by kernel_rfl) (fun _ _ _ h => hPQ _ _ _ _ h) (Or.inl ⟨by rfl, ?_⟩) hS ?_
  · intro w' hSw; obtain ⟨c0, c1, c2, c3, d0, d1, d2, d3⟩ := hSw; go_simp; try (with_reducible rfl)
  try simp only [Act.put, List.setIfInBounds_toArray, List.set_cons_zero, List.set_cons_succ]
  refine wpAnyH_take (i := 4) (oi := { dst := some 11, op := Op.makeInterface 68 (Operand.tmp 10), type := 20, pos := "search.go:48", after := #[{ on := 3, ground := Ground.data }], guard := none }) (v := .iface 68 (wv b)) rfl (by kernel_rfl) (by kernel_rfl) (by kernel_rfl) (fun _ _ _ h => hPQ _ _ _ _ h) (Or.inl ⟨by rfl, ?_⟩) hS ?_
  · intro w' hSw; obtain ⟨c0, c1, c2, c3, d0, d1, d2, d3⟩ := hSw; go_simp; try (with_reducible rfl)
  try simp only [Act.put, List.setIfInBounds_toArray, List.set_cons_zero, List.set_cons_succ]
  exact n_0 _ h1
end Go.Proofs.Ytokpdjdpeaccbaa
