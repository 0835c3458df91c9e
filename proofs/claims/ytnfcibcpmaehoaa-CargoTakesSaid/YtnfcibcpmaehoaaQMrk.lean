/-
  The walk of byMark: its marks in memory.
-/
import Derived.Test.YtnfcibcpmaehoaaQCmp
namespace Go.Proofs.Ytnfcibcpmaehoaa
open Go.RowKit

def mK (p : Par) : Nat → Int | 0 => p.k | 1 => p.f | 2 => p.t | _ => p.a
/-- The two marks in memory. -/
structure BT (p q : Par) (w wr : World) (x y : Nat) : Prop where
  hx : ∀ j, j < 4 → wr.cell? ⟨x, j, none⟩ = some (.int .i64 (mK p j))
  hy : ∀ j, j < 4 → wr.cell? ⟨y, j, none⟩ = some (.int .i64 (mK q j))
  below : Below w.heap.size w wr
/-- The two parcels' boxes, cell by cell. -/
def SB (p q : Par) (w w' : World) : Prop := w'.cell? ⟨w.heap.size, 0, none⟩ = some (.int .i64 p.k) ∧ w'.cell? ⟨w.heap.size, 1, none⟩ = some (.int .i64 p.f) ∧ w'.cell? ⟨w.heap.size, 2, none⟩ = some (.int .i64 p.t) ∧ w'.cell? ⟨w.heap.size, 3, none⟩ = some (.int .i64 p.a) ∧ w'.cell? ⟨w.heap.size, 4, none⟩ = some (.int .i64 p.c) ∧ w'.cell? ⟨w.heap.size, 5, none⟩ = some (.int .i64 p.s) ∧ w'.cell? ⟨w.heap.size + 1, 0, none⟩ = some (.int .i64 q.k) ∧ w'.cell? ⟨w.heap.size + 1, 1, none⟩ = some (.int .i64 q.f) ∧ w'.cell? ⟨w.heap.size + 1, 2, none⟩ = some (.int .i64 q.t) ∧ w'.cell? ⟨w.heap.size + 1, 3, none⟩ = some (.int .i64 q.a) ∧ w'.cell? ⟨w.heap.size + 1, 4, none⟩ = some (.int .i64 q.c) ∧ w'.cell? ⟨w.heap.size + 1, 5, none⟩ = some (.int .i64 q.s)
def tri (k : Nat) (p : Par) : Array Value := if k = 0 then #[.int .i64 0, .int .i64 0, .int .i64 0, .int .i64 0] else #[.int .i64 p.k, .int .i64 p.f, .int .i64 p.t, .int .i64 p.a]
/-- What lies in memory while the region goes: the boxes, the arrays that have been made, empty or filled. -/
structure LB (p q : Par) (w : World) (o5 o6 : Option (Nat × Nat)) (wr : World) : Prop where
  bx : Bx2 w.heap.size 36 36 #[.int .i64 p.k, .int .i64 p.f, .int .i64 p.t, .int .i64 p.a, .int .i64 p.c, .int .i64 p.s] #[.int .i64 q.k, .int .i64 q.f, .int .i64 q.t, .int .i64 q.a, .int .i64 q.c, .int .i64 q.s] w wr
  h5 : ∀ x, o5 = some x → wr.heap[x.1]? = some (.cells (tri x.2 p) 82 (0, 0)) ∧ w.heap.size + 2 ≤ x.1
  h6 : ∀ x, o6 = some x → wr.heap[x.1]? = some (.cells (tri x.2 q) 82 (0, 0)) ∧ w.heap.size + 2 ≤ x.1
  ne : ∀ x y, o5 = some x → o6 = some y → x.1 ≠ y.1
theorem LB.stays {a b : Par} {w wr w' : World} {o5 o6 : Option (Nat × Nat)} (h : LB a b w o5 o6 wr) (k : Below wr.heap.size wr w') : LB a b w o5 o6 w' :=
  ⟨h.bx.stays k, fun p e => ⟨(k.block _ (heap_lt (h.h5 p e).1)).trans (h.h5 p e).1, (h.h5 p e).2⟩, fun p e => ⟨(k.block _ (heap_lt (h.h6 p e).1)).trans (h.h6 p e).1, (h.h6 p e).2⟩, h.ne⟩
theorem LB.s {a b : Par} {w wr : World} {o5 o6 : Option (Nat × Nat)} (h : LB a b w o5 o6 wr) : SB a b w wr :=
  ⟨cell_of_row _ _ 0 _ _ _ h.bx.hb, cell_of_row _ _ 1 _ _ _ h.bx.hb, cell_of_row _ _ 2 _ _ _ h.bx.hb, cell_of_row _ _ 3 _ _ _ h.bx.hb, cell_of_row _ _ 4 _ _ _ h.bx.hb, cell_of_row _ _ 5 _ _ _ h.bx.hb, cell_of_row _ _ 0 _ _ _ h.bx.hr, cell_of_row _ _ 1 _ _ _ h.bx.hr, cell_of_row _ _ 2 _ _ _ h.bx.hr, cell_of_row _ _ 3 _ _ _ h.bx.hr, cell_of_row _ _ 4 _ _ _ h.bx.hr, cell_of_row _ _ 5 _ _ _ h.bx.hr⟩
theorem LB.add5 {a b : Par} {w wr : World} {o6 : Option (Nat × Nat)} (h : LB a b w none o6 wr) : LB a b w (some (wr.heap.size, 0)) o6 (wr.alloc (.cells #[.int .i64 0, .int .i64 0, .int .i64 0, .int .i64 0] 82)) :=
  ⟨(h.stays ((Below.refl _ _).alloc (Nat.le_refl _) _)).bx, fun p e => by cases e; exact ⟨heap_new _ _, heap_lt h.bx.hr⟩, (h.stays ((Below.refl _ _).alloc (Nat.le_refl _) _)).h6, fun p q e e' => by cases e; have := heap_lt (h.h6 q e').1; dsimp only; omega⟩
theorem LB.add6 {a b : Par} {w wr : World} {o5 : Option (Nat × Nat)} (h : LB a b w o5 none wr) : LB a b w o5 (some (wr.heap.size, 0)) (wr.alloc (.cells #[.int .i64 0, .int .i64 0, .int .i64 0, .int .i64 0] 82)) :=
  ⟨(h.stays ((Below.refl _ _).alloc (Nat.le_refl _) _)).bx, (h.stays ((Below.refl _ _).alloc (Nat.le_refl _) _)).h5, fun p e => by cases e; exact ⟨heap_new _ _, heap_lt h.bx.hr⟩, fun p q e e' => by cases e'; have := heap_lt (h.h5 p e).1; dsimp only; omega⟩
theorem tri_at {wr : World} {x : Nat} {a : Par} (h : wr.heap[x]? = some (.cells (tri 0 a) 82 (0, 0))) : wr.cell? ⟨x, 0, none⟩ = some (.int .i64 0) ∧ wr.cell? ⟨x, 1, none⟩ = some (.int .i64 0) ∧ wr.cell? ⟨x, 2, none⟩ = some (.int .i64 0) ∧ wr.cell? ⟨x, 3, none⟩ = some (.int .i64 0) ∧ ∀ j, wr.frozen? ⟨x, j, none⟩ = false :=
  ⟨cell_of_row _ _ 0 _ _ _ h, cell_of_row _ _ 1 _ _ _ h, cell_of_row _ _ 2 _ _ _ h, cell_of_row _ _ 3 _ _ _ h, fun j => frozen_of_row _ _ j _ _ h⟩
theorem LB.at5 {a b : Par} {w wr : World} {x : Nat} {o6 : Option (Nat × Nat)} (h : LB a b w (some (x, 0)) o6 wr) : wr.cell? ⟨x, 0, none⟩ = some (.int .i64 0) ∧ wr.cell? ⟨x, 1, none⟩ = some (.int .i64 0) ∧ wr.cell? ⟨x, 2, none⟩ = some (.int .i64 0) ∧ wr.cell? ⟨x, 3, none⟩ = some (.int .i64 0) ∧ ∀ j, wr.frozen? ⟨x, j, none⟩ = false := tri_at (h.h5 _ rfl).1
theorem LB.at6 {a b : Par} {w wr : World} {x : Nat} {o5 : Option (Nat × Nat)} (h : LB a b w o5 (some (x, 0)) wr) : wr.cell? ⟨x, 0, none⟩ = some (.int .i64 0) ∧ wr.cell? ⟨x, 1, none⟩ = some (.int .i64 0) ∧ wr.cell? ⟨x, 2, none⟩ = some (.int .i64 0) ∧ wr.cell? ⟨x, 3, none⟩ = some (.int .i64 0) ∧ ∀ j, wr.frozen? ⟨x, j, none⟩ = false := tri_at (h.h6 _ rfl).1
theorem set4_other {w : World} {g k : Nat} (p q r s : Value) (h : k ≠ g) : ((((w.setCell ⟨g, 0, none⟩ p).setCell ⟨g, 1, none⟩ q).setCell ⟨g, 2, none⟩ r).setCell ⟨g, 3, none⟩ s).heap[k]? = w.heap[k]? :=
  (Below.heap_setCell _ _ _ k h).trans ((Below.heap_setCell _ _ _ k h).trans ((Below.heap_setCell _ _ _ k h).trans (Below.heap_setCell _ _ _ k h)))
theorem LB.set5 {a b : Par} {w wr : World} {x : Nat} {o6 : Option (Nat × Nat)} (h : LB a b w (some (x, 0)) o6 wr) (a' : Par) (e : a' = a := by rfl) : LB a b w (some (x, 1)) o6 ((((wr.setCell ⟨x, 0, none⟩ (.int .i64 a'.k)).setCell ⟨x, 1, none⟩ (.int .i64 a'.f)).setCell ⟨x, 2, none⟩ (.int .i64 a'.t)).setCell ⟨x, 3, none⟩ (.int .i64 a'.a)) := by
  subst e
  obtain ⟨h1, h2⟩ := h.h5 _ rfl
  exact ⟨⟨set4_below h.bx.below (by show w.heap.size ≤ x; simp at h2; omega) _ _ _ _, (set4_other _ _ _ _ (by simp at h2; omega)).trans h.bx.hb, (set4_other _ _ _ _ (by simp at h2; omega)).trans h.bx.hr⟩, fun p e => by cases e; exact ⟨set4 h1 _ _ _ _, h2⟩, fun p e => ⟨(set4_other _ _ _ _ (Ne.symm (h.ne _ _ rfl e))).trans (h.h6 p e).1, (h.h6 p e).2⟩, fun p q e e' => by cases e; exact h.ne (x, 0) _ rfl e'⟩
theorem LB.set6 {a b : Par} {w wr : World} {x : Nat} {o5 : Option (Nat × Nat)} (h : LB a b w o5 (some (x, 0)) wr) (b' : Par) (e : b' = b := by rfl) : LB a b w o5 (some (x, 1)) ((((wr.setCell ⟨x, 0, none⟩ (.int .i64 b'.k)).setCell ⟨x, 1, none⟩ (.int .i64 b'.f)).setCell ⟨x, 2, none⟩ (.int .i64 b'.t)).setCell ⟨x, 3, none⟩ (.int .i64 b'.a)) := by
  subst e
  obtain ⟨h1, h2⟩ := h.h6 _ rfl
  exact ⟨⟨set4_below h.bx.below (by show w.heap.size ≤ x; simp at h2; omega) _ _ _ _, (set4_other _ _ _ _ (by simp at h2; omega)).trans h.bx.hb, (set4_other _ _ _ _ (by simp at h2; omega)).trans h.bx.hr⟩, fun p e => ⟨(set4_other _ _ _ _ (h.ne _ _ e rfl)).trans (h.h5 p e).1, (h.h5 p e).2⟩, fun p e => by cases e; exact ⟨set4 h1 _ _ _ _, h2⟩, fun p q e e' => by cases e'; exact h.ne _ (x, 0) e rfl⟩
def mrkOps : Array Oper := #[
  { dst := some 7, op := Op.load 36 (Operand.tmp 2), type := 36, pos := "cargo.go:71", after := #[], guard := none },
  { dst := some 8, op := Op.call { callee := Callee.value (Operand.func 69), args := #[Operand.tmp 7], argTypes := #[36] }, type := 82, pos := "cargo.go:71", after := #[{ on := 0, ground := Ground.data }], guard := none },
  { dst := some 9, op := Op.load 36 (Operand.tmp 3), type := 36, pos := "cargo.go:71", after := #[], guard := none },
  { dst := some 10, op := Op.call { callee := Callee.value (Operand.func 69), args := #[Operand.tmp 9], argTypes := #[36] }, type := 82, pos := "cargo.go:71", after := #[{ on := 2, ground := Ground.data }, { on := 1, ground := Ground.chain }], guard := none },
  { dst := some 5, op := Op.alloc 82, type := 0, pos := "cargo.go:71", after := #[], guard := none },
  { dst := some 6, op := Op.alloc 82, type := 0, pos := "cargo.go:71", after := #[], guard := none },
  { dst := none, op := Op.store 82 (Operand.tmp 5) (Operand.tmp 8), type := 0, pos := "cargo.go:71", after := #[{ on := 4, ground := Ground.data }, { on := 1, ground := Ground.data }, { on := 3, ground := Ground.chain }, { on := 0, ground := Ground.phase }, { on := 1, ground := Ground.phase }, { on := 2, ground := Ground.textOnly Departure.lateStores }, { on := 3, ground := Ground.phase }, { on := 4, ground := Ground.phase }, { on := 5, ground := Ground.phase }], guard := none },
  { dst := none, op := Op.store 82 (Operand.tmp 6) (Operand.tmp 10), type := 0, pos := "cargo.go:71", after := #[{ on := 5, ground := Ground.data }, { on := 3, ground := Ground.data }, { on := 6, ground := Ground.chain }, { on := 0, ground := Ground.phase }, { on := 1, ground := Ground.phase }, { on := 2, ground := Ground.phase }, { on := 3, ground := Ground.phase }, { on := 4, ground := Ground.phase }, { on := 5, ground := Ground.phase }, { on := 6, ground := Ground.phase }], guard := none }]
set_option maxRecDepth 100000 in
set_option maxHeartbeats 3200000 in
theorem mrk_region (p q : Par) (w w0 : World) (h0 : LB p q w none none w0) (Q : Exit → Act → World → Prop)
    (hQ : ∀ (wr : World) (x5 x6 : Nat), LB p q w (some (x5, 1)) (some (x6, 1)) wr → Q .normal { tmps := #[pv p, pv q, .pointer (some ⟨w.heap.size, 0, none⟩), .pointer (some ⟨w.heap.size + 1, 0, none⟩), .int .i64 0, .pointer (some ⟨x5, 0, none⟩), .pointer (some ⟨x6, 0, none⟩), pv p, mv p, pv q, mv q, undef, undef, undef], defers := [] } wr) :
    (Code.region 1 mrkOps true).wp Try.prog Q { tmps := #[pv p, pv q, .pointer (some ⟨w.heap.size, 0, none⟩), .pointer (some ⟨w.heap.size + 1, 0, none⟩), .int .i64 0, undef, undef, undef, undef, undef, undef, undef, undef, undef], defers := [] } w0 := by
  refine wp_region_noPanic ?_
  have hQ : ∀ (wr : World) (x5 x6 : Nat), LB p q w (some (x5, 1)) (some (x6, 1)) wr → NoPanic Q .normal { tmps := #[pv p, pv q, .pointer (some ⟨w.heap.size, 0, none⟩), .pointer (some ⟨w.heap.size + 1, 0, none⟩), .int .i64 0, .pointer (some ⟨x5, 0, none⟩), .pointer (some ⟨x6, 0, none⟩), pv p, mv p, pv q, mv q, undef, undef, undef], defers := [] } wr := fun wr x5 x6 h => NoPanic.normal (hQ wr x5 x6 h)
  generalize hQQ : NoPanic Q = Q at hQ ⊢
  have hPQ : ∀ (c : List PanicEntry) (a a' : Act) (w : World), Q (.panic c) a w → Q (.panic c) a' w := fun c a a' w h => by rw [← hQQ] at h ⊢; exact h
  have h1 := h0.stays ((Below.refl _ _).drew)
  have n_1_3_4_5_6_7 : ∀ (wr : World) (x5 x6 : Nat), LB p q w (some (x5, 1)) (some (x6, 1)) wr → wpAnyH Try.prog .any mrkOps Q (fun w' => SB p q w w') 0 #[true, true, true, true, true, true, true, true] { tmps := #[pv p, pv q, .pointer (some ⟨w.heap.size, 0, none⟩), .pointer (some ⟨w.heap.size + 1, 0, none⟩), .int .i64 0, .pointer (some ⟨x5, 0, none⟩), .pointer (some ⟨x6, 0, none⟩), pv p, mv p, pv q, mv q, undef, undef, undef], defers := [] } wr := by
    intro wr x5 x6 HF
    exact wpAnyH_done (by kernel_rfl) (hQ _ _ _ HF) _
  have n_1_3_4_5_6 : ∀ (wr : World) (x5 x6 : Nat), LB p q w (some (x5, 1)) (some (x6, 0)) wr → wpAnyH Try.prog .any mrkOps Q (fun w' => SB p q w w') 1 #[true, true, true, true, true, true, true, false] { tmps := #[pv p, pv q, .pointer (some ⟨w.heap.size, 0, none⟩), .pointer (some ⟨w.heap.size + 1, 0, none⟩), .int .i64 0, .pointer (some ⟨x5, 0, none⟩), .pointer (some ⟨x6, 0, none⟩), pv p, mv p, pv q, mv q, undef, undef, undef], defers := [] } wr := by
    intro wr x5 x6 HF
    refine wpAnyH_ready (rs := [7]) (by kernel_rfl) (by simp) ?_
    refine (AllReadyH.cons (o := { dst := none, op := Op.store 82 (Operand.tmp 6) (Operand.tmp 10), type := 0, pos := "cargo.go:71", after := #[{ on := 5, ground := Ground.data }, { on := 3, ground := Ground.data }, { on := 6, ground := Ground.chain }, { on := 0, ground := Ground.phase }, { on := 1, ground := Ground.phase }, { on := 2, ground := Ground.phase }, { on := 3, ground := Ground.phase }, { on := 4, ground := Ground.phase }, { on := 5, ground := Ground.phase }, { on := 6, ground := Ground.phase }], guard := none }) rfl (fun K hK => ?_) AllReadyH.nil)
    · skip
      obtain ⟨c0, c1, c2, c3, f0⟩ := HF.at6
      have hs6 := HF.set6 q
      go_simp
      refine hK.out _ _ (hs6.s) (fun _ => ?_)
      clear hK K
      exact n_1_3_4_5_6_7 _ (x5) (x6) (hs6)
  have n_1_3_4_5 : ∀ (wr : World) (x5 x6 : Nat), LB p q w (some (x5, 0)) (some (x6, 0)) wr → wpAnyH Try.prog .any mrkOps Q (fun w' => SB p q w w') 2 #[true, true, true, true, true, true, false, false] { tmps := #[pv p, pv q, .pointer (some ⟨w.heap.size, 0, none⟩), .pointer (some ⟨w.heap.size + 1, 0, none⟩), .int .i64 0, .pointer (some ⟨x5, 0, none⟩), .pointer (some ⟨x6, 0, none⟩), pv p, mv p, pv q, mv q, undef, undef, undef], defers := [] } wr := by
    intro wr x5 x6 HF
    refine wpAnyH_ready (rs := [6]) (by kernel_rfl) (by simp) ?_
    refine (AllReadyH.cons (o := { dst := none, op := Op.store 82 (Operand.tmp 5) (Operand.tmp 8), type := 0, pos := "cargo.go:71", after := #[{ on := 4, ground := Ground.data }, { on := 1, ground := Ground.data }, { on := 3, ground := Ground.chain }, { on := 0, ground := Ground.phase }, { on := 1, ground := Ground.phase }, { on := 2, ground := Ground.textOnly Departure.lateStores }, { on := 3, ground := Ground.phase }, { on := 4, ground := Ground.phase }, { on := 5, ground := Ground.phase }], guard := none }) rfl (fun K hK => ?_) AllReadyH.nil)
    · skip
      obtain ⟨c0, c1, c2, c3, f0⟩ := HF.at5
      have hs5 := HF.set5 p
      go_simp
      refine hK.out _ _ (hs5.s) (fun _ => ?_)
      clear hK K
      exact n_1_3_4_5_6 _ (x5) (x6) (hs5)
  have n_1_4_5 : ∀ (wr : World) (x5 x6 : Nat), LB p q w (some (x5, 0)) (some (x6, 0)) wr → wpAnyH Try.prog .any mrkOps Q (fun w' => SB p q w w') 3 #[true, true, true, false, true, true, false, false] { tmps := #[pv p, pv q, .pointer (some ⟨w.heap.size, 0, none⟩), .pointer (some ⟨w.heap.size + 1, 0, none⟩), .int .i64 0, .pointer (some ⟨x5, 0, none⟩), .pointer (some ⟨x6, 0, none⟩), pv p, mv p, pv q, undef, undef, undef, undef], defers := [] } wr := by
    intro wr x5 x6 HF
    refine wpAnyH_ready (rs := [3]) (by kernel_rfl) (by simp) ?_
    refine (AllReadyH.cons (o := { dst := some 10, op := Op.call { callee := Callee.value (Operand.func 69), args := #[Operand.tmp 9], argTypes := #[36] }, type := 82, pos := "cargo.go:71", after := #[{ on := 2, ground := Ground.data }, { on := 1, ground := Ground.chain }], guard := none }) rfl (fun K hK => ?_) AllReadyH.nil)
    · skip
      go_simp
      refine (mark_any q _).mono ?_
      rintro e w2 ⟨rfl, hb⟩
      try go_wp2_with fail
      refine hK.out _ _ ((HF.stays hb).s) (fun _ => ?_)
      clear hK K
      exact n_1_3_4_5 _ (x5) (x6) (HF.stays hb)
  have n_1_3_5 : ∀ (wr : World) (x6 : Nat), LB p q w none (some (x6, 0)) wr → wpAnyH Try.prog .any mrkOps Q (fun w' => SB p q w w') 3 #[true, true, true, true, false, true, false, false] { tmps := #[pv p, pv q, .pointer (some ⟨w.heap.size, 0, none⟩), .pointer (some ⟨w.heap.size + 1, 0, none⟩), .int .i64 0, undef, .pointer (some ⟨x6, 0, none⟩), pv p, mv p, pv q, mv q, undef, undef, undef], defers := [] } wr := by
    intro wr x6 HF
    refine wpAnyH_ready (rs := [4]) (by kernel_rfl) (by simp) ?_
    refine (AllReadyH.cons (o := { dst := some 5, op := Op.alloc 82, type := 0, pos := "cargo.go:71", after := #[], guard := none }) rfl (fun K hK => ?_) AllReadyH.nil)
    · skip
      go_simp
      refine hK.out _ _ (HF.add5.s) (fun _ => ?_)
      clear hK K
      exact n_1_3_4_5 _ (wr.heap.size) (x6) (HF.add5)
  have n_1_3_4 : ∀ (wr : World) (x5 : Nat), LB p q w (some (x5, 0)) none wr → wpAnyH Try.prog .any mrkOps Q (fun w' => SB p q w w') 3 #[true, true, true, true, true, false, false, false] { tmps := #[pv p, pv q, .pointer (some ⟨w.heap.size, 0, none⟩), .pointer (some ⟨w.heap.size + 1, 0, none⟩), .int .i64 0, .pointer (some ⟨x5, 0, none⟩), undef, pv p, mv p, pv q, mv q, undef, undef, undef], defers := [] } wr := by
    intro wr x5 HF
    refine wpAnyH_ready (rs := [5]) (by kernel_rfl) (by simp) ?_
    refine (AllReadyH.cons (o := { dst := some 6, op := Op.alloc 82, type := 0, pos := "cargo.go:71", after := #[], guard := none }) rfl (fun K hK => ?_) AllReadyH.nil)
    · skip
      go_simp
      refine hK.out _ _ (HF.add6.s) (fun _ => ?_)
      clear hK K
      exact n_1_3_4_5 _ (x5) (wr.heap.size) (HF.add6)
  have n_4_5 : ∀ (wr : World) (x5 x6 : Nat), LB p q w (some (x5, 0)) (some (x6, 0)) wr → wpAnyH Try.prog .any mrkOps Q (fun w' => SB p q w w') 4 #[true, false, true, false, true, true, false, false] { tmps := #[pv p, pv q, .pointer (some ⟨w.heap.size, 0, none⟩), .pointer (some ⟨w.heap.size + 1, 0, none⟩), .int .i64 0, .pointer (some ⟨x5, 0, none⟩), .pointer (some ⟨x6, 0, none⟩), pv p, undef, pv q, undef, undef, undef, undef], defers := [] } wr := by
    intro wr x5 x6 HF
    refine wpAnyH_ready (rs := [1]) (by kernel_rfl) (by simp) ?_
    refine (AllReadyH.cons (o := { dst := some 8, op := Op.call { callee := Callee.value (Operand.func 69), args := #[Operand.tmp 7], argTypes := #[36] }, type := 82, pos := "cargo.go:71", after := #[{ on := 0, ground := Ground.data }], guard := none }) rfl (fun K hK => ?_) AllReadyH.nil)
    · skip
      go_simp
      refine (mark_any p _).mono ?_
      rintro e w2 ⟨rfl, hb⟩
      try go_wp2_with fail
      refine hK.out _ _ ((HF.stays hb).s) (fun _ => ?_)
      clear hK K
      exact n_1_4_5 _ (x5) (x6) (HF.stays hb)
  have n_1_5 : ∀ (wr : World) (x6 : Nat), LB p q w none (some (x6, 0)) wr → wpAnyH Try.prog .any mrkOps Q (fun w' => SB p q w w') 4 #[true, true, true, false, false, true, false, false] { tmps := #[pv p, pv q, .pointer (some ⟨w.heap.size, 0, none⟩), .pointer (some ⟨w.heap.size + 1, 0, none⟩), .int .i64 0, undef, .pointer (some ⟨x6, 0, none⟩), pv p, mv p, pv q, undef, undef, undef, undef], defers := [] } wr := by
    intro wr x6 HF
    refine wpAnyH_ready (rs := [3, 4]) (by kernel_rfl) (by simp) ?_
    refine (AllReadyH.cons (o := { dst := some 10, op := Op.call { callee := Callee.value (Operand.func 69), args := #[Operand.tmp 9], argTypes := #[36] }, type := 82, pos := "cargo.go:71", after := #[{ on := 2, ground := Ground.data }, { on := 1, ground := Ground.chain }], guard := none }) rfl (fun K hK => ?_) (AllReadyH.cons (o := { dst := some 5, op := Op.alloc 82, type := 0, pos := "cargo.go:71", after := #[], guard := none }) rfl (fun K hK => ?_) AllReadyH.nil))
    · skip
      go_simp
      refine (mark_any q _).mono ?_
      rintro e w2 ⟨rfl, hb⟩
      try go_wp2_with fail
      refine hK.out _ _ ((HF.stays hb).s) (fun _ => ?_)
      clear hK K
      exact n_1_3_5 _ (x6) (HF.stays hb)
    · skip
      go_simp
      refine hK.out _ _ (HF.add5.s) (fun _ => ?_)
      clear hK K
      exact n_1_4_5 _ (wr.heap.size) (x6) (HF.add5)
  have n_1_4 : ∀ (wr : World) (x5 : Nat), LB p q w (some (x5, 0)) none wr → wpAnyH Try.prog .any mrkOps Q (fun w' => SB p q w w') 4 #[true, true, true, false, true, false, false, false] { tmps := #[pv p, pv q, .pointer (some ⟨w.heap.size, 0, none⟩), .pointer (some ⟨w.heap.size + 1, 0, none⟩), .int .i64 0, .pointer (some ⟨x5, 0, none⟩), undef, pv p, mv p, pv q, undef, undef, undef, undef], defers := [] } wr := by
    intro wr x5 HF
    refine wpAnyH_ready (rs := [3, 5]) (by kernel_rfl) (by simp) ?_
    refine (AllReadyH.cons (o := { dst := some 10, op := Op.call { callee := Callee.value (Operand.func 69), args := #[Operand.tmp 9], argTypes := #[36] }, type := 82, pos := "cargo.go:71", after := #[{ on := 2, ground := Ground.data }, { on := 1, ground := Ground.chain }], guard := none }) rfl (fun K hK => ?_) (AllReadyH.cons (o := { dst := some 6, op := Op.alloc 82, type := 0, pos := "cargo.go:71", after := #[], guard := none }) rfl (fun K hK => ?_) AllReadyH.nil))
    · skip
      go_simp
      refine (mark_any q _).mono ?_
      rintro e w2 ⟨rfl, hb⟩
      try go_wp2_with fail
      refine hK.out _ _ ((HF.stays hb).s) (fun _ => ?_)
      clear hK K
      exact n_1_3_4 _ (x5) (HF.stays hb)
    · skip
      go_simp
      refine hK.out _ _ (HF.add6.s) (fun _ => ?_)
      clear hK K
      exact n_1_4_5 _ (x5) (wr.heap.size) (HF.add6)
  have n_1_3 : ∀ (wr : World), LB p q w none none wr → wpAnyH Try.prog .any mrkOps Q (fun w' => SB p q w w') 4 #[true, true, true, true, false, false, false, false] { tmps := #[pv p, pv q, .pointer (some ⟨w.heap.size, 0, none⟩), .pointer (some ⟨w.heap.size + 1, 0, none⟩), .int .i64 0, undef, undef, pv p, mv p, pv q, mv q, undef, undef, undef], defers := [] } wr := by
    intro wr  HF
    refine wpAnyH_ready (rs := [4, 5]) (by kernel_rfl) (by simp) ?_
    refine (AllReadyH.cons (o := { dst := some 5, op := Op.alloc 82, type := 0, pos := "cargo.go:71", after := #[], guard := none }) rfl (fun K hK => ?_) (AllReadyH.cons (o := { dst := some 6, op := Op.alloc 82, type := 0, pos := "cargo.go:71", after := #[], guard := none }) rfl (fun K hK => ?_) AllReadyH.nil))
    · skip
      go_simp
      refine hK.out _ _ (HF.add5.s) (fun _ => ?_)
      clear hK K
      exact n_1_3_4 _ (wr.heap.size) (HF.add5)
    · skip
      go_simp
      refine hK.out _ _ (HF.add6.s) (fun _ => ?_)
      clear hK K
      exact n_1_3_5 _ (wr.heap.size) (HF.add6)
  have n_5 : ∀ (wr : World) (x6 : Nat), LB p q w none (some (x6, 0)) wr → wpAnyH Try.prog .any mrkOps Q (fun w' => SB p q w w') 5 #[true, false, true, false, false, true, false, false] { tmps := #[pv p, pv q, .pointer (some ⟨w.heap.size, 0, none⟩), .pointer (some ⟨w.heap.size + 1, 0, none⟩), .int .i64 0, undef, .pointer (some ⟨x6, 0, none⟩), pv p, undef, pv q, undef, undef, undef, undef], defers := [] } wr := by
    intro wr x6 HF
    refine wpAnyH_ready (rs := [1, 4]) (by kernel_rfl) (by simp) ?_
    refine (AllReadyH.cons (o := { dst := some 8, op := Op.call { callee := Callee.value (Operand.func 69), args := #[Operand.tmp 7], argTypes := #[36] }, type := 82, pos := "cargo.go:71", after := #[{ on := 0, ground := Ground.data }], guard := none }) rfl (fun K hK => ?_) (AllReadyH.cons (o := { dst := some 5, op := Op.alloc 82, type := 0, pos := "cargo.go:71", after := #[], guard := none }) rfl (fun K hK => ?_) AllReadyH.nil))
    · skip
      go_simp
      refine (mark_any p _).mono ?_
      rintro e w2 ⟨rfl, hb⟩
      try go_wp2_with fail
      refine hK.out _ _ ((HF.stays hb).s) (fun _ => ?_)
      clear hK K
      exact n_1_5 _ (x6) (HF.stays hb)
    · skip
      go_simp
      refine hK.out _ _ (HF.add5.s) (fun _ => ?_)
      clear hK K
      exact n_4_5 _ (wr.heap.size) (x6) (HF.add5)
  have n_4 : ∀ (wr : World) (x5 : Nat), LB p q w (some (x5, 0)) none wr → wpAnyH Try.prog .any mrkOps Q (fun w' => SB p q w w') 5 #[true, false, true, false, true, false, false, false] { tmps := #[pv p, pv q, .pointer (some ⟨w.heap.size, 0, none⟩), .pointer (some ⟨w.heap.size + 1, 0, none⟩), .int .i64 0, .pointer (some ⟨x5, 0, none⟩), undef, pv p, undef, pv q, undef, undef, undef, undef], defers := [] } wr := by
    intro wr x5 HF
    refine wpAnyH_ready (rs := [1, 5]) (by kernel_rfl) (by simp) ?_
    refine (AllReadyH.cons (o := { dst := some 8, op := Op.call { callee := Callee.value (Operand.func 69), args := #[Operand.tmp 7], argTypes := #[36] }, type := 82, pos := "cargo.go:71", after := #[{ on := 0, ground := Ground.data }], guard := none }) rfl (fun K hK => ?_) (AllReadyH.cons (o := { dst := some 6, op := Op.alloc 82, type := 0, pos := "cargo.go:71", after := #[], guard := none }) rfl (fun K hK => ?_) AllReadyH.nil))
    · skip
      go_simp
      refine (mark_any p _).mono ?_
      rintro e w2 ⟨rfl, hb⟩
      try go_wp2_with fail
      refine hK.out _ _ ((HF.stays hb).s) (fun _ => ?_)
      clear hK K
      exact n_1_4 _ (x5) (HF.stays hb)
    · skip
      go_simp
      refine hK.out _ _ (HF.add6.s) (fun _ => ?_)
      clear hK K
      exact n_4_5 _ (x5) (wr.heap.size) (HF.add6)
  have n_1 : ∀ (wr : World), LB p q w none none wr → wpAnyH Try.prog .any mrkOps Q (fun w' => SB p q w w') 5 #[true, true, true, false, false, false, false, false] { tmps := #[pv p, pv q, .pointer (some ⟨w.heap.size, 0, none⟩), .pointer (some ⟨w.heap.size + 1, 0, none⟩), .int .i64 0, undef, undef, pv p, mv p, pv q, undef, undef, undef, undef], defers := [] } wr := by
    intro wr  HF
    refine wpAnyH_ready (rs := [3, 4, 5]) (by kernel_rfl) (by simp) ?_
    refine (AllReadyH.cons (o := { dst := some 10, op := Op.call { callee := Callee.value (Operand.func 69), args := #[Operand.tmp 9], argTypes := #[36] }, type := 82, pos := "cargo.go:71", after := #[{ on := 2, ground := Ground.data }, { on := 1, ground := Ground.chain }], guard := none }) rfl (fun K hK => ?_) (AllReadyH.cons (o := { dst := some 5, op := Op.alloc 82, type := 0, pos := "cargo.go:71", after := #[], guard := none }) rfl (fun K hK => ?_) (AllReadyH.cons (o := { dst := some 6, op := Op.alloc 82, type := 0, pos := "cargo.go:71", after := #[], guard := none }) rfl (fun K hK => ?_) AllReadyH.nil)))
    · skip
      go_simp
      refine (mark_any q _).mono ?_
      rintro e w2 ⟨rfl, hb⟩
      try go_wp2_with fail
      refine hK.out _ _ ((HF.stays hb).s) (fun _ => ?_)
      clear hK K
      exact n_1_3 _  (HF.stays hb)
    · skip
      go_simp
      refine hK.out _ _ (HF.add5.s) (fun _ => ?_)
      clear hK K
      exact n_1_4 _ (wr.heap.size) (HF.add5)
    · skip
      go_simp
      refine hK.out _ _ (HF.add6.s) (fun _ => ?_)
      clear hK K
      exact n_1_5 _ (wr.heap.size) (HF.add6)
  have n_0 : ∀ (wr : World), LB p q w none none wr → wpAnyH Try.prog .any mrkOps Q (fun w' => SB p q w w') 6 #[true, false, true, false, false, false, false, false] { tmps := #[pv p, pv q, .pointer (some ⟨w.heap.size, 0, none⟩), .pointer (some ⟨w.heap.size + 1, 0, none⟩), .int .i64 0, undef, undef, pv p, undef, pv q, undef, undef, undef, undef], defers := [] } wr := by
    intro wr  HF
    refine wpAnyH_ready (rs := [1, 4, 5]) (by kernel_rfl) (by simp) ?_
    refine (AllReadyH.cons (o := { dst := some 8, op := Op.call { callee := Callee.value (Operand.func 69), args := #[Operand.tmp 7], argTypes := #[36] }, type := 82, pos := "cargo.go:71", after := #[{ on := 0, ground := Ground.data }], guard := none }) rfl (fun K hK => ?_) (AllReadyH.cons (o := { dst := some 5, op := Op.alloc 82, type := 0, pos := "cargo.go:71", after := #[], guard := none }) rfl (fun K hK => ?_) (AllReadyH.cons (o := { dst := some 6, op := Op.alloc 82, type := 0, pos := "cargo.go:71", after := #[], guard := none }) rfl (fun K hK => ?_) AllReadyH.nil)))
    · skip
      go_simp
      refine (mark_any p _).mono ?_
      rintro e w2 ⟨rfl, hb⟩
      try go_wp2_with fail
      refine hK.out _ _ ((HF.stays hb).s) (fun _ => ?_)
      clear hK K
      exact n_1 _  (HF.stays hb)
    · skip
      go_simp
      refine hK.out _ _ (HF.add5.s) (fun _ => ?_)
      clear hK K
      exact n_4 _ (wr.heap.size) (HF.add5)
    · skip
      go_simp
      refine hK.out _ _ (HF.add6.s) (fun _ => ?_)
      clear hK K
      exact n_5 _ (wr.heap.size) (HF.add6)
  refine wp_region_held_drew (S := fun w' => SB p q w w') (by kernel_rfl) h1.s (fun hS => ?_)
  refine wpAnyH_take (i := 0) (oi := { dst := some 7, op := Op.load 36 (Operand.tmp 2), type := 36, pos := "cargo.go:71", after := #[], guard := none }) (v := pv p) rfl (by kernel_rfl) (by kernel_rfl) (by kernel_rfl) (fun _ _ _ h => hPQ _ _ _ _ h) (Or.inl ⟨by rfl, ?_⟩) hS ?_
  · intro w' hSw; obtain ⟨c0, c1, c2, c3, c4, c5, d0, d1, d2, d3, d4, d5⟩ := hSw; go_simp; try (with_reducible rfl)
  try simp only [Act.put, List.setIfInBounds_toArray, List.set_cons_zero, List.set_cons_succ]
  refine wpAnyH_take (i := 2) (oi := { dst := some 9, op := Op.load 36 (Operand.tmp 3), type := 36, pos := "cargo.go:71", after := #[], guard := none }) (v := pv q) rfl (by kernel_rfl) (by kernel_rfl) (by kernel_rfl) (fun _ _ _ h => hPQ _ _ _ _ h) (Or.inl ⟨by rfl, ?_⟩) hS ?_
  · intro w' hSw; obtain ⟨c0, c1, c2, c3, c4, c5, d0, d1, d2, d3, d4, d5⟩ := hSw; go_simp; try (with_reducible rfl)
  try simp only [Act.put, List.setIfInBounds_toArray, List.set_cons_zero, List.set_cons_succ]
  exact n_0 _ h1
theorem lb_start (p q : Par) (w : World) : LB p q w none none ((w.alloc (.cells #[.int .i64 p.k, .int .i64 p.f, .int .i64 p.t, .int .i64 p.a, .int .i64 p.c, .int .i64 p.s] 36)).alloc (.cells #[.int .i64 q.k, .int .i64 q.f, .int .i64 q.t, .int .i64 q.a, .int .i64 q.c, .int .i64 q.s] 36)) :=
  ⟨bx2_start w _ _ _ _, fun p e => (by cases e), fun p e => (by cases e), fun p q e => (by cases e)⟩
theorem LB.tri {p q : Par} {w wr : World} {x y : Nat} (h : LB p q w (some (x, 1)) (some (y, 1)) wr) : BT p q w wr x y where
  hx j hj := by
    have h1 := cell_of_row wr x j _ _ _ (h.h5 _ rfl).1
    rw [h1]
    have : j = 0 ∨ j = 1 ∨ j = 2 ∨ j = 3 := by omega
    rcases this with rfl | rfl | rfl | rfl <;> rfl
  hy j hj := by
    have h1 := cell_of_row wr y j _ _ _ (h.h6 _ rfl).1
    rw [h1]
    have : j = 0 ∨ j = 1 ∨ j = 2 ∨ j = 3 := by omega
    rcases this with rfl | rfl | rfl | rfl <;> rfl
  below := h.bx.below
/-- How two parcels stand: -1, 0 or 1. -/
def sg4 (p q : Par) : Int := if lt4 p q then -1 else if lt4 q p then 1 else 0
theorem cmp_of {p q : Par} {r : Int} (h : CmpIs (mK p) (mK q) r) : r = sg4 p q := by
  unfold sg4
  rcases h with ⟨k, hk, he, hne, rfl⟩ | ⟨he, rfl⟩
  · have e0 : 0 < k → p.k = q.k := fun h => he 0 h
    have e1 : 1 < k → p.f = q.f := fun h => he 1 h
    have e2 : 2 < k → p.t = q.t := fun h => he 2 h
    have hk' : k = 0 ∨ k = 1 ∨ k = 2 ∨ k = 3 := by omega
    unfold sgn lt4
    rcases hk' with rfl | rfl | rfl | rfl <;> simp only [mK] at hne ⊢
    · repeat' split
      all_goals omega
    · have := e0 (by omega)
      repeat' split
      all_goals omega
    · have := e0 (by omega)
      have := e1 (by omega)
      repeat' split
      all_goals omega
    · have := e0 (by omega)
      have := e1 (by omega)
      have := e2 (by omega)
      repeat' split
      all_goals omega
  · have e0 : p.k = q.k := he 0 (by omega)
    have e1 : p.f = q.f := he 1 (by omega)
    have e2 : p.t = q.t := he 2 (by omega)
    have e3 : p.a = q.a := he 3 (by omega)
    unfold lt4
    repeat' split
    all_goals omega
set_option maxRecDepth 100000 in
set_option maxHeartbeats 3200000 in
theorem bymark_any (p q : Par) (r : Int) (hr : sg4 p q = r) (w : World) : Calls Try.prog 45 #[pv p, pv q] w fun e w' => e = .returned (.int .i64 r) ∧ Below w.heap.size w w' := by
  have HRR := hid hr
  clear hr
  have h0 := hid (lb_start p q w)
  go_enter Try.func45, Try.ntmps45
  go_wp2
  refine mrk_region p q w _ h0.out _ (fun wr x5 x6 HF => ?_)
  have HT := hid HF.tri
  clear HF h0
  go_wp2_with fail
  go_region_held3 (fun w' => w' = wr.drew)
    (first | rfl | assumption)
    (first
      | (go_at_call 70; (refine (compare_any x5 x6 (mK p) (mK q) _ ?_ ?_).mono ?_); (intro j hj; exact HT.out.hx j hj); (intro j hj; exact HT.out.hy j hj); rintro e w' ⟨r, hr, rfl, rfl⟩))
  have HR := hid (cmp_of hr)
  clear hr
  go_wp2_with fail
  go_ret
  exact ⟨ret_int (by rw [← HRR.out]; exact HR.out), HT.out.below.drew⟩
end Go.Proofs.Ytnfcibcpmaehoaa
