/-
  The walk of push: a way is put into a queue.
-/
import Derived.Test.YtokpdjdpeaccbaaGHeap
namespace Go.Proofs.Ytokpdjdpeaccbaa
open Go.RowKit

theorem above_any (a p : Nat) (h0 : 0 < a) (ha : a ≤ 1000000000) (hp : (a - 1) / 2 = p) (w : World) : Calls Try.prog 86 #[.int .i64 a] w fun e w' => e = .returned (.int .i64 p) ∧ w = w' := by
  have e1 : ((a : Int) - 1).tdiv 2 = (p : Int) := by rw [Int.tdiv_eq_ediv_of_nonneg (by omega)]; omega
  have e2 : ((a : Int) - 1) / 2 = (p : Int) := by omega
  go_enter Try.func86, Try.ntmps86
  go_wp2
  go_ret
  exact ⟨rfl, rfl⟩
/-- The queue's box and its row may have turned, and nothing else. -/
structure QTurn (o : Nat) (v v' : Value) (w w' : World) : Prop where
  os : w'.os = w.os
  tape : w'.tape = w.tape
  output : w'.output = w.output
  size : w.heap.size ≤ w'.heap.size
  block : ∀ k, k < w.heap.size → k ≠ o → v.ownBlock ≠ some k → w'.heap[k]? = w.heap[k]?
  own : ∀ k, k < w.heap.size → v'.ownBlock = some k → v.ownBlock = some k
theorem QTurn.refl (o : Nat) (v : Value) (w : World) : QTurn o v v w w := ⟨rfl, rfl, rfl, Nat.le_refl _, fun _ _ _ _ => rfl, fun _ _ h => h⟩
theorem QTurn.trans {o : Nat} {v v' v'' : Value} {a b c : World} (h : QTurn o v v' a b) (k : QTurn o v' v'' b c) : QTurn o v v'' a c :=
  ⟨k.os.trans h.os, k.tape.trans h.tape, k.output.trans h.output, Nat.le_trans h.size k.size, fun i hi hne hv => (k.block i (Nat.lt_of_lt_of_le hi h.size) hne (fun e => hv (h.own i hi e))).trans (h.block i hi hne hv), fun i hi hv => h.own i hi (k.own i (Nat.lt_of_lt_of_le hi h.size) hv)⟩
theorem QTurn.of_below {o : Nat} (v : Value) {w w' : World} (h : Below w.heap.size w w') : QTurn o v v w w' := ⟨h.os, h.tape, h.output, h.size, fun k hk _ _ => h.block k hk, fun _ _ h => h⟩
/-- A queue in memory. -/
structure QM (o B : Nat) (v : Value) (q : Nat) (L : Nat → Wy) (w : World) : Prop where
  box : w.heap[o]? = some (.cells #[v] 113 (0, 0))
  row : RowW w B v q L
theorem QM.stays {o B : Nat} {v : Value} {q : Nat} {L : Nat → Wy} {w w' : World} (h : QM o B v q L w) (k : Below w.heap.size w w') : QM o B v q L w' :=
  ⟨(k.block o (heap_lt h.box)).trans h.box, row_stays h.row k⟩
theorem QM.ne {o B : Nat} {v : Value} {q : Nat} {L : Nat → Wy} {w : World} (h : QM o B v q L w) : v.ownBlock ≠ some o := by
  rcases h.row.2 with ⟨rfl, _⟩ | ⟨g, cap, cur, rfl, _, hg, _⟩
  · simp [Value.ownBlock]
  · intro e
    simp [Value.ownBlock] at e
    subst e
    rw [h.box] at hg
    injection hg with hg
    injection hg with _ hg _
    exact absurd hg (by decide)
/-- Two elements, cell by cell. -/
theorem qm_keep {o B g q c : Nat} {L : Nat → Wy} {i j : Nat} {X : Prop} {w w' : World} (hi : i < q) (hj : j < q) (h : QM o B (.slice (some ⟨g, 0, none⟩) q c) q L w ∧ X) (k : Below w.heap.size w w') :
    QM o B (.slice (some ⟨g, 0, none⟩) q c) q L w' ∧ w'.cell? ⟨g, i * 4, none⟩ = some (.int .i64 (L i).nd) ∧ w'.cell? ⟨g, i * 4 + 1, none⟩ = some (.int .i64 (L i).co) ∧ w'.cell? ⟨g, i * 4 + 2, none⟩ = some (.int .i64 (L i).ns) ∧ w'.cell? ⟨g, i * 4 + 3, none⟩ = some (.int .i64 (L i).nx) ∧
      w'.cell? ⟨g, j * 4, none⟩ = some (.int .i64 (L j).nd) ∧ w'.cell? ⟨g, j * 4 + 1, none⟩ = some (.int .i64 (L j).co) ∧ w'.cell? ⟨g, j * 4 + 2, none⟩ = some (.int .i64 (L j).ns) ∧ w'.cell? ⟨g, j * 4 + 3, none⟩ = some (.int .i64 (L j).nx) := by
  have h' := h.1.stays k
  have a := h'.row.cell hi
  have b := h'.row.cell hj
  exact ⟨h', a.1, a.2.1, a.2.2.1, a.2.2.2, b.1, b.2.1, b.2.2.1, b.2.2.2⟩
/-- One element is written. -/
theorem QM.put {o B g q c : Nat} {L : Nat → Wy} {w : World} (h : QM o B (.slice (some ⟨g, 0, none⟩) q c) q L w) (j : Nat) (x : Wy) :
    QM o B (.slice (some ⟨g, 0, none⟩) q c) q (updG L j x) ((((w.setCell ⟨g, j * 4, none⟩ (.int .i64 x.nd)).setCell ⟨g, j * 4 + 1, none⟩ (.int .i64 x.co)).setCell ⟨g, j * 4 + 2, none⟩ (.int .i64 x.ns)).setCell ⟨g, j * 4 + 3, none⟩ (.int .i64 x.nx)) ∧
    QTurn o (.slice (some ⟨g, 0, none⟩) q c) (.slice (some ⟨g, 0, none⟩) q c) w ((((w.setCell ⟨g, j * 4, none⟩ (.int .i64 x.nd)).setCell ⟨g, j * 4 + 1, none⟩ (.int .i64 x.co)).setCell ⟨g, j * 4 + 2, none⟩ (.int .i64 x.ns)).setCell ⟨g, j * 4 + 3, none⟩ (.int .i64 x.nx)) := by
  have hne : o ≠ g := fun e => h.ne (by simp [Value.ownBlock, e])
  refine ⟨⟨(put_other _ _ _ _ _ _ _ _ hne).trans h.box, h.row.put j x⟩, ⟨rfl, rfl, rfl, by simp [World.setCell], fun k hk _ hv => put_other _ _ _ _ _ _ _ _ (fun e => hv (by simp [Value.ownBlock, e])), fun _ _ h => h⟩⟩
/-- The element that a region reads or writes: its cells are there, and not frozen. -/
theorem QM.at_ {o B g q c : Nat} {L : Nat → Wy} {w : World} (h : QM o B (.slice (some ⟨g, 0, none⟩) q c) q L w) {i : Nat} (hi : i < q) :
    w.cell? ⟨g, i * 4, none⟩ = some (.int .i64 (L i).nd) ∧ w.cell? ⟨g, i * 4 + 1, none⟩ = some (.int .i64 (L i).co) ∧ w.cell? ⟨g, i * 4 + 2, none⟩ = some (.int .i64 (L i).ns) ∧ w.cell? ⟨g, i * 4 + 3, none⟩ = some (.int .i64 (L i).nx) ∧ ∀ j, w.frozen? ⟨g, j, none⟩ = false := by
  have a := h.row.cell hi
  exact ⟨a.1, a.2.1, a.2.2.1, a.2.2.2, fun j => h.row.frozenAt j⟩
def pushOps : Array Oper := #[
  { dst := some 34, op := Op.move (Operand.tmp 4), type := 113, pos := "search.go:59", after := #[], guard := none },
  { dst := some 35, op := Op.move (Operand.tmp 5), type := 3, pos := "search.go:59", after := #[], guard := none },
  { dst := some 36, op := Op.move (Operand.tmp 4), type := 113, pos := "search.go:59", after := #[{ on := 15, ground := Ground.gcOnly Departure.lateStores }], guard := none },
  { dst := some 37, op := Op.move (Operand.tmp 5), type := 3, pos := "search.go:59", after := #[], guard := none },
  { dst := some 38, op := Op.call { callee := Callee.value (Operand.func 86), args := #[Operand.tmp 37], argTypes := #[3] }, type := 3, pos := "search.go:59", after := #[{ on := 3, ground := Ground.data }], guard := none },
  { dst := some 39, op := Op.move (Operand.tmp 4), type := 113, pos := "search.go:59", after := #[], guard := none },
  { dst := some 40, op := Op.move (Operand.tmp 5), type := 3, pos := "search.go:59", after := #[], guard := none },
  { dst := some 41, op := Op.call { callee := Callee.value (Operand.func 86), args := #[Operand.tmp 40], argTypes := #[3] }, type := 3, pos := "search.go:59", after := #[{ on := 6, ground := Ground.data }, { on := 4, ground := Ground.chain }], guard := none },
  { dst := some 42, op := Op.indexAddr 113 (Operand.tmp 39) (Operand.tmp 41), type := 0, pos := "search.go:59", after := #[{ on := 5, ground := Ground.data }, { on := 7, ground := Ground.data }], guard := none },
  { dst := some 43, op := Op.load 68 (Operand.tmp 42), type := 68, pos := "search.go:59", after := #[{ on := 8, ground := Ground.data }], guard := none },
  { dst := some 44, op := Op.move (Operand.tmp 4), type := 113, pos := "search.go:59", after := #[], guard := none },
  { dst := some 45, op := Op.move (Operand.tmp 5), type := 3, pos := "search.go:59", after := #[], guard := none },
  { dst := some 46, op := Op.indexAddr 113 (Operand.tmp 44) (Operand.tmp 45), type := 0, pos := "search.go:59", after := #[{ on := 10, ground := Ground.data }, { on := 11, ground := Ground.data }], guard := none },
  { dst := some 47, op := Op.load 68 (Operand.tmp 46), type := 68, pos := "search.go:59", after := #[{ on := 12, ground := Ground.data }], guard := none },
  { dst := some 48, op := Op.indexAddr 113 (Operand.tmp 34) (Operand.tmp 35), type := 0, pos := "search.go:59", after := #[{ on := 0, ground := Ground.data }, { on := 1, ground := Ground.data }, { on := 0, ground := Ground.phase }, { on := 1, ground := Ground.phase }, { on := 2, ground := Ground.textOnly Departure.lateStores }, { on := 3, ground := Ground.textOnly Departure.lateStores }, { on := 4, ground := Ground.phase }, { on := 5, ground := Ground.phase }, { on := 6, ground := Ground.phase }, { on := 7, ground := Ground.phase }, { on := 8, ground := Ground.phase }, { on := 9, ground := Ground.phase }, { on := 10, ground := Ground.textOnly Departure.lateStores }, { on := 11, ground := Ground.textOnly Departure.lateStores }, { on := 12, ground := Ground.textOnly Departure.lateStoresUnsure }, { on := 13, ground := Ground.phase }], guard := none },
  { dst := none, op := Op.store 68 (Operand.tmp 48) (Operand.tmp 43), type := 0, pos := "search.go:59", after := #[{ on := 14, ground := Ground.data }, { on := 9, ground := Ground.data }, { on := 7, ground := Ground.chain }, { on := 0, ground := Ground.phase }, { on := 1, ground := Ground.phase }, { on := 2, ground := Ground.textOnly Departure.lateStores }, { on := 3, ground := Ground.textOnly Departure.lateStores }, { on := 4, ground := Ground.phase }, { on := 5, ground := Ground.phase }, { on := 6, ground := Ground.phase }, { on := 7, ground := Ground.phase }, { on := 8, ground := Ground.phase }, { on := 9, ground := Ground.phase }, { on := 10, ground := Ground.textOnly Departure.lateStores }, { on := 11, ground := Ground.textOnly Departure.lateStores }, { on := 12, ground := Ground.textOnly Departure.lateStoresUnsure }, { on := 13, ground := Ground.phase }], guard := none },
  { dst := some 49, op := Op.indexAddr 113 (Operand.tmp 36) (Operand.tmp 38), type := 0, pos := "search.go:59", after := #[{ on := 2, ground := Ground.data }, { on := 4, ground := Ground.data }, { on := 0, ground := Ground.phase }, { on := 1, ground := Ground.phase }, { on := 2, ground := Ground.phase }, { on := 3, ground := Ground.phase }, { on := 4, ground := Ground.phase }, { on := 5, ground := Ground.phase }, { on := 6, ground := Ground.phase }, { on := 7, ground := Ground.phase }, { on := 8, ground := Ground.phase }, { on := 9, ground := Ground.phase }, { on := 10, ground := Ground.phase }, { on := 11, ground := Ground.phase }, { on := 12, ground := Ground.phase }, { on := 13, ground := Ground.phase }, { on := 14, ground := Ground.phase }, { on := 15, ground := Ground.phase }], guard := none },
  { dst := none, op := Op.store 68 (Operand.tmp 49) (Operand.tmp 47), type := 0, pos := "search.go:59", after := #[{ on := 16, ground := Ground.data }, { on := 13, ground := Ground.data }, { on := 15, ground := Ground.chain }, { on := 0, ground := Ground.phase }, { on := 1, ground := Ground.phase }, { on := 2, ground := Ground.phase }, { on := 3, ground := Ground.phase }, { on := 4, ground := Ground.phase }, { on := 5, ground := Ground.phase }, { on := 6, ground := Ground.phase }, { on := 7, ground := Ground.phase }, { on := 8, ground := Ground.phase }, { on := 9, ground := Ground.phase }, { on := 10, ground := Ground.phase }, { on := 11, ground := Ground.phase }, { on := 12, ground := Ground.phase }, { on := 13, ground := Ground.phase }, { on := 14, ground := Ground.phase }, { on := 15, ground := Ground.phase }], guard := none }]
/-- Behind the stores: the two have changed places. -/
structure PM (o B g q c a p : Nat) (L : Nat → Wy) (w0 : World) (s : Nat) (w : World) : Prop where
  m : QM o B (.slice (some ⟨g, 0, none⟩) q c) q (if s = 1 then updG L a (L p) else swp L a p) w
  t : QTurn o (.slice (some ⟨g, 0, none⟩) q c) (.slice (some ⟨g, 0, none⟩) q c) w0 w
theorem pm_one {o B g q c : Nat} {L : Nat → Wy} {w : World} (h : QM o B (.slice (some ⟨g, 0, none⟩) q c) q L w) (a p : Nat) :
    PM o B g q c a p L w 1 ((((w.setCell ⟨g, a * 4, none⟩ (.int .i64 (L p).nd)).setCell ⟨g, a * 4 + 1, none⟩ (.int .i64 (L p).co)).setCell ⟨g, a * 4 + 2, none⟩ (.int .i64 (L p).ns)).setCell ⟨g, a * 4 + 3, none⟩ (.int .i64 (L p).nx)) :=
  ⟨(h.put a (L p)).1, (h.put a (L p)).2⟩
theorem PM.two {o B g q c a p : Nat} {L : Nat → Wy} {w0 w : World} (h : PM o B g q c a p L w0 1 w) :
    PM o B g q c a p L w0 2 ((((w.setCell ⟨g, p * 4, none⟩ (.int .i64 (L a).nd)).setCell ⟨g, p * 4 + 1, none⟩ (.int .i64 (L a).co)).setCell ⟨g, p * 4 + 2, none⟩ (.int .i64 (L a).ns)).setCell ⟨g, p * 4 + 3, none⟩ (.int .i64 (L a).nx)) :=
  ⟨(h.m.put p (L a)).1, h.t.trans (h.m.put p (L a)).2⟩
set_option maxRecDepth 100000 in
set_option maxHeartbeats 6400000 in
theorem push_swap (o B g q c a p : Nat) (L : Nat → Wy) (w0 : World) (hM0 : QM o B (.slice (some ⟨g, 0, none⟩) q c) q L w0) (ha : 0 < a) (haq : a < q) (hpq : p < q) (hp : (a - 1) / 2 = p) (hq2 : a ≤ 1000000000) (r0 r1 r2 r3 r6 r7 r8 r9 r10 r11 r12 r13 r14 r15 r16 r17 r18 r19 r20 r21 r22 r23 r24 r25 r26 r27 r28 r29 r30 r31 r32 r33 r34 r35 r36 r37 r38 r39 r40 r41 r42 r43 r44 r45 r46 r47 r48 r49 : Value) (Q : Exit → Act → World → Prop)
    (hQ : ∀ (wr : World), PM o B g q c a p L w0.drew 2 wr → Q .normal { tmps := #[r0, r1, r2, r3, .slice (some ⟨g, 0, none⟩) q c, .int .i64 a, r6, r7, r8, r9, r10, r11, r12, r13, r14, r15, r16, r17, r18, r19, r20, r21, r22, r23, r24, r25, r26, r27, r28, r29, r30, r31, r32, r33, .slice (some ⟨g, 0, none⟩) q c, .int .i64 a, .slice (some ⟨g, 0, none⟩) q c, .int .i64 a, .int .i64 p, .slice (some ⟨g, 0, none⟩) q c, .int .i64 a, .int .i64 p, .pointer (some ⟨g, p * 4, none⟩), wv (L p), .slice (some ⟨g, 0, none⟩) q c, .int .i64 a, .pointer (some ⟨g, a * 4, none⟩), wv (L a), .pointer (some ⟨g, a * 4, none⟩), .pointer (some ⟨g, p * 4, none⟩)], defers := [] } wr) :
    (Code.region 6 pushOps true).wp Try.prog Q { tmps := #[r0, r1, r2, r3, .slice (some ⟨g, 0, none⟩) q c, .int .i64 a, r6, r7, r8, r9, r10, r11, r12, r13, r14, r15, r16, r17, r18, r19, r20, r21, r22, r23, r24, r25, r26, r27, r28, r29, r30, r31, r32, r33, r34, r35, r36, r37, r38, r39, r40, r41, r42, r43, r44, r45, r46, r47, r48, r49], defers := [] } w0 := by
  refine wp_region_noPanic ?_
  replace hQ : ∀ (wr : World), PM o B g q c a p L w0.drew 2 wr → NoPanic Q .normal { tmps := #[r0, r1, r2, r3, .slice (some ⟨g, 0, none⟩) q c, .int .i64 a, r6, r7, r8, r9, r10, r11, r12, r13, r14, r15, r16, r17, r18, r19, r20, r21, r22, r23, r24, r25, r26, r27, r28, r29, r30, r31, r32, r33, .slice (some ⟨g, 0, none⟩) q c, .int .i64 a, .slice (some ⟨g, 0, none⟩) q c, .int .i64 a, .int .i64 p, .slice (some ⟨g, 0, none⟩) q c, .int .i64 a, .int .i64 p, .pointer (some ⟨g, p * 4, none⟩), wv (L p), .slice (some ⟨g, 0, none⟩) q c, .int .i64 a, .pointer (some ⟨g, a * 4, none⟩), wv (L a), .pointer (some ⟨g, a * 4, none⟩), .pointer (some ⟨g, p * 4, none⟩)], defers := [] } wr := fun wr h => NoPanic.normal (hQ wr h)
  generalize hQQ : NoPanic Q = Q at hQ ⊢
  have hPQ : ∀ (c : List PanicEntry) (a a' : Act) (w : World), Q (.panic c) a w → Q (.panic c) a' w := fun c a a' w h => by rw [← hQQ] at h ⊢; exact h
  clear hQQ
  have hM : QM o B (.slice (some ⟨g, 0, none⟩) q c) q L w0.drew := hM0.stays ((Below.refl _ _).drew)
  refine wp_region_held_drew (S := fun _ => True) (by kernel_rfl) trivial (fun _ => ?_)
  revert hM hQ
  generalize w0.drew = w0
  intro hQ hM
  clear hM0
  have n_4_7_8_9_13_14_15_16_17 : ∀ (wr : World), PM o B g q c a p L w0 2 wr → wpAnyH Try.prog .any pushOps Q (fun _ => True) 0 #[true, true, true, true, true, true, true, true, true, true, true, true, true, true, true, true, true, true] { tmps := #[r0, r1, r2, r3, .slice (some ⟨g, 0, none⟩) q c, .int .i64 a, r6, r7, r8, r9, r10, r11, r12, r13, r14, r15, r16, r17, r18, r19, r20, r21, r22, r23, r24, r25, r26, r27, r28, r29, r30, r31, r32, r33, .slice (some ⟨g, 0, none⟩) q c, .int .i64 a, .slice (some ⟨g, 0, none⟩) q c, .int .i64 a, .int .i64 p, .slice (some ⟨g, 0, none⟩) q c, .int .i64 a, .int .i64 p, .pointer (some ⟨g, p * 4, none⟩), wv (L p), .slice (some ⟨g, 0, none⟩) q c, .int .i64 a, .pointer (some ⟨g, a * 4, none⟩), wv (L a), .pointer (some ⟨g, a * 4, none⟩), .pointer (some ⟨g, p * 4, none⟩)], defers := [] } wr := by
    intro wr  HF
    exact wpAnyH_done (by kernel_rfl) (hQ _ HF) _
  have n_4_7_8_9_13_14_15_16 : ∀ (wr : World), PM o B g q c a p L w0 1 wr → wpAnyH Try.prog .any pushOps Q (fun _ => True) 1 #[true, true, true, true, true, true, true, true, true, true, true, true, true, true, true, true, true, false] { tmps := #[r0, r1, r2, r3, .slice (some ⟨g, 0, none⟩) q c, .int .i64 a, r6, r7, r8, r9, r10, r11, r12, r13, r14, r15, r16, r17, r18, r19, r20, r21, r22, r23, r24, r25, r26, r27, r28, r29, r30, r31, r32, r33, .slice (some ⟨g, 0, none⟩) q c, .int .i64 a, .slice (some ⟨g, 0, none⟩) q c, .int .i64 a, .int .i64 p, .slice (some ⟨g, 0, none⟩) q c, .int .i64 a, .int .i64 p, .pointer (some ⟨g, p * 4, none⟩), wv (L p), .slice (some ⟨g, 0, none⟩) q c, .int .i64 a, .pointer (some ⟨g, a * 4, none⟩), wv (L a), .pointer (some ⟨g, a * 4, none⟩), .pointer (some ⟨g, p * 4, none⟩)], defers := [] } wr := by
    intro wr  HF
    refine wpAnyH_ready (rs := [17]) (by kernel_rfl) (by simp) ?_
    refine (AllReadyH.cons (o := { dst := none, op := Op.store 68 (Operand.tmp 49) (Operand.tmp 47), type := 0, pos := "search.go:59", after := #[{ on := 16, ground := Ground.data }, { on := 13, ground := Ground.data }, { on := 15, ground := Ground.chain }, { on := 0, ground := Ground.phase }, { on := 1, ground := Ground.phase }, { on := 2, ground := Ground.phase }, { on := 3, ground := Ground.phase }, { on := 4, ground := Ground.phase }, { on := 5, ground := Ground.phase }, { on := 6, ground := Ground.phase }, { on := 7, ground := Ground.phase }, { on := 8, ground := Ground.phase }, { on := 9, ground := Ground.phase }, { on := 10, ground := Ground.phase }, { on := 11, ground := Ground.phase }, { on := 12, ground := Ground.phase }, { on := 13, ground := Ground.phase }, { on := 14, ground := Ground.phase }, { on := 15, ground := Ground.phase }], guard := none }) rfl (fun K hK => ?_) AllReadyH.nil)
    · skip
      obtain ⟨c0, c1, c2, c3, f0⟩ := HF.m.at_ hpq
      have hs := HF.two
      go_simp
      refine hK.out _ _ (trivial) (fun _ => ?_)
      clear hK K
      exact n_4_7_8_9_13_14_15_16_17 _  (hs)
  have n_4_7_8_9_13_14_15 : ∀ (wr : World), PM o B g q c a p L w0 1 wr → wpAnyH Try.prog .any pushOps Q (fun _ => True) 2 #[true, true, true, true, true, true, true, true, true, true, true, true, true, true, true, true, false, false] { tmps := #[r0, r1, r2, r3, .slice (some ⟨g, 0, none⟩) q c, .int .i64 a, r6, r7, r8, r9, r10, r11, r12, r13, r14, r15, r16, r17, r18, r19, r20, r21, r22, r23, r24, r25, r26, r27, r28, r29, r30, r31, r32, r33, .slice (some ⟨g, 0, none⟩) q c, .int .i64 a, .slice (some ⟨g, 0, none⟩) q c, .int .i64 a, .int .i64 p, .slice (some ⟨g, 0, none⟩) q c, .int .i64 a, .int .i64 p, .pointer (some ⟨g, p * 4, none⟩), wv (L p), .slice (some ⟨g, 0, none⟩) q c, .int .i64 a, .pointer (some ⟨g, a * 4, none⟩), wv (L a), .pointer (some ⟨g, a * 4, none⟩), r49], defers := [] } wr := by
    intro wr  HF
    refine wpAnyH_ready (rs := [16]) (by kernel_rfl) (by simp) ?_
    refine (AllReadyH.cons (o := { dst := some 49, op := Op.indexAddr 113 (Operand.tmp 36) (Operand.tmp 38), type := 0, pos := "search.go:59", after := #[{ on := 2, ground := Ground.data }, { on := 4, ground := Ground.data }, { on := 0, ground := Ground.phase }, { on := 1, ground := Ground.phase }, { on := 2, ground := Ground.phase }, { on := 3, ground := Ground.phase }, { on := 4, ground := Ground.phase }, { on := 5, ground := Ground.phase }, { on := 6, ground := Ground.phase }, { on := 7, ground := Ground.phase }, { on := 8, ground := Ground.phase }, { on := 9, ground := Ground.phase }, { on := 10, ground := Ground.phase }, { on := 11, ground := Ground.phase }, { on := 12, ground := Ground.phase }, { on := 13, ground := Ground.phase }, { on := 14, ground := Ground.phase }, { on := 15, ground := Ground.phase }], guard := none }) rfl (fun K hK => ?_) AllReadyH.nil)
    · skip
      go_simp
      refine hK.out _ _ (trivial) (fun _ => ?_)
      clear hK K
      exact n_4_7_8_9_13_14_15_16 _  (HF)
  have n_4_7_8_9_13_14 : ∀ (wr : World), w0 = wr → wpAnyH Try.prog .any pushOps Q (fun _ => True) 3 #[true, true, true, true, true, true, true, true, true, true, true, true, true, true, true, false, false, false] { tmps := #[r0, r1, r2, r3, .slice (some ⟨g, 0, none⟩) q c, .int .i64 a, r6, r7, r8, r9, r10, r11, r12, r13, r14, r15, r16, r17, r18, r19, r20, r21, r22, r23, r24, r25, r26, r27, r28, r29, r30, r31, r32, r33, .slice (some ⟨g, 0, none⟩) q c, .int .i64 a, .slice (some ⟨g, 0, none⟩) q c, .int .i64 a, .int .i64 p, .slice (some ⟨g, 0, none⟩) q c, .int .i64 a, .int .i64 p, .pointer (some ⟨g, p * 4, none⟩), wv (L p), .slice (some ⟨g, 0, none⟩) q c, .int .i64 a, .pointer (some ⟨g, a * 4, none⟩), wv (L a), .pointer (some ⟨g, a * 4, none⟩), r49], defers := [] } wr := by
    intro wr  HF
    refine wpAnyH_ready (rs := [15]) (by kernel_rfl) (by simp) ?_
    refine (AllReadyH.cons (o := { dst := none, op := Op.store 68 (Operand.tmp 48) (Operand.tmp 43), type := 0, pos := "search.go:59", after := #[{ on := 14, ground := Ground.data }, { on := 9, ground := Ground.data }, { on := 7, ground := Ground.chain }, { on := 0, ground := Ground.phase }, { on := 1, ground := Ground.phase }, { on := 2, ground := Ground.textOnly Departure.lateStores }, { on := 3, ground := Ground.textOnly Departure.lateStores }, { on := 4, ground := Ground.phase }, { on := 5, ground := Ground.phase }, { on := 6, ground := Ground.phase }, { on := 7, ground := Ground.phase }, { on := 8, ground := Ground.phase }, { on := 9, ground := Ground.phase }, { on := 10, ground := Ground.textOnly Departure.lateStores }, { on := 11, ground := Ground.textOnly Departure.lateStores }, { on := 12, ground := Ground.textOnly Departure.lateStoresUnsure }, { on := 13, ground := Ground.phase }], guard := none }) rfl (fun K hK => ?_) AllReadyH.nil)
    · skip
      subst HF
      obtain ⟨c0, c1, c2, c3, f0⟩ := hM.at_ haq
      have hs := pm_one hM a p
      go_simp
      refine hK.out _ _ (trivial) (fun _ => ?_)
      clear hK K
      exact n_4_7_8_9_13_14_15 _  (hs)
  have n_4_7_8_9_13 : ∀ (wr : World), w0 = wr → wpAnyH Try.prog .any pushOps Q (fun _ => True) 4 #[true, true, true, true, true, true, true, true, true, true, true, true, true, true, false, false, false, false] { tmps := #[r0, r1, r2, r3, .slice (some ⟨g, 0, none⟩) q c, .int .i64 a, r6, r7, r8, r9, r10, r11, r12, r13, r14, r15, r16, r17, r18, r19, r20, r21, r22, r23, r24, r25, r26, r27, r28, r29, r30, r31, r32, r33, .slice (some ⟨g, 0, none⟩) q c, .int .i64 a, .slice (some ⟨g, 0, none⟩) q c, .int .i64 a, .int .i64 p, .slice (some ⟨g, 0, none⟩) q c, .int .i64 a, .int .i64 p, .pointer (some ⟨g, p * 4, none⟩), wv (L p), .slice (some ⟨g, 0, none⟩) q c, .int .i64 a, .pointer (some ⟨g, a * 4, none⟩), wv (L a), r48, r49], defers := [] } wr := by
    intro wr  HF
    refine wpAnyH_ready (rs := [14]) (by kernel_rfl) (by simp) ?_
    refine (AllReadyH.cons (o := { dst := some 48, op := Op.indexAddr 113 (Operand.tmp 34) (Operand.tmp 35), type := 0, pos := "search.go:59", after := #[{ on := 0, ground := Ground.data }, { on := 1, ground := Ground.data }, { on := 0, ground := Ground.phase }, { on := 1, ground := Ground.phase }, { on := 2, ground := Ground.textOnly Departure.lateStores }, { on := 3, ground := Ground.textOnly Departure.lateStores }, { on := 4, ground := Ground.phase }, { on := 5, ground := Ground.phase }, { on := 6, ground := Ground.phase }, { on := 7, ground := Ground.phase }, { on := 8, ground := Ground.phase }, { on := 9, ground := Ground.phase }, { on := 10, ground := Ground.textOnly Departure.lateStores }, { on := 11, ground := Ground.textOnly Departure.lateStores }, { on := 12, ground := Ground.textOnly Departure.lateStoresUnsure }, { on := 13, ground := Ground.phase }], guard := none }) rfl (fun K hK => ?_) AllReadyH.nil)
    · skip
      go_simp
      refine hK.out _ _ (trivial) (fun _ => ?_)
      clear hK K
      exact n_4_7_8_9_13_14 _  (HF)
  have n_4_7_8_13 : ∀ (wr : World), w0 = wr → wpAnyH Try.prog .any pushOps Q (fun _ => True) 5 #[true, true, true, true, true, true, true, true, true, false, true, true, true, true, false, false, false, false] { tmps := #[r0, r1, r2, r3, .slice (some ⟨g, 0, none⟩) q c, .int .i64 a, r6, r7, r8, r9, r10, r11, r12, r13, r14, r15, r16, r17, r18, r19, r20, r21, r22, r23, r24, r25, r26, r27, r28, r29, r30, r31, r32, r33, .slice (some ⟨g, 0, none⟩) q c, .int .i64 a, .slice (some ⟨g, 0, none⟩) q c, .int .i64 a, .int .i64 p, .slice (some ⟨g, 0, none⟩) q c, .int .i64 a, .int .i64 p, .pointer (some ⟨g, p * 4, none⟩), r43, .slice (some ⟨g, 0, none⟩) q c, .int .i64 a, .pointer (some ⟨g, a * 4, none⟩), wv (L a), r48, r49], defers := [] } wr := by
    intro wr  HF
    refine wpAnyH_ready (rs := [9]) (by kernel_rfl) (by simp) ?_
    refine (AllReadyH.cons (o := { dst := some 43, op := Op.load 68 (Operand.tmp 42), type := 68, pos := "search.go:59", after := #[{ on := 8, ground := Ground.data }], guard := none }) rfl (fun K hK => ?_) AllReadyH.nil)
    · skip
      subst HF
      obtain ⟨c0, c1, c2, c3, _⟩ := hM.at_ hpq
      go_simp
      refine hK.out _ _ (trivial) (fun _ => ?_)
      clear hK K
      exact n_4_7_8_9_13 _  (rfl)
  have n_4_7_8_9 : ∀ (wr : World), w0 = wr → wpAnyH Try.prog .any pushOps Q (fun _ => True) 5 #[true, true, true, true, true, true, true, true, true, true, true, true, true, false, false, false, false, false] { tmps := #[r0, r1, r2, r3, .slice (some ⟨g, 0, none⟩) q c, .int .i64 a, r6, r7, r8, r9, r10, r11, r12, r13, r14, r15, r16, r17, r18, r19, r20, r21, r22, r23, r24, r25, r26, r27, r28, r29, r30, r31, r32, r33, .slice (some ⟨g, 0, none⟩) q c, .int .i64 a, .slice (some ⟨g, 0, none⟩) q c, .int .i64 a, .int .i64 p, .slice (some ⟨g, 0, none⟩) q c, .int .i64 a, .int .i64 p, .pointer (some ⟨g, p * 4, none⟩), wv (L p), .slice (some ⟨g, 0, none⟩) q c, .int .i64 a, .pointer (some ⟨g, a * 4, none⟩), r47, r48, r49], defers := [] } wr := by
    intro wr  HF
    refine wpAnyH_ready (rs := [13]) (by kernel_rfl) (by simp) ?_
    refine (AllReadyH.cons (o := { dst := some 47, op := Op.load 68 (Operand.tmp 46), type := 68, pos := "search.go:59", after := #[{ on := 12, ground := Ground.data }], guard := none }) rfl (fun K hK => ?_) AllReadyH.nil)
    · skip
      subst HF
      obtain ⟨c0, c1, c2, c3, _⟩ := hM.at_ haq
      go_simp
      refine hK.out _ _ (trivial) (fun _ => ?_)
      clear hK K
      exact n_4_7_8_9_13 _  (rfl)
  have n_4_7_13 : ∀ (wr : World), w0 = wr → wpAnyH Try.prog .any pushOps Q (fun _ => True) 6 #[true, true, true, true, true, true, true, true, false, false, true, true, true, true, false, false, false, false] { tmps := #[r0, r1, r2, r3, .slice (some ⟨g, 0, none⟩) q c, .int .i64 a, r6, r7, r8, r9, r10, r11, r12, r13, r14, r15, r16, r17, r18, r19, r20, r21, r22, r23, r24, r25, r26, r27, r28, r29, r30, r31, r32, r33, .slice (some ⟨g, 0, none⟩) q c, .int .i64 a, .slice (some ⟨g, 0, none⟩) q c, .int .i64 a, .int .i64 p, .slice (some ⟨g, 0, none⟩) q c, .int .i64 a, .int .i64 p, r42, r43, .slice (some ⟨g, 0, none⟩) q c, .int .i64 a, .pointer (some ⟨g, a * 4, none⟩), wv (L a), r48, r49], defers := [] } wr := by
    intro wr  HF
    refine wpAnyH_ready (rs := [8]) (by kernel_rfl) (by simp) ?_
    refine (AllReadyH.cons (o := { dst := some 42, op := Op.indexAddr 113 (Operand.tmp 39) (Operand.tmp 41), type := 0, pos := "search.go:59", after := #[{ on := 5, ground := Ground.data }, { on := 7, ground := Ground.data }], guard := none }) rfl (fun K hK => ?_) AllReadyH.nil)
    · skip
      go_simp
      refine hK.out _ _ (trivial) (fun _ => ?_)
      clear hK K
      exact n_4_7_8_13 _  (HF)
  have n_4_7_8 : ∀ (wr : World), w0 = wr → wpAnyH Try.prog .any pushOps Q (fun _ => True) 6 #[true, true, true, true, true, true, true, true, true, false, true, true, true, false, false, false, false, false] { tmps := #[r0, r1, r2, r3, .slice (some ⟨g, 0, none⟩) q c, .int .i64 a, r6, r7, r8, r9, r10, r11, r12, r13, r14, r15, r16, r17, r18, r19, r20, r21, r22, r23, r24, r25, r26, r27, r28, r29, r30, r31, r32, r33, .slice (some ⟨g, 0, none⟩) q c, .int .i64 a, .slice (some ⟨g, 0, none⟩) q c, .int .i64 a, .int .i64 p, .slice (some ⟨g, 0, none⟩) q c, .int .i64 a, .int .i64 p, .pointer (some ⟨g, p * 4, none⟩), r43, .slice (some ⟨g, 0, none⟩) q c, .int .i64 a, .pointer (some ⟨g, a * 4, none⟩), r47, r48, r49], defers := [] } wr := by
    intro wr  HF
    refine wpAnyH_ready (rs := [9, 13]) (by kernel_rfl) (by simp) ?_
    refine (AllReadyH.cons (o := { dst := some 43, op := Op.load 68 (Operand.tmp 42), type := 68, pos := "search.go:59", after := #[{ on := 8, ground := Ground.data }], guard := none }) rfl (fun K hK => ?_) (AllReadyH.cons (o := { dst := some 47, op := Op.load 68 (Operand.tmp 46), type := 68, pos := "search.go:59", after := #[{ on := 12, ground := Ground.data }], guard := none }) rfl (fun K hK => ?_) AllReadyH.nil))
    · skip
      subst HF
      obtain ⟨c0, c1, c2, c3, _⟩ := hM.at_ hpq
      go_simp
      refine hK.out _ _ (trivial) (fun _ => ?_)
      clear hK K
      exact n_4_7_8_9 _  (rfl)
    · skip
      subst HF
      obtain ⟨c0, c1, c2, c3, _⟩ := hM.at_ haq
      go_simp
      refine hK.out _ _ (trivial) (fun _ => ?_)
      clear hK K
      exact n_4_7_8_13 _  (rfl)
  have n_4_13 : ∀ (wr : World), w0 = wr → wpAnyH Try.prog .any pushOps Q (fun _ => True) 7 #[true, true, true, true, true, true, true, false, false, false, true, true, true, true, false, false, false, false] { tmps := #[r0, r1, r2, r3, .slice (some ⟨g, 0, none⟩) q c, .int .i64 a, r6, r7, r8, r9, r10, r11, r12, r13, r14, r15, r16, r17, r18, r19, r20, r21, r22, r23, r24, r25, r26, r27, r28, r29, r30, r31, r32, r33, .slice (some ⟨g, 0, none⟩) q c, .int .i64 a, .slice (some ⟨g, 0, none⟩) q c, .int .i64 a, .int .i64 p, .slice (some ⟨g, 0, none⟩) q c, .int .i64 a, r41, r42, r43, .slice (some ⟨g, 0, none⟩) q c, .int .i64 a, .pointer (some ⟨g, a * 4, none⟩), wv (L a), r48, r49], defers := [] } wr := by
    intro wr  HF
    refine wpAnyH_ready (rs := [7]) (by kernel_rfl) (by simp) ?_
    refine (AllReadyH.cons (o := { dst := some 41, op := Op.call { callee := Callee.value (Operand.func 86), args := #[Operand.tmp 40], argTypes := #[3] }, type := 3, pos := "search.go:59", after := #[{ on := 6, ground := Ground.data }, { on := 4, ground := Ground.chain }], guard := none }) rfl (fun K hK => ?_) AllReadyH.nil)
    · skip
      go_simp
      refine (above_any a p ha hq2 hp _).mono ?_
      rintro e w2 ⟨rfl, rfl⟩
      try go_wp2_with fail
      refine hK.out _ _ (trivial) (fun _ => ?_)
      clear hK K
      exact n_4_7_13 _  (HF)
  have n_4_7 : ∀ (wr : World), w0 = wr → wpAnyH Try.prog .any pushOps Q (fun _ => True) 7 #[true, true, true, true, true, true, true, true, false, false, true, true, true, false, false, false, false, false] { tmps := #[r0, r1, r2, r3, .slice (some ⟨g, 0, none⟩) q c, .int .i64 a, r6, r7, r8, r9, r10, r11, r12, r13, r14, r15, r16, r17, r18, r19, r20, r21, r22, r23, r24, r25, r26, r27, r28, r29, r30, r31, r32, r33, .slice (some ⟨g, 0, none⟩) q c, .int .i64 a, .slice (some ⟨g, 0, none⟩) q c, .int .i64 a, .int .i64 p, .slice (some ⟨g, 0, none⟩) q c, .int .i64 a, .int .i64 p, r42, r43, .slice (some ⟨g, 0, none⟩) q c, .int .i64 a, .pointer (some ⟨g, a * 4, none⟩), r47, r48, r49], defers := [] } wr := by
    intro wr  HF
    refine wpAnyH_ready (rs := [8, 13]) (by kernel_rfl) (by simp) ?_
    refine (AllReadyH.cons (o := { dst := some 42, op := Op.indexAddr 113 (Operand.tmp 39) (Operand.tmp 41), type := 0, pos := "search.go:59", after := #[{ on := 5, ground := Ground.data }, { on := 7, ground := Ground.data }], guard := none }) rfl (fun K hK => ?_) (AllReadyH.cons (o := { dst := some 47, op := Op.load 68 (Operand.tmp 46), type := 68, pos := "search.go:59", after := #[{ on := 12, ground := Ground.data }], guard := none }) rfl (fun K hK => ?_) AllReadyH.nil))
    · skip
      go_simp
      refine hK.out _ _ (trivial) (fun _ => ?_)
      clear hK K
      exact n_4_7_8 _  (HF)
    · skip
      subst HF
      obtain ⟨c0, c1, c2, c3, _⟩ := hM.at_ haq
      go_simp
      refine hK.out _ _ (trivial) (fun _ => ?_)
      clear hK K
      exact n_4_7_13 _  (rfl)
  have n_13 : ∀ (wr : World), w0 = wr → wpAnyH Try.prog .any pushOps Q (fun _ => True) 8 #[true, true, true, true, false, true, true, false, false, false, true, true, true, true, false, false, false, false] { tmps := #[r0, r1, r2, r3, .slice (some ⟨g, 0, none⟩) q c, .int .i64 a, r6, r7, r8, r9, r10, r11, r12, r13, r14, r15, r16, r17, r18, r19, r20, r21, r22, r23, r24, r25, r26, r27, r28, r29, r30, r31, r32, r33, .slice (some ⟨g, 0, none⟩) q c, .int .i64 a, .slice (some ⟨g, 0, none⟩) q c, .int .i64 a, r38, .slice (some ⟨g, 0, none⟩) q c, .int .i64 a, r41, r42, r43, .slice (some ⟨g, 0, none⟩) q c, .int .i64 a, .pointer (some ⟨g, a * 4, none⟩), wv (L a), r48, r49], defers := [] } wr := by
    intro wr  HF
    refine wpAnyH_ready (rs := [4]) (by kernel_rfl) (by simp) ?_
    refine (AllReadyH.cons (o := { dst := some 38, op := Op.call { callee := Callee.value (Operand.func 86), args := #[Operand.tmp 37], argTypes := #[3] }, type := 3, pos := "search.go:59", after := #[{ on := 3, ground := Ground.data }], guard := none }) rfl (fun K hK => ?_) AllReadyH.nil)
    · skip
      go_simp
      refine (above_any a p ha hq2 hp _).mono ?_
      rintro e w2 ⟨rfl, rfl⟩
      try go_wp2_with fail
      refine hK.out _ _ (trivial) (fun _ => ?_)
      clear hK K
      exact n_4_13 _  (HF)
  have n_4 : ∀ (wr : World), w0 = wr → wpAnyH Try.prog .any pushOps Q (fun _ => True) 8 #[true, true, true, true, true, true, true, false, false, false, true, true, true, false, false, false, false, false] { tmps := #[r0, r1, r2, r3, .slice (some ⟨g, 0, none⟩) q c, .int .i64 a, r6, r7, r8, r9, r10, r11, r12, r13, r14, r15, r16, r17, r18, r19, r20, r21, r22, r23, r24, r25, r26, r27, r28, r29, r30, r31, r32, r33, .slice (some ⟨g, 0, none⟩) q c, .int .i64 a, .slice (some ⟨g, 0, none⟩) q c, .int .i64 a, .int .i64 p, .slice (some ⟨g, 0, none⟩) q c, .int .i64 a, r41, r42, r43, .slice (some ⟨g, 0, none⟩) q c, .int .i64 a, .pointer (some ⟨g, a * 4, none⟩), r47, r48, r49], defers := [] } wr := by
    intro wr  HF
    refine wpAnyH_ready (rs := [7, 13]) (by kernel_rfl) (by simp) ?_
    refine (AllReadyH.cons (o := { dst := some 41, op := Op.call { callee := Callee.value (Operand.func 86), args := #[Operand.tmp 40], argTypes := #[3] }, type := 3, pos := "search.go:59", after := #[{ on := 6, ground := Ground.data }, { on := 4, ground := Ground.chain }], guard := none }) rfl (fun K hK => ?_) (AllReadyH.cons (o := { dst := some 47, op := Op.load 68 (Operand.tmp 46), type := 68, pos := "search.go:59", after := #[{ on := 12, ground := Ground.data }], guard := none }) rfl (fun K hK => ?_) AllReadyH.nil))
    · skip
      go_simp
      refine (above_any a p ha hq2 hp _).mono ?_
      rintro e w2 ⟨rfl, rfl⟩
      try go_wp2_with fail
      refine hK.out _ _ (trivial) (fun _ => ?_)
      clear hK K
      exact n_4_7 _  (HF)
    · skip
      subst HF
      obtain ⟨c0, c1, c2, c3, _⟩ := hM.at_ haq
      go_simp
      refine hK.out _ _ (trivial) (fun _ => ?_)
      clear hK K
      exact n_4_13 _  (rfl)
  have n_0 : ∀ (wr : World), w0 = wr → wpAnyH Try.prog .any pushOps Q (fun _ => True) 9 #[true, true, true, true, false, true, true, false, false, false, true, true, true, false, false, false, false, false] { tmps := #[r0, r1, r2, r3, .slice (some ⟨g, 0, none⟩) q c, .int .i64 a, r6, r7, r8, r9, r10, r11, r12, r13, r14, r15, r16, r17, r18, r19, r20, r21, r22, r23, r24, r25, r26, r27, r28, r29, r30, r31, r32, r33, .slice (some ⟨g, 0, none⟩) q c, .int .i64 a, .slice (some ⟨g, 0, none⟩) q c, .int .i64 a, r38, .slice (some ⟨g, 0, none⟩) q c, .int .i64 a, r41, r42, r43, .slice (some ⟨g, 0, none⟩) q c, .int .i64 a, .pointer (some ⟨g, a * 4, none⟩), r47, r48, r49], defers := [] } wr := by
    intro wr  HF
    refine wpAnyH_ready (rs := [4, 13]) (by kernel_rfl) (by simp) ?_
    refine (AllReadyH.cons (o := { dst := some 38, op := Op.call { callee := Callee.value (Operand.func 86), args := #[Operand.tmp 37], argTypes := #[3] }, type := 3, pos := "search.go:59", after := #[{ on := 3, ground := Ground.data }], guard := none }) rfl (fun K hK => ?_) (AllReadyH.cons (o := { dst := some 47, op := Op.load 68 (Operand.tmp 46), type := 68, pos := "search.go:59", after := #[{ on := 12, ground := Ground.data }], guard := none }) rfl (fun K hK => ?_) AllReadyH.nil))
    · skip
      go_simp
      refine (above_any a p ha hq2 hp _).mono ?_
      rintro e w2 ⟨rfl, rfl⟩
      try go_wp2_with fail
      refine hK.out _ _ (trivial) (fun _ => ?_)
      clear hK K
      exact n_4 _  (HF)
    · skip
      subst HF
      obtain ⟨c0, c1, c2, c3, _⟩ := hM.at_ haq
      go_simp
      refine hK.out _ _ (trivial) (fun _ => ?_)
      clear hK K
      exact n_13 _  (rfl)
  refine wpAnyH_take (i := 0) (oi := { dst := some 34, op := Op.move (Operand.tmp 4), type := 113, pos := "search.go:59", after := #[], guard := none }) (v := .slice (some ⟨g, 0, none⟩) q c) rfl (by kernel_rfl) (by kernel_rfl) (by kernel_rfl) (fun _ _ _ h => hPQ _ _ _ _ h) (Or.inl ⟨by rfl, ?_⟩) trivial ?_
  · intro w' _; go_simp; try (with_reducible rfl)
  try simp only [Act.put, List.setIfInBounds_toArray, List.set_cons_zero, List.set_cons_succ]
  refine wpAnyH_take (i := 1) (oi := { dst := some 35, op := Op.move (Operand.tmp 5), type := 3, pos := "search.go:59", after := #[], guard := none }) (v := .int .i64 a) rfl (by kernel_rfl) (by kernel_rfl) (by kernel_rfl) (fun _ _ _ h => hPQ _ _ _ _ h) (Or.inl ⟨by rfl, ?_⟩) trivial ?_
  · intro w' _; go_simp; try (with_reducible rfl)
  try simp only [Act.put, List.setIfInBounds_toArray, List.set_cons_zero, List.set_cons_succ]
  refine wpAnyH_take (i := 2) (oi := { dst := some 36, op := Op.move (Operand.tmp 4), type := 113, pos := "search.go:59", after := #[{ on := 15, ground := Ground.gcOnly Departure.lateStores }], guard := none }) (v := .slice (some ⟨g, 0, none⟩) q c) rfl (by kernel_rfl) (by kernel_rfl) (by kernel_rfl) (fun _ _ _ h => hPQ _ _ _ _ h) (Or.inl ⟨by rfl, ?_⟩) trivial ?_
  · intro w' _; go_simp; try (with_reducible rfl)
  try simp only [Act.put, List.setIfInBounds_toArray, List.set_cons_zero, List.set_cons_succ]
  refine wpAnyH_take (i := 3) (oi := { dst := some 37, op := Op.move (Operand.tmp 5), type := 3, pos := "search.go:59", after := #[], guard := none }) (v := .int .i64 a) rfl (by kernel_rfl) (by kernel_rfl) (by kernel_rfl) (fun _ _ _ h => hPQ _ _ _ _ h) (Or.inl ⟨by rfl, ?_⟩) trivial ?_
  · intro w' _; go_simp; try (with_reducible rfl)
  try simp only [Act.put, List.setIfInBounds_toArray, List.set_cons_zero, List.set_cons_succ]
  refine wpAnyH_take (i := 5) (oi := { dst := some 39, op := Op.move (Operand.tmp 4), type := 113, pos := "search.go:59", after := #[], guard := none }) (v := .slice (some ⟨g, 0, none⟩) q c) rfl (by kernel_rfl) (by kernel_rfl) (by kernel_rfl) (fun _ _ _ h => hPQ _ _ _ _ h) (Or.inl ⟨by rfl, ?_⟩) trivial ?_
  · intro w' _; go_simp; try (with_reducible rfl)
  try simp only [Act.put, List.setIfInBounds_toArray, List.set_cons_zero, List.set_cons_succ]
  refine wpAnyH_take (i := 6) (oi := { dst := some 40, op := Op.move (Operand.tmp 5), type := 3, pos := "search.go:59", after := #[], guard := none }) (v := .int .i64 a) rfl (by kernel_rfl) (by kernel_rfl) (by kernel_rfl) (fun _ _ _ h => hPQ _ _ _ _ h) (Or.inl ⟨by rfl, ?_⟩) trivial ?_
  · intro w' _; go_simp; try (with_reducible rfl)
  try simp only [Act.put, List.setIfInBounds_toArray, List.set_cons_zero, List.set_cons_succ]
  refine wpAnyH_take (i := 10) (oi := { dst := some 44, op := Op.move (Operand.tmp 4), type := 113, pos := "search.go:59", after := #[], guard := none }) (v := .slice (some ⟨g, 0, none⟩) q c) rfl (by kernel_rfl) (by kernel_rfl) (by kernel_rfl) (fun _ _ _ h => hPQ _ _ _ _ h) (Or.inl ⟨by rfl, ?_⟩) trivial ?_
  · intro w' _; go_simp; try (with_reducible rfl)
  try simp only [Act.put, List.setIfInBounds_toArray, List.set_cons_zero, List.set_cons_succ]
  refine wpAnyH_take (i := 11) (oi := { dst := some 45, op := Op.move (Operand.tmp 5), type := 3, pos := "search.go:59", after := #[], guard := none }) (v := .int .i64 a) rfl (by kernel_rfl) (by kernel_rfl) (by kernel_rfl) (fun _ _ _ h => hPQ _ _ _ _ h) (Or.inl ⟨by rfl, ?_⟩) trivial ?_
  · intro w' _; go_simp; try (with_reducible rfl)
  try simp only [Act.put, List.setIfInBounds_toArray, List.set_cons_zero, List.set_cons_succ]
  refine wpAnyH_take (i := 12) (oi := { dst := some 46, op := Op.indexAddr 113 (Operand.tmp 44) (Operand.tmp 45), type := 0, pos := "search.go:59", after := #[{ on := 10, ground := Ground.data }, { on := 11, ground := Ground.data }], guard := none }) (v := .pointer (some ⟨g, a * 4, none⟩)) rfl (by kernel_rfl) (by kernel_rfl) (by kernel_rfl) (fun _ _ _ h => hPQ _ _ _ _ h) (Or.inl ⟨by rfl, ?_⟩) trivial ?_
  · intro w' _; go_simp; try (with_reducible rfl)
  try simp only [Act.put, List.setIfInBounds_toArray, List.set_cons_zero, List.set_cons_succ]
  exact n_0 _ rfl
end Go.Proofs.Ytokpdjdpeaccbaa
