/-
  The walk of push, put together.
-/
import Derived.Test.YtokpdjdpeaccbaaGPush
namespace Go.Proofs.Ytokpdjdpeaccbaa
open Go.RowKit

theorem row_slice {w : World} {B : Nat} {e : TypeId} {size n : Nat} {v : Value} {xs : List Value} (h : w.ownsRow B e size v n xs) : ∃ ao cap, v = .slice ao n cap := by
  rcases h.2 with ⟨rfl, rfl⟩ | ⟨g, cap, _, rfl, _⟩
  · exact ⟨none, 0, rfl⟩
  · exact ⟨_, _, rfl⟩
theorem cells_ofW (x : Wy) {w : World} {b : Nat} (h : w.heap[b]? = some (.cells #[.int .i64 x.nd, .int .i64 x.co, .int .i64 x.ns, .int .i64 x.nx] 68 (0, 0))) :
    w.cell? ⟨b, 0, none⟩ = some (.int .i64 x.nd) ∧ w.cell? ⟨b, 1, none⟩ = some (.int .i64 x.co) ∧ w.cell? ⟨b, 2, none⟩ = some (.int .i64 x.ns) ∧ w.cell? ⟨b, 3, none⟩ = some (.int .i64 x.nx) :=
  ⟨cell_of_row _ _ 0 _ _ _ h, cell_of_row _ _ 1 _ _ _ h, cell_of_row _ _ 2 _ _ _ h, cell_of_row _ _ 3 _ _ _ h⟩
/-- A way is put behind. -/
theorem QM.app {o B : Nat} {v : Value} {q : Nat} {L : Nat → Wy} {w w' : World} {x : Wy} {g cap : Nat} (h : QM o B v q L w)
    (hown : w'.ownsRow B 68 4 (.slice (some ⟨g, 0, none⟩) (q + 1) cap) (q + 1) (encW q L ++ wc x)) (hg : w.grownBy w' v.ownBlock) (hat : v.ownBlock = some g ∨ g = w.heap.size) :
    (w'.heap[o]? = some (.cells #[v] 113 (0, 0)) ∧ RowW w' B (.slice (some ⟨g, 0, none⟩) (q + 1) cap) (q + 1) (updG L q x)) ∧ QTurn o v (.slice (some ⟨g, 0, none⟩) (q + 1) cap) w w' := by
  refine ⟨⟨?_, ?_⟩, ⟨hg.os, hg.tape, hg.output, hg.size, fun k hk _ hv => hg.block k hk (fun e => hv e.symm), fun k hk e => ?_⟩⟩
  · exact (hg.block o (heap_lt h.box) (fun e => h.ne e.symm)).trans h.box
  · have : encW (q + 1) (updG L q x) = encW q L ++ wc x := by
      rw [encW_succ, encW_congr (M := L) (fun i hi => by simp [updG]; intro e; omega)]
      simp [updG]
    show w'.ownsRow B _ 4 _ _ (encW (q + 1) _)
    rw [this]
    exact hown
  · simp [Value.ownBlock] at e
    subst e
    rcases hat with h | h
    · exact h
    · omega
def pushOps1 : Array Oper := #[
  { dst := some 6, op := Op.move (Operand.tmp 0), type := 126, pos := "search.go:56", after := #[], guard := none },
  { dst := some 7, op := Op.nilCheck (Operand.tmp 6), type := 0, pos := "search.go:56", after := #[{ on := 0, ground := Ground.data }], guard := none },
  { dst := some 8, op := Op.load 113 (Operand.tmp 7), type := 113, pos := "search.go:56", after := #[{ on := 1, ground := Ground.data }], guard := none },
  { dst := some 9, op := Op.load 68 (Operand.tmp 3), type := 68, pos := "search.go:56", after := #[], guard := none },
  { dst := some 10, op := Op.buildSlice 113 1 #[(0, Operand.tmp 9)], type := 113, pos := "search.go:56", after := #[{ on := 3, ground := Ground.data }], guard := none },
  { dst := some 11, op := Op.call { callee := Callee.builtin Builtin.append, args := #[Operand.tmp 8, Operand.tmp 10], argTypes := #[113, 113] }, type := 113, pos := "search.go:56", after := #[{ on := 2, ground := Ground.data }, { on := 4, ground := Ground.data }], guard := none },
  { dst := some 4, op := Op.assign (Operand.tmp 11), type := 113, pos := "search.go:56", after := #[{ on := 5, ground := Ground.data }, { on := 5, ground := Ground.chain }, { on := 0, ground := Ground.phase }, { on := 1, ground := Ground.phase }, { on := 2, ground := Ground.phase }, { on := 3, ground := Ground.phase }, { on := 4, ground := Ground.phase }, { on := 5, ground := Ground.phase }], guard := none }]
set_option maxRecDepth 100000 in
set_option maxHeartbeats 6400000 in
theorem push_add (o B A q sc : Nat) (so : Option Addr) (L : Nat → Wy) (x : Wy) (w0 : World) (hM0 : QM o B (.slice so q sc) q L w0) (hA0 : w0.heap[A]? = some (.cells #[.int .i64 x.nd, .int .i64 x.co, .int .i64 x.ns, .int .i64 x.nx] 68 (0, 0))) (hB : B ≤ w0.heap.size) (hq : q ≤ 100000000) (r2 r4 r5 r6 r7 r8 r9 r10 r11 r12 r13 r14 r15 r16 r17 r18 r19 r20 r21 r22 r23 r24 r25 r26 r27 r28 r29 r30 r31 r32 r33 r34 r35 r36 r37 r38 r39 r40 r41 r42 r43 r44 r45 r46 r47 r48 r49 : Value) (Q : Exit → Act → World → Prop)
    (hQ : ∀ (wr : World) (g c : Nat), (wr.heap[o]? = some (.cells #[.slice so q sc] 113 (0, 0)) ∧ RowW wr B (.slice (some ⟨g, 0, none⟩) (q + 1) c) (q + 1) (updG L q x)) → QTurn o (.slice so q sc) (.slice (some ⟨g, 0, none⟩) (q + 1) c) w0.drew wr → Q .normal { tmps := #[.pointer (some ⟨o, 0, none⟩), wv x, r2, .pointer (some ⟨A, 0, none⟩), .slice (some ⟨g, 0, none⟩) (q + 1) c, r5, .pointer (some ⟨o, 0, none⟩), .pointer (some ⟨o, 0, none⟩), .slice so q sc, wv x, .slice (some ⟨w0.heap.size, 0, none⟩) 1 1, .slice (some ⟨g, 0, none⟩) (q + 1) c, r12, r13, r14, r15, r16, r17, r18, r19, r20, r21, r22, r23, r24, r25, r26, r27, r28, r29, r30, r31, r32, r33, r34, r35, r36, r37, r38, r39, r40, r41, r42, r43, r44, r45, r46, r47, r48, r49], defers := [] } wr) :
    (Code.region 1 pushOps1 true).wp Try.prog Q { tmps := #[.pointer (some ⟨o, 0, none⟩), wv x, r2, .pointer (some ⟨A, 0, none⟩), r4, r5, r6, r7, r8, r9, r10, r11, r12, r13, r14, r15, r16, r17, r18, r19, r20, r21, r22, r23, r24, r25, r26, r27, r28, r29, r30, r31, r32, r33, r34, r35, r36, r37, r38, r39, r40, r41, r42, r43, r44, r45, r46, r47, r48, r49], defers := [] } w0 := by
  obtain ⟨i0, hi0, hi1, hi2, hi3⟩ := info_parts infoW
  refine wp_region_noPanic ?_
  replace hQ : ∀ (wr : World) (g c : Nat), (wr.heap[o]? = some (.cells #[.slice so q sc] 113 (0, 0)) ∧ RowW wr B (.slice (some ⟨g, 0, none⟩) (q + 1) c) (q + 1) (updG L q x)) → QTurn o (.slice so q sc) (.slice (some ⟨g, 0, none⟩) (q + 1) c) w0.drew wr → NoPanic Q .normal { tmps := #[.pointer (some ⟨o, 0, none⟩), wv x, r2, .pointer (some ⟨A, 0, none⟩), .slice (some ⟨g, 0, none⟩) (q + 1) c, r5, .pointer (some ⟨o, 0, none⟩), .pointer (some ⟨o, 0, none⟩), .slice so q sc, wv x, .slice (some ⟨w0.heap.size, 0, none⟩) 1 1, .slice (some ⟨g, 0, none⟩) (q + 1) c, r12, r13, r14, r15, r16, r17, r18, r19, r20, r21, r22, r23, r24, r25, r26, r27, r28, r29, r30, r31, r32, r33, r34, r35, r36, r37, r38, r39, r40, r41, r42, r43, r44, r45, r46, r47, r48, r49], defers := [] } wr := fun wr g c h h' => NoPanic.normal (hQ wr g c h h')
  generalize hQQ : NoPanic Q = Q at hQ ⊢
  have hPQ : ∀ (c : List PanicEntry) (a a' : Act) (w : World), Q (.panic c) a w → Q (.panic c) a' w := fun c a a' w h => by rw [← hQQ] at h ⊢; exact h
  clear hQQ
  have hM : QM o B (.slice so q sc) q L w0.drew := hM0.stays ((Below.refl _ _).drew)
  have hA : w0.drew.heap[A]? = some (.cells #[.int .i64 x.nd, .int .i64 x.co, .int .i64 x.ns, .int .i64 x.nx] 68 (0, 0)) := hA0
  have hBB : B ≤ w0.drew.heap.size := hB
  refine wp_region_held_drew (S := fun _ => True) (by kernel_rfl) trivial (fun _ => ?_)
  have hQ' : ∀ (wr : World) (g c : Nat), (wr.heap[o]? = some (.cells #[.slice so q sc] 113 (0, 0)) ∧ RowW wr B (.slice (some ⟨g, 0, none⟩) (q + 1) c) (q + 1) (updG L q x)) → QTurn o (.slice so q sc) (.slice (some ⟨g, 0, none⟩) (q + 1) c) w0.drew wr → Q .normal { tmps := #[.pointer (some ⟨o, 0, none⟩), wv x, r2, .pointer (some ⟨A, 0, none⟩), .slice (some ⟨g, 0, none⟩) (q + 1) c, r5, .pointer (some ⟨o, 0, none⟩), .pointer (some ⟨o, 0, none⟩), .slice so q sc, wv x, .slice (some ⟨w0.drew.heap.size, 0, none⟩) 1 1, .slice (some ⟨g, 0, none⟩) (q + 1) c, r12, r13, r14, r15, r16, r17, r18, r19, r20, r21, r22, r23, r24, r25, r26, r27, r28, r29, r30, r31, r32, r33, r34, r35, r36, r37, r38, r39, r40, r41, r42, r43, r44, r45, r46, r47, r48, r49], defers := [] } wr := hQ
  clear hQ hM0 hA0 hB
  revert hM hA hBB hQ'
  generalize w0.drew = w0
  intro hM hA hBB hQ
  have n_2_3_4_5_6 : ∀ (wr : World) (g c : Nat), (wr.heap[o]? = some (.cells #[.slice so q sc] 113 (0, 0)) ∧ RowW wr B (.slice (some ⟨g, 0, none⟩) (q + 1) c) (q + 1) (updG L q x)) ∧ QTurn o (.slice so q sc) (.slice (some ⟨g, 0, none⟩) (q + 1) c) w0 wr → wpAnyH Try.prog .any pushOps1 Q (fun _ => True) 0 #[true, true, true, true, true, true, true] { tmps := #[.pointer (some ⟨o, 0, none⟩), wv x, r2, .pointer (some ⟨A, 0, none⟩), .slice (some ⟨g, 0, none⟩) (q + 1) c, r5, .pointer (some ⟨o, 0, none⟩), .pointer (some ⟨o, 0, none⟩), .slice so q sc, wv x, .slice (some ⟨w0.heap.size, 0, none⟩) 1 1, .slice (some ⟨g, 0, none⟩) (q + 1) c, r12, r13, r14, r15, r16, r17, r18, r19, r20, r21, r22, r23, r24, r25, r26, r27, r28, r29, r30, r31, r32, r33, r34, r35, r36, r37, r38, r39, r40, r41, r42, r43, r44, r45, r46, r47, r48, r49], defers := [] } wr := by
    intro wr g c HF
    exact wpAnyH_done (by kernel_rfl) (hQ _ _ _ HF.1 HF.2) _
  have n_2_3_4_5 : ∀ (wr : World) (g c : Nat), (wr.heap[o]? = some (.cells #[.slice so q sc] 113 (0, 0)) ∧ RowW wr B (.slice (some ⟨g, 0, none⟩) (q + 1) c) (q + 1) (updG L q x)) ∧ QTurn o (.slice so q sc) (.slice (some ⟨g, 0, none⟩) (q + 1) c) w0 wr → wpAnyH Try.prog .any pushOps1 Q (fun _ => True) 1 #[true, true, true, true, true, true, false] { tmps := #[.pointer (some ⟨o, 0, none⟩), wv x, r2, .pointer (some ⟨A, 0, none⟩), r4, r5, .pointer (some ⟨o, 0, none⟩), .pointer (some ⟨o, 0, none⟩), .slice so q sc, wv x, .slice (some ⟨w0.heap.size, 0, none⟩) 1 1, .slice (some ⟨g, 0, none⟩) (q + 1) c, r12, r13, r14, r15, r16, r17, r18, r19, r20, r21, r22, r23, r24, r25, r26, r27, r28, r29, r30, r31, r32, r33, r34, r35, r36, r37, r38, r39, r40, r41, r42, r43, r44, r45, r46, r47, r48, r49], defers := [] } wr := by
    intro wr g c HF
    refine wpAnyH_ready (rs := [6]) (by kernel_rfl) (by simp) ?_
    refine (AllReadyH.cons (o := { dst := some 4, op := Op.assign (Operand.tmp 11), type := 113, pos := "search.go:56", after := #[{ on := 5, ground := Ground.data }, { on := 5, ground := Ground.chain }, { on := 0, ground := Ground.phase }, { on := 1, ground := Ground.phase }, { on := 2, ground := Ground.phase }, { on := 3, ground := Ground.phase }, { on := 4, ground := Ground.phase }, { on := 5, ground := Ground.phase }], guard := none }) rfl (fun K hK => ?_) AllReadyH.nil)
    · skip
      go_simp
      refine hK.out _ _ (trivial) (fun _ => ?_)
      clear hK K
      exact n_2_3_4_5_6 _ (g) (c) (HF)
  have n_2_3_4 : ∀ (wr : World), w0.alloc (.cells #[.int .i64 x.nd, .int .i64 x.co, .int .i64 x.ns, .int .i64 x.nx] 68) = wr → wpAnyH Try.prog .any pushOps1 Q (fun _ => True) 2 #[true, true, true, true, true, false, false] { tmps := #[.pointer (some ⟨o, 0, none⟩), wv x, r2, .pointer (some ⟨A, 0, none⟩), r4, r5, .pointer (some ⟨o, 0, none⟩), .pointer (some ⟨o, 0, none⟩), .slice so q sc, wv x, .slice (some ⟨w0.heap.size, 0, none⟩) 1 1, r11, r12, r13, r14, r15, r16, r17, r18, r19, r20, r21, r22, r23, r24, r25, r26, r27, r28, r29, r30, r31, r32, r33, r34, r35, r36, r37, r38, r39, r40, r41, r42, r43, r44, r45, r46, r47, r48, r49], defers := [] } wr := by
    intro wr  HF
    refine wpAnyH_ready (rs := [5]) (by kernel_rfl) (by simp) ?_
    refine (AllReadyH.cons (o := { dst := some 11, op := Op.call { callee := Callee.builtin Builtin.append, args := #[Operand.tmp 8, Operand.tmp 10], argTypes := #[113, 113] }, type := 113, pos := "search.go:56", after := #[{ on := 2, ground := Ground.data }, { on := 4, ground := Ground.data }], guard := none }) rfl (fun K hK => ?_) AllReadyH.nil)
    · skip
      subst HF
      have hM1 := hM.stays ((Below.refl _ w0).alloc (Nat.le_refl _) (.cells #[.int .i64 x.nd, .int .i64 x.co, .int .i64 x.ns, .int .i64 x.nx] 68))
      have nw := World.news_of_block (heap_new w0 (.cells #[.int .i64 x.nd, .int .i64 x.co, .int .i64 x.ns, .int .i64 x.nx] 68))
      have ht1 := QTurn.of_below (o := o) (.slice so q sc) ((Below.refl _ w0).alloc (Nat.le_refl _) (.cells #[.int .i64 x.nd, .int .i64 x.co, .int .i64 x.ns, .int .i64 x.nx] 68))
      refine step_append_lies _ rfl _ _ 113 rfl B 68 i0 (.agg #[.int .i64 0, .int .i64 0, .int .i64 0, .int .i64 0]) 4 32 Try.underlying113 hi0 hi1 hi2 hi3 rfl (by decide) (.slice so q sc) q (encW q L) rfl hM1.row ⟨w0.heap.size, 0, none⟩ 1 1 (wc x) rfl rfl nw (by intro u hu; simp [wc] at hu; rcases hu with rfl | rfl | rfl | rfl <;> rfl) (by omega) (by unfold maxLen; omega) (by omega) (by simp; omega) _ rfl ?_
      intro g2 c2 w2 hown hgrow hat _
      have hap := hM1.app hown hgrow hat
      refine hK.out _ _ (trivial) (fun _ => ?_)
      clear hK K
      simp only [Act.put, List.setIfInBounds_toArray, List.set_cons_zero, List.set_cons_succ]
      exact n_2_3_4_5 _ (g2) (c2) (⟨hap.1, ht1.trans hap.2⟩)
  have n_3_4 : ∀ (wr : World), w0.alloc (.cells #[.int .i64 x.nd, .int .i64 x.co, .int .i64 x.ns, .int .i64 x.nx] 68) = wr → wpAnyH Try.prog .any pushOps1 Q (fun _ => True) 3 #[true, true, false, true, true, false, false] { tmps := #[.pointer (some ⟨o, 0, none⟩), wv x, r2, .pointer (some ⟨A, 0, none⟩), r4, r5, .pointer (some ⟨o, 0, none⟩), .pointer (some ⟨o, 0, none⟩), r8, wv x, .slice (some ⟨w0.heap.size, 0, none⟩) 1 1, r11, r12, r13, r14, r15, r16, r17, r18, r19, r20, r21, r22, r23, r24, r25, r26, r27, r28, r29, r30, r31, r32, r33, r34, r35, r36, r37, r38, r39, r40, r41, r42, r43, r44, r45, r46, r47, r48, r49], defers := [] } wr := by
    intro wr  HF
    refine wpAnyH_ready (rs := [2]) (by kernel_rfl) (by simp) ?_
    refine (AllReadyH.cons (o := { dst := some 8, op := Op.load 113 (Operand.tmp 7), type := 113, pos := "search.go:56", after := #[{ on := 1, ground := Ground.data }], guard := none }) rfl (fun K hK => ?_) AllReadyH.nil)
    · skip
      have c0 : wr.cell? ⟨o, 0, none⟩ = some (.slice so q sc) := by rw [← HF]; exact (World.cell?_of_block (Below.heap_alloc _ _ _ (heap_lt hM.box))).trans (cell_of_row _ _ 0 _ _ _ hM.box)
      go_simp
      refine hK.out _ _ (trivial) (fun _ => ?_)
      clear hK K
      exact n_2_3_4 _  (HF)
  have n_2_3 : ∀ (wr : World), w0 = wr → wpAnyH Try.prog .any pushOps1 Q (fun _ => True) 3 #[true, true, true, true, false, false, false] { tmps := #[.pointer (some ⟨o, 0, none⟩), wv x, r2, .pointer (some ⟨A, 0, none⟩), r4, r5, .pointer (some ⟨o, 0, none⟩), .pointer (some ⟨o, 0, none⟩), .slice so q sc, wv x, r10, r11, r12, r13, r14, r15, r16, r17, r18, r19, r20, r21, r22, r23, r24, r25, r26, r27, r28, r29, r30, r31, r32, r33, r34, r35, r36, r37, r38, r39, r40, r41, r42, r43, r44, r45, r46, r47, r48, r49], defers := [] } wr := by
    intro wr  HF
    refine wpAnyH_ready (rs := [4]) (by kernel_rfl) (by simp) ?_
    refine (AllReadyH.cons (o := { dst := some 10, op := Op.buildSlice 113 1 #[(0, Operand.tmp 9)], type := 113, pos := "search.go:56", after := #[{ on := 3, ground := Ground.data }], guard := none }) rfl (fun K hK => ?_) AllReadyH.nil)
    · skip
      subst HF
      go_simp
      refine hK.out _ _ (trivial) (fun _ => ?_)
      clear hK K
      exact n_2_3_4 _  (rfl)
  have n_3 : ∀ (wr : World), w0 = wr → wpAnyH Try.prog .any pushOps1 Q (fun _ => True) 4 #[true, true, false, true, false, false, false] { tmps := #[.pointer (some ⟨o, 0, none⟩), wv x, r2, .pointer (some ⟨A, 0, none⟩), r4, r5, .pointer (some ⟨o, 0, none⟩), .pointer (some ⟨o, 0, none⟩), r8, wv x, r10, r11, r12, r13, r14, r15, r16, r17, r18, r19, r20, r21, r22, r23, r24, r25, r26, r27, r28, r29, r30, r31, r32, r33, r34, r35, r36, r37, r38, r39, r40, r41, r42, r43, r44, r45, r46, r47, r48, r49], defers := [] } wr := by
    intro wr  HF
    refine wpAnyH_ready (rs := [2, 4]) (by kernel_rfl) (by simp) ?_
    refine (AllReadyH.cons (o := { dst := some 8, op := Op.load 113 (Operand.tmp 7), type := 113, pos := "search.go:56", after := #[{ on := 1, ground := Ground.data }], guard := none }) rfl (fun K hK => ?_) (AllReadyH.cons (o := { dst := some 10, op := Op.buildSlice 113 1 #[(0, Operand.tmp 9)], type := 113, pos := "search.go:56", after := #[{ on := 3, ground := Ground.data }], guard := none }) rfl (fun K hK => ?_) AllReadyH.nil))
    · skip
      have c0 : wr.cell? ⟨o, 0, none⟩ = some (.slice so q sc) := by rw [← HF]; exact cell_of_row _ _ 0 _ _ _ hM.box
      go_simp
      refine hK.out _ _ (trivial) (fun _ => ?_)
      clear hK K
      exact n_2_3 _  (HF)
    · skip
      subst HF
      go_simp
      refine hK.out _ _ (trivial) (fun _ => ?_)
      clear hK K
      exact n_3_4 _  (rfl)
  have n_2 : ∀ (wr : World), w0 = wr → wpAnyH Try.prog .any pushOps1 Q (fun _ => True) 4 #[true, true, true, false, false, false, false] { tmps := #[.pointer (some ⟨o, 0, none⟩), wv x, r2, .pointer (some ⟨A, 0, none⟩), r4, r5, .pointer (some ⟨o, 0, none⟩), .pointer (some ⟨o, 0, none⟩), .slice so q sc, r9, r10, r11, r12, r13, r14, r15, r16, r17, r18, r19, r20, r21, r22, r23, r24, r25, r26, r27, r28, r29, r30, r31, r32, r33, r34, r35, r36, r37, r38, r39, r40, r41, r42, r43, r44, r45, r46, r47, r48, r49], defers := [] } wr := by
    intro wr  HF
    refine wpAnyH_ready (rs := [3]) (by kernel_rfl) (by simp) ?_
    refine (AllReadyH.cons (o := { dst := some 9, op := Op.load 68 (Operand.tmp 3), type := 68, pos := "search.go:56", after := #[], guard := none }) rfl (fun K hK => ?_) AllReadyH.nil)
    · skip
      subst HF
      obtain ⟨c0, c1, c2, c3⟩ := cells_ofW x hA
      go_simp
      refine hK.out _ _ (trivial) (fun _ => ?_)
      clear hK K
      exact n_2_3 _  (rfl)
  have n_0 : ∀ (wr : World), w0 = wr → wpAnyH Try.prog .any pushOps1 Q (fun _ => True) 5 #[true, true, false, false, false, false, false] { tmps := #[.pointer (some ⟨o, 0, none⟩), wv x, r2, .pointer (some ⟨A, 0, none⟩), r4, r5, .pointer (some ⟨o, 0, none⟩), .pointer (some ⟨o, 0, none⟩), r8, r9, r10, r11, r12, r13, r14, r15, r16, r17, r18, r19, r20, r21, r22, r23, r24, r25, r26, r27, r28, r29, r30, r31, r32, r33, r34, r35, r36, r37, r38, r39, r40, r41, r42, r43, r44, r45, r46, r47, r48, r49], defers := [] } wr := by
    intro wr  HF
    refine wpAnyH_ready (rs := [2, 3]) (by kernel_rfl) (by simp) ?_
    refine (AllReadyH.cons (o := { dst := some 8, op := Op.load 113 (Operand.tmp 7), type := 113, pos := "search.go:56", after := #[{ on := 1, ground := Ground.data }], guard := none }) rfl (fun K hK => ?_) (AllReadyH.cons (o := { dst := some 9, op := Op.load 68 (Operand.tmp 3), type := 68, pos := "search.go:56", after := #[], guard := none }) rfl (fun K hK => ?_) AllReadyH.nil))
    · skip
      have c0 : wr.cell? ⟨o, 0, none⟩ = some (.slice so q sc) := by rw [← HF]; exact cell_of_row _ _ 0 _ _ _ hM.box
      go_simp
      refine hK.out _ _ (trivial) (fun _ => ?_)
      clear hK K
      exact n_2 _  (HF)
    · skip
      subst HF
      obtain ⟨c0, c1, c2, c3⟩ := cells_ofW x hA
      go_simp
      refine hK.out _ _ (trivial) (fun _ => ?_)
      clear hK K
      exact n_3 _  (rfl)
  refine wpAnyH_take (i := 0) (oi := { dst := some 6, op := Op.move (Operand.tmp 0), type := 126, pos := "search.go:56", after := #[], guard := none }) (v := .pointer (some ⟨o, 0, none⟩)) rfl (by kernel_rfl) (by kernel_rfl) (by kernel_rfl) (fun _ _ _ h => hPQ _ _ _ _ h) (Or.inl ⟨by rfl, ?_⟩) trivial ?_
  · intro w' _; go_simp; try (with_reducible rfl)
  try simp only [Act.put, List.setIfInBounds_toArray, List.set_cons_zero, List.set_cons_succ]
  refine wpAnyH_take (i := 1) (oi := { dst := some 7, op := Op.nilCheck (Operand.tmp 6), type := 0, pos := "search.go:56", after := #[{ on := 0, ground := Ground.data }], guard := none }) (v := .pointer (some ⟨o, 0, none⟩)) rfl (by kernel_rfl) (by kernel_rfl) (by kernel_rfl) (fun _ _ _ h => hPQ _ _ _ _ h) (Or.inl ⟨by rfl, ?_⟩) trivial ?_
  · intro w' _; go_simp; try (with_reducible rfl)
  try simp only [Act.put, List.setIfInBounds_toArray, List.set_cons_zero, List.set_cons_succ]
  exact n_0 _ rfl
/-- What push leaves. -/
def Pushed (o B : Nat) (v : Value) (q : Nat) (L : Nat → Wy) (x : Wy) (w : World) (e : Ending) (w' : World) : Prop :=
  e = .returned (.tuple #[]) ∧ ∃ g c L', QM o B (.slice (some ⟨g, 0, none⟩) (q + 1) c) (q + 1) L' w' ∧ QTurn o v (.slice (some ⟨g, 0, none⟩) (q + 1) c) w w' ∧ Heap Wy.rk (q + 1) L' ∧ ∀ y, In (q + 1) L' y ↔ (y = x ∨ In q L y)
theorem QM.boxed {o B : Nat} {v v' : Value} {q : Nat} {L : Nat → Wy} {w : World} (hb : w.heap[o]? = some (.cells #[v] 113 (0, 0))) (hr : RowW w B v' q L) :
    QM o B v' q L (w.setCell ⟨o, 0, none⟩ v') ∧ QTurn o v' v' w (w.setCell ⟨o, 0, none⟩ v') := by
  have hne : v'.ownBlock ≠ some o := by
    rcases hr.2 with ⟨rfl, _⟩ | ⟨g, cap, cur, rfl, _, hg, _⟩
    · simp [Value.ownBlock]
    · intro e
      simp [Value.ownBlock] at e
      subst e
      rw [hb] at hg
      injection hg with hg
      injection hg with _ hg _
      exact absurd hg (by decide)
  exact ⟨⟨heap_setCell_same _ o 0 _ _ _ hb, row_other hr hne _⟩, ⟨rfl, rfl, rfl, by simp [World.setCell], fun k _ h _ => Below.heap_setCell _ _ _ k h, fun _ _ h => h⟩⟩
theorem in_app {q : Nat} {L : Nat → Wy} {x : Wy} (y : Wy) : In (q + 1) (updG L q x) y ↔ (y = x ∨ In q L y) := by
  constructor
  · rintro ⟨i, hi, rfl⟩
    by_cases e : i = q
    · subst e; exact .inl (by simp [updG])
    · exact .inr ⟨i, by omega, by simp [updG, e]⟩
  · rintro (rfl | ⟨i, hi, rfl⟩)
    · exact ⟨q, by omega, by simp [updG]⟩
    · exact ⟨i, by omega, by simp [updG]; intro e; omega⟩
theorem pushed_end {o B n g c q : Nat} {v : Value} {L L' : Nat → Wy} {x : Wy} {w w' : World} (hn : n = q + 1) (hM : QM o B (.slice (some ⟨g, 0, none⟩) n c) n L' w') (hT : QTurn o v (.slice (some ⟨g, 0, none⟩) n c) w w') (hH : Heap Wy.rk n L') (hI : ∀ y, In n L' y ↔ (y = x ∨ In q L y)) :
    Pushed o B v q L x w (.returned (.tuple #[])) w' := by
  subst hn
  exact ⟨rfl, g, c, L', hM, hT, hH, hI⟩
set_option maxRecDepth 100000 in
set_option maxHeartbeats 6400000 in
theorem push_any (o B : Nat) (v : Value) (q : Nat) (L : Nat → Wy) (x : Wy) (hq : q ≤ 100000000) (w : World) (hB : B ≤ w.heap.size) (hM : QM o B v q L w) (hH : Heap Wy.rk q L) :
    Calls Try.prog 78 #[.pointer (some ⟨o, 0, none⟩), wv x] w (Pushed o B v q L x w) := by
  obtain ⟨so, sc, rfl⟩ := row_slice hM.row
  have H := hid hM
  have HHP := hid hH
  have hol := heap_lt hM.box
  clear hM hH
  go_enter Try.func78, Try.ntmps78
  go_wp2
  refine push_add o B w.heap.size q sc so L x _ (H.out.stays ((Below.refl _ _).alloc (Nat.le_refl _) _)) (heap_new _ _) (by simp; omega) hq _ _ _ _ _ _ _ _ _ _ _ _ _ _ _ _ _ _ _ _ _ _ _ _ _ _ _ _ _ _ _ _ _ _ _ _ _ _ _ _ _ _ _ _ _ _ _ _ (fun wr g c hM1 hT1 => ?_)
  rw [World.size_alloc]
  obtain ⟨hbx, hrw⟩ := hM1
  have HT0 : Hid (QTurn o (.slice so q sc) (.slice (some ⟨g, 0, none⟩) (q + 1) c) w wr) := hid ((QTurn.of_below (.slice so q sc) ((Below.refl _ w).alloc (Nat.le_refl _) _)).trans ((QTurn.of_below (.slice so q sc) ((Below.refl _ _).drew)).trans hT1))
  have c0 := cell_of_row wr o 0 _ _ _ hbx
  have f0 := frozen_of_row wr o 0 _ _ hbx
  simp only [List.getElem?_toArray, List.getElem?_cons_zero] at c0
  obtain ⟨h1, h2⟩ := QM.boxed hbx hrw
  have H1 := hid h1
  have HT := hid (HT0.out.trans h2)
  have HU := hid (Up.start Wy.rk HHP.out x)
  have HI : Hid (∀ y, In (q + 1) (updG L q x) y ↔ (y = x ∨ In q L y)) := hid (fun y => in_app y)
  obtain ⟨n, hn⟩ : ∃ n, n = q + 1 := ⟨_, rfl⟩
  have hn1 : 1 ≤ n := by omega
  have hn2 : n ≤ 100000001 := by omega
  have hqn : ((n : Int) - 1) = (q : Int) := by omega
  have hqn' : q < n := by omega
  have hw1 : IntKind.i64.wrap ((n : Int) - 1) = (q : Int) := by rw [IntKind.wrap_i64]; omega
  have HN := hid hn
  rw [← hn] at H1 HT HU HI ⊢
  clear hbx hrw hT1 h1 h2 H HT0 HHP hn
  go_wp2_with fail
  go_loopw [5] (fun av wr => ∃ (a : Nat) (L' : Nat → Wy), a < n ∧ av = .int .i64 a ∧ Hid (QM o B (.slice (some ⟨g, 0, none⟩) n c) n L' wr) ∧ Hid (QTurn o (.slice so q sc) (.slice (some ⟨g, 0, none⟩) n c) w wr) ∧ Hid (Up Wy.rk n a L') ∧ Hid (∀ y, In n L' y ↔ (y = x ∨ In q L y))) (fun av _ => (intOf av).toNat)
  case atStart => exact ⟨q, updG L q x, hqn', rfl, H1, HT, HU, HI⟩
  case round =>
    clear H1 HT HU HI c0 f0
    obtain ⟨a, L', han, rfl, HM, HT, HU, HI⟩ := hrel
    by_cases h0 : 0 < a
    · obtain ⟨p, hp⟩ : ∃ p, (a - 1) / 2 = p := ⟨_, rfl⟩
      have hpn : p < n := by omega
      have ha9 : a ≤ 1000000000 := by omega
      have HP := hid hp
      obtain ⟨b, hb⟩ : ∃ b, decide (lt3 (L' a).rk (L' p).rk) = b := ⟨_, rfl⟩
      have HB := hid hb
      clear hp hb hqn hw1
      go_wp2_with fail
      go_region_held3 (fun w' => QM o B (.slice (some ⟨g, 0, none⟩) n c) n L' w' ∧ w'.cell? ⟨g, a * 4, none⟩ = some (.int .i64 (L' a).nd) ∧ w'.cell? ⟨g, a * 4 + 1, none⟩ = some (.int .i64 (L' a).co) ∧ w'.cell? ⟨g, a * 4 + 2, none⟩ = some (.int .i64 (L' a).ns) ∧ w'.cell? ⟨g, a * 4 + 3, none⟩ = some (.int .i64 (L' a).nx) ∧
          w'.cell? ⟨g, p * 4, none⟩ = some (.int .i64 (L' p).nd) ∧ w'.cell? ⟨g, p * 4 + 1, none⟩ = some (.int .i64 (L' p).co) ∧ w'.cell? ⟨g, p * 4 + 2, none⟩ = some (.int .i64 (L' p).ns) ∧ w'.cell? ⟨g, p * 4 + 3, none⟩ = some (.int .i64 (L' p).nx))
        (first
          | exact qm_keep han hpn (And.intro HM.out trivial) ((Below.refl _ _).drew)
          | exact qm_keep han hpn (by assumption) hbel
          | assumption)
        (first
          | (go_at_call 86; (refine (above_any a p h0 ha9 HP.out _).mono ?_); rintro e w' ⟨rfl, rfl⟩)
          | (go_at_call 46; (refine (better_is b HB.out _).mono ?_); rintro e w2 ⟨rfl, hbel⟩))
      rename_i hh
      have HM2 := hid hh.1
      have HT2 := hid (HT.out.trans ((QTurn.of_below _ ((Below.refl _ _).drew)).trans (QTurn.of_below _ hbel)))
      clear hh HM HT hbel
      cases hbb : b
      · subst hbb
        go_wp2_with fail
        go_end0
        refine pushed_end HN.out HM2.out HT2.out (HU.out.done Wy.rk (fun _ h => ?_)) HI.out
        rw [HP.out] at h
        have := HB.out
        simp [h] at this
      · subst hbb
        have hlt : lt3 (L' a).rk (L' ((a - 1) / 2)).rk := by rw [HP.out]; have := HB.out; simpa using this
        have HU2 := hid (HU.out.swap Wy.rk h0 han hlt)
        have HI2 : Hid (∀ y, In n (swp L' a p) y ↔ (y = x ∨ In q L y)) := hid (fun y => (In.swp han hpn y).trans (HI.out y))
        rw [HP.out] at HU2
        clear hlt HU HI HB
        go_wp2_with fail
        refine push_swap o B g n c a p L' _ HM2.out h0 han hpn HP.out ha9 _ _ _ _ _ _ _ _ _ _ _ _ _ _ _ _ _ _ _ _ _ _ _ _ _ _ _ _ _ _ _ _ _ _ _ _ _ _ _ _ _ _ _ _ _ _ _ _ _ (fun wr3 hP => ?_)
        have HM3 := hid hP.m
        have HT3 := hid (HT2.out.trans ((QTurn.of_below _ ((Below.refl _ _).drew)).trans hP.t))
        simp only [Nat.reduceEqDiff, if_false] at HM3
        clear hP HM2 HT2
        go_wp2_with (go_at_call 86; (refine (above_any a p h0 ha9 HP.out _).mono ?_); rintro e w' ⟨rfl, rfl⟩)
        go_roundw
        case rel => exact ⟨p, swp L' a p, hpn, rfl, HM3, HT3, HU2, HI2⟩
        case measure => simp [intOf]; have := HP.out; omega
    · obtain rfl : a = 0 := by omega
      clear hqn hw1
      go_wp2_with fail
      go_quiet (fail)
      go_wp2_with fail
      go_end0
      exact pushed_end HN.out (HM.out.stays (Joins.below_draws _ _ _)) (HT.out.trans (QTurn.of_below _ (Joins.below_draws _ _ _))) (HU.out.done Wy.rk (fun h => by omega)) HI.out
end Go.Proofs.Ytokpdjdpeaccbaa
