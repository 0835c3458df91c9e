/-
  The walk of pop: the best way is taken out of a queue.
-/
import Derived.Test.YtokpdjdpeaccbaaGBelow
namespace Go.Proofs.Ytokpdjdpeaccbaa
open Go.RowKit

def popOps : Array Oper := #[
  { dst := some 48, op := Op.move (Operand.tmp 3), type := 113, pos := "search.go:76", after := #[], guard := none },
  { dst := some 49, op := Op.move (Operand.tmp 6), type := 3, pos := "search.go:76", after := #[], guard := none },
  { dst := some 50, op := Op.move (Operand.tmp 3), type := 113, pos := "search.go:76", after := #[{ on := 13, ground := Ground.gcOnly Departure.lateStores }], guard := none },
  { dst := some 51, op := Op.move (Operand.tmp 7), type := 3, pos := "search.go:76", after := #[{ on := 13, ground := Ground.gcOnly Departure.lateStores }], guard := none },
  { dst := some 52, op := Op.move (Operand.tmp 3), type := 113, pos := "search.go:76", after := #[], guard := none },
  { dst := some 53, op := Op.move (Operand.tmp 7), type := 3, pos := "search.go:76", after := #[], guard := none },
  { dst := some 54, op := Op.indexAddr 113 (Operand.tmp 52) (Operand.tmp 53), type := 0, pos := "search.go:76", after := #[{ on := 4, ground := Ground.data }, { on := 5, ground := Ground.data }], guard := none },
  { dst := some 55, op := Op.load 68 (Operand.tmp 54), type := 68, pos := "search.go:76", after := #[{ on := 6, ground := Ground.data }], guard := none },
  { dst := some 56, op := Op.move (Operand.tmp 3), type := 113, pos := "search.go:76", after := #[], guard := none },
  { dst := some 57, op := Op.move (Operand.tmp 6), type := 3, pos := "search.go:76", after := #[], guard := none },
  { dst := some 58, op := Op.indexAddr 113 (Operand.tmp 56) (Operand.tmp 57), type := 0, pos := "search.go:76", after := #[{ on := 8, ground := Ground.data }, { on := 9, ground := Ground.data }], guard := none },
  { dst := some 59, op := Op.load 68 (Operand.tmp 58), type := 68, pos := "search.go:76", after := #[{ on := 10, ground := Ground.data }], guard := none },
  { dst := some 60, op := Op.indexAddr 113 (Operand.tmp 48) (Operand.tmp 49), type := 0, pos := "search.go:76", after := #[{ on := 0, ground := Ground.data }, { on := 1, ground := Ground.data }, { on := 0, ground := Ground.phase }, { on := 1, ground := Ground.phase }, { on := 2, ground := Ground.textOnly Departure.lateStores }, { on := 3, ground := Ground.textOnly Departure.lateStores }, { on := 4, ground := Ground.phase }, { on := 5, ground := Ground.phase }, { on := 6, ground := Ground.phase }, { on := 7, ground := Ground.phase }, { on := 8, ground := Ground.textOnly Departure.lateStores }, { on := 9, ground := Ground.textOnly Departure.lateStores }, { on := 10, ground := Ground.textOnly Departure.lateStoresUnsure }, { on := 11, ground := Ground.phase }], guard := none },
  { dst := none, op := Op.store 68 (Operand.tmp 60) (Operand.tmp 55), type := 0, pos := "search.go:76", after := #[{ on := 12, ground := Ground.data }, { on := 7, ground := Ground.data }, { on := 0, ground := Ground.phase }, { on := 1, ground := Ground.phase }, { on := 2, ground := Ground.textOnly Departure.lateStores }, { on := 3, ground := Ground.textOnly Departure.lateStores }, { on := 4, ground := Ground.phase }, { on := 5, ground := Ground.phase }, { on := 6, ground := Ground.phase }, { on := 7, ground := Ground.phase }, { on := 8, ground := Ground.textOnly Departure.lateStores }, { on := 9, ground := Ground.textOnly Departure.lateStores }, { on := 10, ground := Ground.textOnly Departure.lateStoresUnsure }, { on := 11, ground := Ground.phase }], guard := none },
  { dst := some 61, op := Op.indexAddr 113 (Operand.tmp 50) (Operand.tmp 51), type := 0, pos := "search.go:76", after := #[{ on := 2, ground := Ground.data }, { on := 3, ground := Ground.data }, { on := 0, ground := Ground.phase }, { on := 1, ground := Ground.phase }, { on := 2, ground := Ground.phase }, { on := 3, ground := Ground.phase }, { on := 4, ground := Ground.phase }, { on := 5, ground := Ground.phase }, { on := 6, ground := Ground.phase }, { on := 7, ground := Ground.phase }, { on := 8, ground := Ground.phase }, { on := 9, ground := Ground.phase }, { on := 10, ground := Ground.phase }, { on := 11, ground := Ground.phase }, { on := 12, ground := Ground.phase }, { on := 13, ground := Ground.phase }], guard := none },
  { dst := none, op := Op.store 68 (Operand.tmp 61) (Operand.tmp 59), type := 0, pos := "search.go:76", after := #[{ on := 14, ground := Ground.data }, { on := 11, ground := Ground.data }, { on := 13, ground := Ground.chain }, { on := 0, ground := Ground.phase }, { on := 1, ground := Ground.phase }, { on := 2, ground := Ground.phase }, { on := 3, ground := Ground.phase }, { on := 4, ground := Ground.phase }, { on := 5, ground := Ground.phase }, { on := 6, ground := Ground.phase }, { on := 7, ground := Ground.phase }, { on := 8, ground := Ground.phase }, { on := 9, ground := Ground.phase }, { on := 10, ground := Ground.phase }, { on := 11, ground := Ground.phase }, { on := 12, ground := Ground.phase }, { on := 13, ground := Ground.phase }], guard := none }]
set_option maxRecDepth 100000 in
set_option maxHeartbeats 6400000 in
theorem pop_swap (o B g q c a p : Nat) (L : Nat → Wy) (w0 : World) (hM0 : QM o B (.slice (some ⟨g, 0, none⟩) q c) q L w0) (haq : a < q) (hpq : p < q) (r0 r1 r2 r4 r5 r8 r9 r10 r11 r12 r13 r14 r15 r16 r17 r18 r19 r20 r21 r22 r23 r24 r25 r26 r27 r28 r29 r30 r31 r32 r33 r34 r35 r36 r37 r38 r39 r40 r41 r42 r43 r44 r45 r46 r47 r48 r49 r50 r51 r52 r53 r54 r55 r56 r57 r58 r59 r60 r61 r62 : Value) (Q : Exit → Act → World → Prop)
    (hQ : ∀ (wr : World), PM o B g q c a p L w0.drew 2 wr → Q .normal { tmps := #[r0, r1, r2, .slice (some ⟨g, 0, none⟩) q c, r4, r5, .int .i64 a, .int .i64 p, r8, r9, r10, r11, r12, r13, r14, r15, r16, r17, r18, r19, r20, r21, r22, r23, r24, r25, r26, r27, r28, r29, r30, r31, r32, r33, r34, r35, r36, r37, r38, r39, r40, r41, r42, r43, r44, r45, r46, r47, .slice (some ⟨g, 0, none⟩) q c, .int .i64 a, .slice (some ⟨g, 0, none⟩) q c, .int .i64 p, .slice (some ⟨g, 0, none⟩) q c, .int .i64 p, .pointer (some ⟨g, p * 4, none⟩), wv (L p), .slice (some ⟨g, 0, none⟩) q c, .int .i64 a, .pointer (some ⟨g, a * 4, none⟩), wv (L a), .pointer (some ⟨g, a * 4, none⟩), .pointer (some ⟨g, p * 4, none⟩), r62], defers := [] } wr) :
    (Code.region 11 popOps true).wp Try.prog Q { tmps := #[r0, r1, r2, .slice (some ⟨g, 0, none⟩) q c, r4, r5, .int .i64 a, .int .i64 p, r8, r9, r10, r11, r12, r13, r14, r15, r16, r17, r18, r19, r20, r21, r22, r23, r24, r25, r26, r27, r28, r29, r30, r31, r32, r33, r34, r35, r36, r37, r38, r39, r40, r41, r42, r43, r44, r45, r46, r47, r48, r49, r50, r51, r52, r53, r54, r55, r56, r57, r58, r59, r60, r61, r62], defers := [] } w0 := by
  refine wp_region_noPanic ?_
  replace hQ : ∀ (wr : World), PM o B g q c a p L w0.drew 2 wr → NoPanic Q .normal { tmps := #[r0, r1, r2, .slice (some ⟨g, 0, none⟩) q c, r4, r5, .int .i64 a, .int .i64 p, r8, r9, r10, r11, r12, r13, r14, r15, r16, r17, r18, r19, r20, r21, r22, r23, r24, r25, r26, r27, r28, r29, r30, r31, r32, r33, r34, r35, r36, r37, r38, r39, r40, r41, r42, r43, r44, r45, r46, r47, .slice (some ⟨g, 0, none⟩) q c, .int .i64 a, .slice (some ⟨g, 0, none⟩) q c, .int .i64 p, .slice (some ⟨g, 0, none⟩) q c, .int .i64 p, .pointer (some ⟨g, p * 4, none⟩), wv (L p), .slice (some ⟨g, 0, none⟩) q c, .int .i64 a, .pointer (some ⟨g, a * 4, none⟩), wv (L a), .pointer (some ⟨g, a * 4, none⟩), .pointer (some ⟨g, p * 4, none⟩), r62], defers := [] } wr := fun wr h => NoPanic.normal (hQ wr h)
  generalize hQQ : NoPanic Q = Q at hQ ⊢
  have hPQ : ∀ (c : List PanicEntry) (a a' : Act) (w : World), Q (.panic c) a w → Q (.panic c) a' w := fun c a a' w h => by rw [← hQQ] at h ⊢; exact h
  clear hQQ
  have hM : QM o B (.slice (some ⟨g, 0, none⟩) q c) q L w0.drew := hM0.stays ((Below.refl _ _).drew)
  refine wp_region_held_drew (S := fun _ => True) (by kernel_rfl) trivial (fun _ => ?_)
  revert hM hQ
  generalize w0.drew = w0
  intro hQ hM
  clear hM0
  have n_7_11_12_13_14_15 : ∀ (wr : World), PM o B g q c a p L w0 2 wr → wpAnyH Try.prog .any popOps Q (fun _ => True) 0 #[true, true, true, true, true, true, true, true, true, true, true, true, true, true, true, true] { tmps := #[r0, r1, r2, .slice (some ⟨g, 0, none⟩) q c, r4, r5, .int .i64 a, .int .i64 p, r8, r9, r10, r11, r12, r13, r14, r15, r16, r17, r18, r19, r20, r21, r22, r23, r24, r25, r26, r27, r28, r29, r30, r31, r32, r33, r34, r35, r36, r37, r38, r39, r40, r41, r42, r43, r44, r45, r46, r47, .slice (some ⟨g, 0, none⟩) q c, .int .i64 a, .slice (some ⟨g, 0, none⟩) q c, .int .i64 p, .slice (some ⟨g, 0, none⟩) q c, .int .i64 p, .pointer (some ⟨g, p * 4, none⟩), wv (L p), .slice (some ⟨g, 0, none⟩) q c, .int .i64 a, .pointer (some ⟨g, a * 4, none⟩), wv (L a), .pointer (some ⟨g, a * 4, none⟩), .pointer (some ⟨g, p * 4, none⟩), r62], defers := [] } wr := by
    intro wr  HF
    exact wpAnyH_done (by kernel_rfl) (hQ _ HF) _
  have n_7_11_12_13_14 : ∀ (wr : World), PM o B g q c a p L w0 1 wr → wpAnyH Try.prog .any popOps Q (fun _ => True) 1 #[true, true, true, true, true, true, true, true, true, true, true, true, true, true, true, false] { tmps := #[r0, r1, r2, .slice (some ⟨g, 0, none⟩) q c, r4, r5, .int .i64 a, .int .i64 p, r8, r9, r10, r11, r12, r13, r14, r15, r16, r17, r18, r19, r20, r21, r22, r23, r24, r25, r26, r27, r28, r29, r30, r31, r32, r33, r34, r35, r36, r37, r38, r39, r40, r41, r42, r43, r44, r45, r46, r47, .slice (some ⟨g, 0, none⟩) q c, .int .i64 a, .slice (some ⟨g, 0, none⟩) q c, .int .i64 p, .slice (some ⟨g, 0, none⟩) q c, .int .i64 p, .pointer (some ⟨g, p * 4, none⟩), wv (L p), .slice (some ⟨g, 0, none⟩) q c, .int .i64 a, .pointer (some ⟨g, a * 4, none⟩), wv (L a), .pointer (some ⟨g, a * 4, none⟩), .pointer (some ⟨g, p * 4, none⟩), r62], defers := [] } wr := by
    intro wr  HF
    refine wpAnyH_ready (rs := [15]) (by kernel_rfl) (by simp) ?_
    refine (AllReadyH.cons (o := { dst := none, op := Op.store 68 (Operand.tmp 61) (Operand.tmp 59), type := 0, pos := "search.go:76", after := #[{ on := 14, ground := Ground.data }, { on := 11, ground := Ground.data }, { on := 13, ground := Ground.chain }, { on := 0, ground := Ground.phase }, { on := 1, ground := Ground.phase }, { on := 2, ground := Ground.phase }, { on := 3, ground := Ground.phase }, { on := 4, ground := Ground.phase }, { on := 5, ground := Ground.phase }, { on := 6, ground := Ground.phase }, { on := 7, ground := Ground.phase }, { on := 8, ground := Ground.phase }, { on := 9, ground := Ground.phase }, { on := 10, ground := Ground.phase }, { on := 11, ground := Ground.phase }, { on := 12, ground := Ground.phase }, { on := 13, ground := Ground.phase }], guard := none }) rfl (fun K hK => ?_) AllReadyH.nil)
    · skip
      obtain ⟨c0, c1, c2, c3, f0⟩ := HF.m.at_ hpq
      have hs := HF.two
      go_simp
      refine hK.out _ _ (trivial) (fun _ => ?_)
      clear hK K
      exact n_7_11_12_13_14_15 _  (hs)
  have n_7_11_12_13 : ∀ (wr : World), PM o B g q c a p L w0 1 wr → wpAnyH Try.prog .any popOps Q (fun _ => True) 2 #[true, true, true, true, true, true, true, true, true, true, true, true, true, true, false, false] { tmps := #[r0, r1, r2, .slice (some ⟨g, 0, none⟩) q c, r4, r5, .int .i64 a, .int .i64 p, r8, r9, r10, r11, r12, r13, r14, r15, r16, r17, r18, r19, r20, r21, r22, r23, r24, r25, r26, r27, r28, r29, r30, r31, r32, r33, r34, r35, r36, r37, r38, r39, r40, r41, r42, r43, r44, r45, r46, r47, .slice (some ⟨g, 0, none⟩) q c, .int .i64 a, .slice (some ⟨g, 0, none⟩) q c, .int .i64 p, .slice (some ⟨g, 0, none⟩) q c, .int .i64 p, .pointer (some ⟨g, p * 4, none⟩), wv (L p), .slice (some ⟨g, 0, none⟩) q c, .int .i64 a, .pointer (some ⟨g, a * 4, none⟩), wv (L a), .pointer (some ⟨g, a * 4, none⟩), r61, r62], defers := [] } wr := by
    intro wr  HF
    refine wpAnyH_ready (rs := [14]) (by kernel_rfl) (by simp) ?_
    refine (AllReadyH.cons (o := { dst := some 61, op := Op.indexAddr 113 (Operand.tmp 50) (Operand.tmp 51), type := 0, pos := "search.go:76", after := #[{ on := 2, ground := Ground.data }, { on := 3, ground := Ground.data }, { on := 0, ground := Ground.phase }, { on := 1, ground := Ground.phase }, { on := 2, ground := Ground.phase }, { on := 3, ground := Ground.phase }, { on := 4, ground := Ground.phase }, { on := 5, ground := Ground.phase }, { on := 6, ground := Ground.phase }, { on := 7, ground := Ground.phase }, { on := 8, ground := Ground.phase }, { on := 9, ground := Ground.phase }, { on := 10, ground := Ground.phase }, { on := 11, ground := Ground.phase }, { on := 12, ground := Ground.phase }, { on := 13, ground := Ground.phase }], guard := none }) rfl (fun K hK => ?_) AllReadyH.nil)
    · skip
      go_simp
      refine hK.out _ _ (trivial) (fun _ => ?_)
      clear hK K
      exact n_7_11_12_13_14 _  (HF)
  have n_7_11_12 : ∀ (wr : World), w0 = wr → wpAnyH Try.prog .any popOps Q (fun _ => True) 3 #[true, true, true, true, true, true, true, true, true, true, true, true, true, false, false, false] { tmps := #[r0, r1, r2, .slice (some ⟨g, 0, none⟩) q c, r4, r5, .int .i64 a, .int .i64 p, r8, r9, r10, r11, r12, r13, r14, r15, r16, r17, r18, r19, r20, r21, r22, r23, r24, r25, r26, r27, r28, r29, r30, r31, r32, r33, r34, r35, r36, r37, r38, r39, r40, r41, r42, r43, r44, r45, r46, r47, .slice (some ⟨g, 0, none⟩) q c, .int .i64 a, .slice (some ⟨g, 0, none⟩) q c, .int .i64 p, .slice (some ⟨g, 0, none⟩) q c, .int .i64 p, .pointer (some ⟨g, p * 4, none⟩), wv (L p), .slice (some ⟨g, 0, none⟩) q c, .int .i64 a, .pointer (some ⟨g, a * 4, none⟩), wv (L a), .pointer (some ⟨g, a * 4, none⟩), r61, r62], defers := [] } wr := by
    intro wr  HF
    refine wpAnyH_ready (rs := [13]) (by kernel_rfl) (by simp) ?_
    refine (AllReadyH.cons (o := { dst := none, op := Op.store 68 (Operand.tmp 60) (Operand.tmp 55), type := 0, pos := "search.go:76", after := #[{ on := 12, ground := Ground.data }, { on := 7, ground := Ground.data }, { on := 0, ground := Ground.phase }, { on := 1, ground := Ground.phase }, { on := 2, ground := Ground.textOnly Departure.lateStores }, { on := 3, ground := Ground.textOnly Departure.lateStores }, { on := 4, ground := Ground.phase }, { on := 5, ground := Ground.phase }, { on := 6, ground := Ground.phase }, { on := 7, ground := Ground.phase }, { on := 8, ground := Ground.textOnly Departure.lateStores }, { on := 9, ground := Ground.textOnly Departure.lateStores }, { on := 10, ground := Ground.textOnly Departure.lateStoresUnsure }, { on := 11, ground := Ground.phase }], guard := none }) rfl (fun K hK => ?_) AllReadyH.nil)
    · skip
      subst HF
      obtain ⟨c0, c1, c2, c3, f0⟩ := hM.at_ haq
      have hs := pm_one hM a p
      go_simp
      refine hK.out _ _ (trivial) (fun _ => ?_)
      clear hK K
      exact n_7_11_12_13 _  (hs)
  have n_7_11 : ∀ (wr : World), w0 = wr → wpAnyH Try.prog .any popOps Q (fun _ => True) 4 #[true, true, true, true, true, true, true, true, true, true, true, true, false, false, false, false] { tmps := #[r0, r1, r2, .slice (some ⟨g, 0, none⟩) q c, r4, r5, .int .i64 a, .int .i64 p, r8, r9, r10, r11, r12, r13, r14, r15, r16, r17, r18, r19, r20, r21, r22, r23, r24, r25, r26, r27, r28, r29, r30, r31, r32, r33, r34, r35, r36, r37, r38, r39, r40, r41, r42, r43, r44, r45, r46, r47, .slice (some ⟨g, 0, none⟩) q c, .int .i64 a, .slice (some ⟨g, 0, none⟩) q c, .int .i64 p, .slice (some ⟨g, 0, none⟩) q c, .int .i64 p, .pointer (some ⟨g, p * 4, none⟩), wv (L p), .slice (some ⟨g, 0, none⟩) q c, .int .i64 a, .pointer (some ⟨g, a * 4, none⟩), wv (L a), r60, r61, r62], defers := [] } wr := by
    intro wr  HF
    refine wpAnyH_ready (rs := [12]) (by kernel_rfl) (by simp) ?_
    refine (AllReadyH.cons (o := { dst := some 60, op := Op.indexAddr 113 (Operand.tmp 48) (Operand.tmp 49), type := 0, pos := "search.go:76", after := #[{ on := 0, ground := Ground.data }, { on := 1, ground := Ground.data }, { on := 0, ground := Ground.phase }, { on := 1, ground := Ground.phase }, { on := 2, ground := Ground.textOnly Departure.lateStores }, { on := 3, ground := Ground.textOnly Departure.lateStores }, { on := 4, ground := Ground.phase }, { on := 5, ground := Ground.phase }, { on := 6, ground := Ground.phase }, { on := 7, ground := Ground.phase }, { on := 8, ground := Ground.textOnly Departure.lateStores }, { on := 9, ground := Ground.textOnly Departure.lateStores }, { on := 10, ground := Ground.textOnly Departure.lateStoresUnsure }, { on := 11, ground := Ground.phase }], guard := none }) rfl (fun K hK => ?_) AllReadyH.nil)
    · skip
      go_simp
      refine hK.out _ _ (trivial) (fun _ => ?_)
      clear hK K
      exact n_7_11_12 _  (HF)
  have n_11 : ∀ (wr : World), w0 = wr → wpAnyH Try.prog .any popOps Q (fun _ => True) 5 #[true, true, true, true, true, true, true, false, true, true, true, true, false, false, false, false] { tmps := #[r0, r1, r2, .slice (some ⟨g, 0, none⟩) q c, r4, r5, .int .i64 a, .int .i64 p, r8, r9, r10, r11, r12, r13, r14, r15, r16, r17, r18, r19, r20, r21, r22, r23, r24, r25, r26, r27, r28, r29, r30, r31, r32, r33, r34, r35, r36, r37, r38, r39, r40, r41, r42, r43, r44, r45, r46, r47, .slice (some ⟨g, 0, none⟩) q c, .int .i64 a, .slice (some ⟨g, 0, none⟩) q c, .int .i64 p, .slice (some ⟨g, 0, none⟩) q c, .int .i64 p, .pointer (some ⟨g, p * 4, none⟩), r55, .slice (some ⟨g, 0, none⟩) q c, .int .i64 a, .pointer (some ⟨g, a * 4, none⟩), wv (L a), r60, r61, r62], defers := [] } wr := by
    intro wr  HF
    refine wpAnyH_ready (rs := [7]) (by kernel_rfl) (by simp) ?_
    refine (AllReadyH.cons (o := { dst := some 55, op := Op.load 68 (Operand.tmp 54), type := 68, pos := "search.go:76", after := #[{ on := 6, ground := Ground.data }], guard := none }) rfl (fun K hK => ?_) AllReadyH.nil)
    · skip
      subst HF
      obtain ⟨c0, c1, c2, c3, _⟩ := hM.at_ hpq
      go_simp
      refine hK.out _ _ (trivial) (fun _ => ?_)
      clear hK K
      exact n_7_11 _  (rfl)
  have n_7 : ∀ (wr : World), w0 = wr → wpAnyH Try.prog .any popOps Q (fun _ => True) 5 #[true, true, true, true, true, true, true, true, true, true, true, false, false, false, false, false] { tmps := #[r0, r1, r2, .slice (some ⟨g, 0, none⟩) q c, r4, r5, .int .i64 a, .int .i64 p, r8, r9, r10, r11, r12, r13, r14, r15, r16, r17, r18, r19, r20, r21, r22, r23, r24, r25, r26, r27, r28, r29, r30, r31, r32, r33, r34, r35, r36, r37, r38, r39, r40, r41, r42, r43, r44, r45, r46, r47, .slice (some ⟨g, 0, none⟩) q c, .int .i64 a, .slice (some ⟨g, 0, none⟩) q c, .int .i64 p, .slice (some ⟨g, 0, none⟩) q c, .int .i64 p, .pointer (some ⟨g, p * 4, none⟩), wv (L p), .slice (some ⟨g, 0, none⟩) q c, .int .i64 a, .pointer (some ⟨g, a * 4, none⟩), r59, r60, r61, r62], defers := [] } wr := by
    intro wr  HF
    refine wpAnyH_ready (rs := [11]) (by kernel_rfl) (by simp) ?_
    refine (AllReadyH.cons (o := { dst := some 59, op := Op.load 68 (Operand.tmp 58), type := 68, pos := "search.go:76", after := #[{ on := 10, ground := Ground.data }], guard := none }) rfl (fun K hK => ?_) AllReadyH.nil)
    · skip
      subst HF
      obtain ⟨c0, c1, c2, c3, _⟩ := hM.at_ haq
      go_simp
      refine hK.out _ _ (trivial) (fun _ => ?_)
      clear hK K
      exact n_7_11 _  (rfl)
  have n_0 : ∀ (wr : World), w0 = wr → wpAnyH Try.prog .any popOps Q (fun _ => True) 6 #[true, true, true, true, true, true, true, false, true, true, true, false, false, false, false, false] { tmps := #[r0, r1, r2, .slice (some ⟨g, 0, none⟩) q c, r4, r5, .int .i64 a, .int .i64 p, r8, r9, r10, r11, r12, r13, r14, r15, r16, r17, r18, r19, r20, r21, r22, r23, r24, r25, r26, r27, r28, r29, r30, r31, r32, r33, r34, r35, r36, r37, r38, r39, r40, r41, r42, r43, r44, r45, r46, r47, .slice (some ⟨g, 0, none⟩) q c, .int .i64 a, .slice (some ⟨g, 0, none⟩) q c, .int .i64 p, .slice (some ⟨g, 0, none⟩) q c, .int .i64 p, .pointer (some ⟨g, p * 4, none⟩), r55, .slice (some ⟨g, 0, none⟩) q c, .int .i64 a, .pointer (some ⟨g, a * 4, none⟩), r59, r60, r61, r62], defers := [] } wr := by
    intro wr  HF
    refine wpAnyH_ready (rs := [7, 11]) (by kernel_rfl) (by simp) ?_
    refine (AllReadyH.cons (o := { dst := some 55, op := Op.load 68 (Operand.tmp 54), type := 68, pos := "search.go:76", after := #[{ on := 6, ground := Ground.data }], guard := none }) rfl (fun K hK => ?_) (AllReadyH.cons (o := { dst := some 59, op := Op.load 68 (Operand.tmp 58), type := 68, pos := "search.go:76", after := #[{ on := 10, ground := Ground.data }], guard := none }) rfl (fun K hK => ?_) AllReadyH.nil))
    · skip
      subst HF
      obtain ⟨c0, c1, c2, c3, _⟩ := hM.at_ hpq
      go_simp
      refine hK.out _ _ (trivial) (fun _ => ?_)
      clear hK K
      exact n_7 _  (rfl)
    · skip
      subst HF
      obtain ⟨c0, c1, c2, c3, _⟩ := hM.at_ haq
      go_simp
      refine hK.out _ _ (trivial) (fun _ => ?_)
      clear hK K
      exact n_11 _  (rfl)
  refine wpAnyH_take (i := 0) (oi := { dst := some 48, op := Op.move (Operand.tmp 3), type := 113, pos := "search.go:76", after := #[], guard := none }) (v := .slice (some ⟨g, 0, none⟩) q c) rfl (by kernel_rfl) (by kernel_rfl) (by kernel_rfl) (fun _ _ _ h => hPQ _ _ _ _ h) (Or.inl ⟨by rfl, ?_⟩) trivial ?_
  · intro w' _; go_simp; try (with_reducible rfl)
  try simp only [Act.put, List.setIfInBounds_toArray, List.set_cons_zero, List.set_cons_succ]
  refine wpAnyH_take (i := 1) (oi := { dst := some 49, op := Op.move (Operand.tmp 6), type := 3, pos := "search.go:76", after := #[], guard := none }) (v := .int .i64 a) rfl (by kernel_rfl) (by kernel_rfl) (by kernel_rfl) (fun _ _ _ h => hPQ _ _ _ _ h) (Or.inl ⟨by rfl, ?_⟩) trivial ?_
  · intro w' _; go_simp; try (with_reducible rfl)
  try simp only [Act.put, List.setIfInBounds_toArray, List.set_cons_zero, List.set_cons_succ]
  refine wpAnyH_take (i := 2) (oi := { dst := some 50, op := Op.move (Operand.tmp 3), type := 113, pos := "search.go:76", after := #[{ on := 13, ground := Ground.gcOnly Departure.lateStores }], guard := none }) (v := .slice (some ⟨g, 0, none⟩) q c) rfl (by kernel_rfl) (by kernel_rfl) (by kernel_rfl) (fun _ _ _ h => hPQ _ _ _ _ h) (Or.inl ⟨by rfl, ?_⟩) trivial ?_
  · intro w' _; go_simp; try (with_reducible rfl)
  try simp only [Act.put, List.setIfInBounds_toArray, List.set_cons_zero, List.set_cons_succ]
  refine wpAnyH_take (i := 3) (oi := { dst := some 51, op := Op.move (Operand.tmp 7), type := 3, pos := "search.go:76", after := #[{ on := 13, ground := Ground.gcOnly Departure.lateStores }], guard := none }) (v := .int .i64 p) rfl (by kernel_rfl) (by kernel_rfl) (by kernel_rfl) (fun _ _ _ h => hPQ _ _ _ _ h) (Or.inl ⟨by rfl, ?_⟩) trivial ?_
  · intro w' _; go_simp; try (with_reducible rfl)
  try simp only [Act.put, List.setIfInBounds_toArray, List.set_cons_zero, List.set_cons_succ]
  refine wpAnyH_take (i := 4) (oi := { dst := some 52, op := Op.move (Operand.tmp 3), type := 113, pos := "search.go:76", after := #[], guard := none }) (v := .slice (some ⟨g, 0, none⟩) q c) rfl (by kernel_rfl) (by kernel_rfl) (by kernel_rfl) (fun _ _ _ h => hPQ _ _ _ _ h) (Or.inl ⟨by rfl, ?_⟩) trivial ?_
  · intro w' _; go_simp; try (with_reducible rfl)
  try simp only [Act.put, List.setIfInBounds_toArray, List.set_cons_zero, List.set_cons_succ]
  refine wpAnyH_take (i := 5) (oi := { dst := some 53, op := Op.move (Operand.tmp 7), type := 3, pos := "search.go:76", after := #[], guard := none }) (v := .int .i64 p) rfl (by kernel_rfl) (by kernel_rfl) (by kernel_rfl) (fun _ _ _ h => hPQ _ _ _ _ h) (Or.inl ⟨by rfl, ?_⟩) trivial ?_
  · intro w' _; go_simp; try (with_reducible rfl)
  try simp only [Act.put, List.setIfInBounds_toArray, List.set_cons_zero, List.set_cons_succ]
  refine wpAnyH_take (i := 6) (oi := { dst := some 54, op := Op.indexAddr 113 (Operand.tmp 52) (Operand.tmp 53), type := 0, pos := "search.go:76", after := #[{ on := 4, ground := Ground.data }, { on := 5, ground := Ground.data }], guard := none }) (v := .pointer (some ⟨g, p * 4, none⟩)) rfl (by kernel_rfl) (by kernel_rfl) (by kernel_rfl) (fun _ _ _ h => hPQ _ _ _ _ h) (Or.inl ⟨by rfl, ?_⟩) trivial ?_
  · intro w' _; go_simp; try (with_reducible rfl)
  try simp only [Act.put, List.setIfInBounds_toArray, List.set_cons_zero, List.set_cons_succ]
  refine wpAnyH_take (i := 8) (oi := { dst := some 56, op := Op.move (Operand.tmp 3), type := 113, pos := "search.go:76", after := #[], guard := none }) (v := .slice (some ⟨g, 0, none⟩) q c) rfl (by kernel_rfl) (by kernel_rfl) (by kernel_rfl) (fun _ _ _ h => hPQ _ _ _ _ h) (Or.inl ⟨by rfl, ?_⟩) trivial ?_
  · intro w' _; go_simp; try (with_reducible rfl)
  try simp only [Act.put, List.setIfInBounds_toArray, List.set_cons_zero, List.set_cons_succ]
  refine wpAnyH_take (i := 9) (oi := { dst := some 57, op := Op.move (Operand.tmp 6), type := 3, pos := "search.go:76", after := #[], guard := none }) (v := .int .i64 a) rfl (by kernel_rfl) (by kernel_rfl) (by kernel_rfl) (fun _ _ _ h => hPQ _ _ _ _ h) (Or.inl ⟨by rfl, ?_⟩) trivial ?_
  · intro w' _; go_simp; try (with_reducible rfl)
  try simp only [Act.put, List.setIfInBounds_toArray, List.set_cons_zero, List.set_cons_succ]
  refine wpAnyH_take (i := 10) (oi := { dst := some 58, op := Op.indexAddr 113 (Operand.tmp 56) (Operand.tmp 57), type := 0, pos := "search.go:76", after := #[{ on := 8, ground := Ground.data }, { on := 9, ground := Ground.data }], guard := none }) (v := .pointer (some ⟨g, a * 4, none⟩)) rfl (by kernel_rfl) (by kernel_rfl) (by kernel_rfl) (fun _ _ _ h => hPQ _ _ _ _ h) (Or.inl ⟨by rfl, ?_⟩) trivial ?_
  · intro w' _; go_simp; try (with_reducible rfl)
  try simp only [Act.put, List.setIfInBounds_toArray, List.set_cons_zero, List.set_cons_succ]
  exact n_0 _ rfl
/-- The last element is left behind. -/
theorem RowW.cut {w : World} {B g q c : Nat} {L : Nat → Wy} (h : RowW w B (.slice (some ⟨g, 0, none⟩) (q + 1) c) (q + 1) L) : RowW w B (.slice (some ⟨g, 0, none⟩) q c) q L := by
  have h' : w.ownsRow B 68 4 (.slice (some ⟨g, 0, none⟩) (q + 1) c) (q + 1) (encW q L ++ wc (L q)) := by rw [← encW_succ]; exact h
  exact ownsRow_pop (encW_length q L) h'
theorem QTurn.cut {o g n m c : Nat} {w w' : World} (h : QTurn o (.slice (some ⟨g, 0, none⟩) n c) (.slice (some ⟨g, 0, none⟩) n c) w w') : QTurn o (.slice (some ⟨g, 0, none⟩) m c) (.slice (some ⟨g, 0, none⟩) n c) w w' :=
  ⟨h.os, h.tape, h.output, h.size, h.block, h.own⟩
/-- The two boxes: of the result, and of the best way. -/
structure BXs (R : Nat) (x y : Wy) (w : World) : Prop where
  r : w.heap[R]? = some (.cells #[.int .i64 x.nd, .int .i64 x.co, .int .i64 x.ns, .int .i64 x.nx] 68 (0, 0))
  b : w.heap[R + 1]? = some (.cells #[.int .i64 y.nd, .int .i64 y.co, .int .i64 y.ns, .int .i64 y.nx] 68 (0, 0))
theorem BXs.turn {R o g n c : Nat} {x y : Wy} {v' : Value} {w w' : World} (h : BXs R x y w) (t : QTurn o (.slice (some ⟨g, 0, none⟩) n c) v' w w') (ho : o < R) (hg : g < R) : BXs R x y w' :=
  ⟨(t.block R (heap_lt h.r) (by omega) (by simp [Value.ownBlock]; omega)).trans h.r, (t.block (R + 1) (heap_lt h.b) (by omega) (by simp [Value.ownBlock]; omega)).trans h.b⟩
def nilW : Wy := ⟨0, 0, 0, 0⟩
/-- What pop leaves. -/
def Popped (o B g c : Nat) (q : Nat) (L : Nat → Wy) (w : World) (e : Ending) (w' : World) : Prop :=
  e = .returned (wv (L 0)) ∧ ∃ L', QM o B (.slice (some ⟨g, 0, none⟩) q c) q L' w' ∧ QTurn o (.slice (some ⟨g, 0, none⟩) (q + 1) c) (.slice (some ⟨g, 0, none⟩) q c) w w' ∧ Heap Wy.rk q L' ∧ (∀ y, In q L' y → In (q + 1) L y) ∧ ∀ i, 0 < i → i < q + 1 → In q L' (L i)
theorem BXs.fin {R : Nat} {x y : Wy} {w : World} (h : BXs R x y w) (z : Wy) :
    (((((w.setCell ⟨R, 0, none⟩ (.int .i64 z.nd)).setCell ⟨R, 1, none⟩ (.int .i64 z.co)).setCell ⟨R, 2, none⟩ (.int .i64 z.ns)).setCell ⟨R, 3, none⟩ (.int .i64 z.nx))).heap[R]? = some (.cells #[.int .i64 z.nd, .int .i64 z.co, .int .i64 z.ns, .int .i64 z.nx] 68 (0, 0)) := set4 h.r _ _ _ _
theorem popped_end {o B g c q R : Nat} {L L' : Nat → Wy} {w w' : World} (hM : QM o B (.slice (some ⟨g, 0, none⟩) q c) q L' w') (hT : QTurn o (.slice (some ⟨g, 0, none⟩) (q + 1) c) (.slice (some ⟨g, 0, none⟩) q c) w w') (hH : Heap Wy.rk q L')
    (hI : (∀ y, In q L' y → In (q + 1) L y) ∧ ∀ i, 0 < i → i < q + 1 → In q L' (L i)) (ho : o < R) (hg : g < R) (hR : w.heap.size = R) :
    Popped o B g c q L w (.returned (wv (L 0))) ((((w'.setCell ⟨R, 0, none⟩ (.int .i64 (L 0).nd)).setCell ⟨R, 1, none⟩ (.int .i64 (L 0).co)).setCell ⟨R, 2, none⟩ (.int .i64 (L 0).ns)).setCell ⟨R, 3, none⟩ (.int .i64 (L 0).nx)) := by
  refine ⟨rfl, L', ⟨(put_other _ _ _ _ _ _ _ _ (by omega)).trans hM.box, ?_⟩, ⟨hT.os, hT.tape, hT.output, by simpa [World.setCell] using hT.size, fun k hk h1 h2 => (put_other _ _ _ _ _ _ _ _ (by omega)).trans (hT.block k hk h1 h2), hT.own⟩, hH, hI.1, hI.2⟩
  exact row_other (row_other (row_other (row_other hM.row (by simp [Value.ownBlock]; omega) _) (by simp [Value.ownBlock]; omega) _) (by simp [Value.ownBlock]; omega) _) (by simp [Value.ownBlock]; omega) _
theorem in_cut {q : Nat} {L : Nat → Wy} : (∀ y, In q (updG L 0 (L q)) y → In (q + 1) L y) ∧ ∀ i, 0 < i → i < q + 1 → In q (updG L 0 (L q)) (L i) := by
  refine ⟨fun y => ?_, fun i h0 hi => ?_⟩
  · rintro ⟨i, hi, rfl⟩
    by_cases e : i = 0
    · subst e; exact ⟨q, by omega, by simp [updG]⟩
    · exact ⟨i, by omega, by simp [updG, e]⟩
  · by_cases e : i = q
    · subst e; exact ⟨0, h0, by simp [updG]⟩
    · exact ⟨i, by omega, by simp [updG]; intro e; omega⟩
set_option maxRecDepth 100000 in
set_option maxHeartbeats 6400000 in
theorem pop_any (o B g c : Nat) (q : Nat) (L : Nat → Wy) (hq : q ≤ 100000000) (w : World) (hM : QM o B (.slice (some ⟨g, 0, none⟩) (q + 1) c) (q + 1) L w) (hH : Heap Wy.rk (q + 1) L) :
    Calls Try.prog 79 #[.pointer (some ⟨o, 0, none⟩)] w (Popped o B g c q L w) := by
  have H := hid hM
  have HHP := hid hH
  have hol := heap_lt hM.box
  have hqc : q ≤ c := by
    rcases hM.row.2 with ⟨h, _⟩ | ⟨g', c', cur, e, _, _, h1, _⟩
    · cases h
    · cases e; omega
  have hgl := (hM.row.lt g rfl).2
  have h2 := bx2_start w 68 68 #[.int .i64 0, .int .i64 0, .int .i64 0, .int .i64 0] #[.int .i64 (L 0).nd, .int .i64 (L 0).co, .int .i64 (L 0).ns, .int .i64 (L 0).nx]
  have hM2 := hM.stays h2.below
  have HT2 := hid (QTurn.of_below (o := o) (.slice (some ⟨g, 0, none⟩) (q + 1) c) h2.below)
  have HX := hid h2
  have c0 := cell_of_row w o 0 _ _ _ hM.box
  simp only [List.getElem?_toArray, List.getElem?_cons_zero] at c0
  obtain ⟨a0, a1, a2, a3, af⟩ := hM.at_ (i := 0) (by omega)
  simp only [Nat.zero_mul, Nat.zero_add] at a0 a1 a2 a3
  have hne : g ≠ o := fun e => hM.ne (by simp [Value.ownBlock, e])
  have hne' : o ≠ g := Ne.symm hne
  have ew : IntKind.i64.wrap (((q + 1 : Nat) : Int) - 1) = (q : Int) := by rw [IntKind.wrap_i64]; omega
  have HM2 := hid hM2
  clear hM hH h2 hM2
  go_enter Try.func79, Try.ntmps79
  go_upto_region 4 with fail
  clear c0 a0 a1 a2 a3 af
  generalize (w.alloc _).alloc _ = w2 at HM2 HT2 HX ⊢
  have c0 := cell_of_row w2 o 0 _ _ _ HM2.out.box
  have f0 := frozen_of_row w2 o 0 _ _ HM2.out.box
  simp only [List.getElem?_toArray, List.getElem?_cons_zero] at c0
  obtain ⟨a0, a1, a2, a3, af⟩ := HM2.out.at_ (i := 0) (by omega)
  obtain ⟨b0, b1, b2, b3, _⟩ := HM2.out.at_ (i := q) (by omega)
  simp only [Nat.zero_mul, Nat.zero_add] at a0 a1 a2 a3
  obtain ⟨p1, p2⟩ := HM2.out.put 0 (L q)
  simp only [Nat.zero_mul, Nat.zero_add] at p1 p2
  obtain ⟨p3, p4⟩ := QM.boxed p1.box p1.row.cut
  have H1 := hid p3
  have HT := hid (HT2.out.trans (p2.trans (QTurn.cut p4)))
  have HD := hid (Down.start Wy.rk HHP.out)
  have HI1 : Hid (∀ y, In q (updG L 0 (L q)) y → In (q + 1) L y) := hid (in_cut).1
  have HI2 : Hid (∀ i, 0 < i → i < q + 1 → In q (updG L 0 (L q)) (L i)) := hid (in_cut).2
  have HZ0 : BXs w.heap.size nilW (L 0) w2 := ⟨HX.out.hb, HX.out.hr⟩
  have HZ := hid ((HZ0.turn p2 hol hgl).turn (o := o) (g := g) p4 hol hgl)
  clear p1 p2 p3 p4 HT2 HHP HZ0 HX H
  obtain ⟨R, hR⟩ : ∃ R, w.heap.size = R := ⟨_, rfl⟩
  have HR := hid hR
  rw [hR] at HZ ⊢
  rw [hR] at hol hgl
  clear hR
  go_wp2_with fail
  go_loopw [6] (fun av wr => ∃ (a : Nat) (L' : Nat → Wy), a ≤ q ∧ av = .int .i64 a ∧ Hid (QM o B (.slice (some ⟨g, 0, none⟩) q c) q L' wr) ∧ Hid (QTurn o (.slice (some ⟨g, 0, none⟩) (q + 1) c) (.slice (some ⟨g, 0, none⟩) q c) w wr) ∧ Hid (Down Wy.rk q a L') ∧ Hid ((∀ y, In q L' y → In (q + 1) L y) ∧ ∀ i, 0 < i → i < q + 1 → In q L' (L i)) ∧ Hid (BXs R nilW (L 0) wr)) (fun av _ => q - (intOf av).toNat)
  case atStart => exact ⟨0, updG L 0 (L q), by omega, rfl, H1, HT, HD, hid ⟨HI1.out, HI2.out⟩, HZ⟩
  case round =>
    clear H1 HT HD HI1 HI2 HZ HM2 c0 f0 a0 a1 a2 a3 af b0 b1 b2 b3 ew
    obtain ⟨a, L', haq, rfl, HM, HT, HD, HI, HZ⟩ := hrel
    have ha9 : a ≤ 100000001 := by omega
    have hq9 : q ≤ 100000001 := by omega
    go_wp2_with fail
    refine (below_any B g q c a L' hq9 ha9 _ HM.out.row).mono ?_
    rintro e w3 ⟨b, hbet, hb2, rfl, hbel⟩
    have HBT := hid hbet
    have HM3 := hid (HM.out.stays hbel)
    have HT3 := hid (HT.out.trans (QTurn.of_below _ hbel))
    have HZ3 := hid (HZ.out.turn (o := o) (g := g) (n := q) (c := c) (QTurn.of_below _ hbel) hol hgl)
    have hab : a < b := by rcases hbet with ⟨h, _⟩ | ⟨h, _⟩ <;> omega
    clear hbet hb2 hbel HM HT HZ
    by_cases hbq : b < q
    · have haq' : a < q := by omega
      have hd : decide (q ≤ b) = false := by simp; omega
      obtain ⟨t, ht⟩ : ∃ t, decide (lt3 (L' b).rk (L' a).rk) = t := ⟨_, rfl⟩
      have HB := hid ht
      clear ht
      go_wp2_with fail
      go_region_held3 (fun w' => QM o B (.slice (some ⟨g, 0, none⟩) q c) q L' w' ∧ w'.cell? ⟨g, b * 4, none⟩ = some (.int .i64 (L' b).nd) ∧ w'.cell? ⟨g, b * 4 + 1, none⟩ = some (.int .i64 (L' b).co) ∧ w'.cell? ⟨g, b * 4 + 2, none⟩ = some (.int .i64 (L' b).ns) ∧ w'.cell? ⟨g, b * 4 + 3, none⟩ = some (.int .i64 (L' b).nx) ∧
          w'.cell? ⟨g, a * 4, none⟩ = some (.int .i64 (L' a).nd) ∧ w'.cell? ⟨g, a * 4 + 1, none⟩ = some (.int .i64 (L' a).co) ∧ w'.cell? ⟨g, a * 4 + 2, none⟩ = some (.int .i64 (L' a).ns) ∧ w'.cell? ⟨g, a * 4 + 3, none⟩ = some (.int .i64 (L' a).nx))
        (first
          | exact qm_keep hbq haq' (And.intro HM3.out trivial) ((Below.refl _ _).drew)
          | exact qm_keep hbq haq' (by assumption) hbel
          | assumption)
        (first
          | (go_at_call 46; (refine (better_is t HB.out _).mono ?_); rintro e w4 ⟨rfl, hbel⟩))
      rename_i hh
      have HM4 := hid hh.1
      have hbb : Below w3.heap.size w3 w4 := Below.trans (a := w3) (b := w3.drew) ((Below.refl _ _).drew) hbel
      have HT4 := hid (HT3.out.trans (QTurn.of_below _ hbb))
      have HZ4 := hid (HZ3.out.turn (o := o) (g := g) (n := q) (c := c) (QTurn.of_below _ hbb) hol hgl)
      clear hh HM3 HT3 HZ3 hbel hbb
      cases htt : t
      · subst htt
        obtain ⟨y0, y1, y2, y3⟩ := cells_ofW (L 0) HZ4.out.b
        obtain ⟨x0, x1, x2, x3⟩ := cells_ofW nilW HZ4.out.r
        have xf : ∀ j, w4.frozen? ⟨R, j, none⟩ = false := fun j => frozen_of_row w4 R j _ _ HZ4.out.r
        have hfin := HZ4.out.fin (L 0)
        have hend := popped_end HM4.out HT4.out (HD.out.done Wy.rk HBT.out (fun _ h => by have := HB.out; simp [h] at this)) HI.out hol hgl HR.out
        obtain ⟨z0, z1, z2, z3⟩ := cells_ofW (L 0) hfin
        go_wp2_with fail
        exact bodyPost_ret (v := wv (L 0)) (by simp [results, Try.results79, go_sem, z0, z1, z2, z3]) rfl hend
      · subst htt
        have hlt : lt3 (L' b).rk (L' a).rk := by have := HB.out; simpa using this
        have HD2 := hid (HD.out.swap Wy.rk HBT.out hbq hlt)
        have HI2 : Hid ((∀ y, In q (swp L' a b) y → In (q + 1) L y) ∧ ∀ i, 0 < i → i < q + 1 → In q (swp L' a b) (L i)) := hid ⟨fun y hy => HI.out.1 y ((In.swp haq' hbq y).1 hy), fun i h0 hi => (In.swp haq' hbq _).2 (HI.out.2 i h0 hi)⟩
        clear hlt HD HI HB HBT
        go_wp2_with fail
        refine pop_swap o B g q c a b L' _ HM4.out haq' hbq _ _ _ _ _ _ _ _ _ _ _ _ _ _ _ _ _ _ _ _ _ _ _ _ _ _ _ _ _ _ _ _ _ _ _ _ _ _ _ _ _ _ _ _ _ _ _ _ _ _ _ _ _ _ _ _ _ _ _ _ _ (fun wr3 hP => ?_)
        have HM5 := hid hP.m
        have ht5 := (QTurn.of_below (o := o) (.slice (some ⟨g, 0, none⟩) q c) (w := w4) ((Below.refl _ _).drew)).trans hP.t
        have HT5 := hid (HT4.out.trans ht5)
        have HZ5 := hid (HZ4.out.turn ht5 hol hgl)
        simp only [Nat.reduceEqDiff, if_false] at HM5
        clear hP HM4 HT4 HZ4 ht5
        go_wp2_with fail
        go_roundw
        case rel => exact ⟨b, swp L' a b, by omega, rfl, HM5, HT5, HD2, HI2, HZ5⟩
        case measure => simp [intOf]; omega
    · have hd : decide (q ≤ b) = true := by simp; omega
      obtain ⟨y0, y1, y2, y3⟩ := cells_ofW (L 0) HZ3.out.b
      obtain ⟨x0, x1, x2, x3⟩ := cells_ofW nilW HZ3.out.r
      have xf : ∀ j, w3.frozen? ⟨R, j, none⟩ = false := fun j => frozen_of_row w3 R j _ _ HZ3.out.r
      go_wp2_with fail
      go_quiet (fail)
      have HM4 := hid (HM3.out.stays (Joins.below_draws _ _ nq))
      have HT4 := hid (HT3.out.trans (QTurn.of_below _ (Joins.below_draws _ _ nq)))
      have HZ4 := hid (HZ3.out.turn (o := o) (g := g) (n := q) (c := c) (QTurn.of_below _ (Joins.below_draws _ _ nq)) hol hgl)
      have hfin := HZ4.out.fin (L 0)
      have hend := popped_end HM4.out HT4.out (HD.out.done Wy.rk HBT.out (fun h => by omega)) HI.out hol hgl HR.out
      obtain ⟨z0, z1, z2, z3⟩ := cells_ofW (L 0) hfin
      clear hfin HM4 HT4 HZ4
      go_wp2_with fail
      exact bodyPost_ret (v := wv (L 0)) (by simp [results, Try.results79, go_sem, z0, z1, z2, z3]) rfl hend
end Go.Proofs.Ytokpdjdpeaccbaa
