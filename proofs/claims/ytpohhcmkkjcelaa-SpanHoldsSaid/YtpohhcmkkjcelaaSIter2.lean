/-
  The iterator between the heads for a body that may write everywhere but into the iterator's span; AppendSeq.
-/
import Derived.Test.YtpohhcmkkjcelaaSOver
import Derived.RangeFuncBox
import Derived.Maps.AppendAt
namespace Go.Proofs.Ytpohhcmkkjcelaa
open Go.RowKit Go.Shelf
attribute [local go_sem] Oper.semAt_some wide_fn wide_depth

/-- A block lies as it lay. -/
def SameB (m : Nat) (A B : World) : Prop := B.heap[m]? = A.heap[m]?
set_option maxRecDepth 100000 in
set_option maxHeartbeats 3200000 in
theorem iter_stops2 (m : Nat) {W H : Nat} (hW1 : 4 ≤ W) (hW : W ≤ 32) {ao : Option Addr} {n cap : Nat} {Z : Nat → Int} {k u : Int} {a b : Nat} (ha : a ≤ 1024) (hb0 : b ≤ 1024) (hl : Line W a b) (d c : Nat) (hd : d = stp W a b) (hc : c = cnt d a b) {w wr : World} (h : MB W H ao n cap Z k a b u w wr) {A : Nat} (hA : A = w.heap.size) :
    SeqStopsK Fence.wide m Try.prog 74 #[.pointer (some ⟨A, 0, none⟩), .pointer (some ⟨A + 1, 0, none⟩)] (encT a d c) (SameB (A + 1))
      (fun xs => xs = List.finRange c) (fun pre => pre <+: List.finRange c) c wr := fun l J Jx W1 hW1' hJ hJx hY h0 => by
  subst hA
  have H1 := hid (h.stays hW1')
  have hsp := stp_pos (W := W) (a := a) (b := b) hW1
  have hML : ∀ i, a + (i + 1) * stp W a b < b ↔ i < cnt (stp W a b) a b := fun i => mid_lt hsp.1 hl.1
  rw [← hd] at hML hsp
  rw [← hc] at hML
  have HD := hid hd
  have HML := hid hML
  have HY := hid hY
  have HJ := hid hJ
  have c0 := H1.out.c0
  have c1 := H1.out.c1
  have c2 := H1.out.c2
  have d0 := H1.out.d0
  have d1 := H1.out.d1
  have d2 := H1.out.d2
  have d3 := H1.out.d3
  have hz := H1.out.size
  clear hY hd hc h hJ hJx hW1' hl hML
  refine callsIn_of_wp Try.func74 rfl trivial ?_ rfl
  simp only [Try.ntmps74, List.size_toArray, List.length_cons, List.length_nil, Nat.reduceAdd, Nat.reduceSub, Array.replicate_succ, Array.replicate_zero, List.push_toArray, List.append_toArray, List.nil_append, List.cons_append]
  gi_wp2_with (gi_at_call 73; refine (callsIn_wide.2 (step_any W H hW1 hW ao n cap Z k u a b ha hb0 _ H1.out.ints)).mono ?_; rw [← HD.out]; rintro e w2 ⟨rfl, hb2⟩; have H2 := hid (H1.out.stays hb2); have h02 := HJ.out _ _ _ _ h0 (below_grown hb2) (fun r e => by cases e); have HB2 : Hid (SameB (w.heap.size + 1) W1 w2) := hid (hb2.block _ (by omega)); clear c0 c1 c2 d0 d1 d2 d3 hb2 h0; have d1 := H2.out.d1; have d2 := H2.out.d2)
  gi_loopw [5] (fun p wr => ∃ i : Nat, i ≤ c ∧ p = .int .i64 ((a + (i + 1) * d : Nat) : Int) ∧ J ((List.finRange c).take i) wr ∧ Hid (SameB (w.heap.size + 1) W1 wr)) (fun p _ => b + d - (intOf p).toNat)
  case atStart => exact ⟨0, Nat.zero_le _, congrArg _ (by push_cast; omega), by simpa using h02, HB2⟩
  case round =>
    obtain ⟨i, hi, rfl, hJi, hB⟩ := hrel
    have hz1 := H1.out.size
    have d2' := (World.cell?_of_block (a := ⟨w.heap.size + 1, 2, none⟩) hB.out).trans H1.out.d2
    obtain ⟨t, ht⟩ : ∃ t, t = a + (i + 1) * d := ⟨_, rfl⟩
    have hml := HML.out i
    rw [← ht] at hml ⊢
    by_cases hlt : i < c
    · have htb := hml.2 hlt
      have hln : ((List.finRange c).take i).length < c := by simp; omega
      obtain ⟨fn, tmps, assign, body, hy, hR⟩ := HY.out _ ⟨i, hlt⟩ wr hJi hln
      dsimp only [encT] at hy
      rw [tl_eq] at hy
      rw [← ht] at hy
      have HT := hid ht
      rw [← take_succ_fin hlt] at hR
      have HR := hid hR
      clear hR ht hml hln HML d1 d2
      gi_wp2
      refine HR.out.mono ?_
      rintro e W3 (⟨rfl, hJ3, hk3⟩ | ⟨rfl, hJx3⟩)
      · have hd32 := hsp.2
        have hB3 : Hid (SameB (w.heap.size + 1) W1 W3) := hid (hk3.trans hB.out)
        have w1 : IntKind.i64.wrap ((t : Int) + (d : Int)) = (t : Int) + (d : Int) := by rw [IntKind.wrap_i64]; omega
        clear hk3
        gi_wp2
        go_roundw
        case rel => exact ⟨i + 1, hlt, congrArg _ (by rw [show a + (i + 1 + 1) * d = t + d from by rw [HT.out, Nat.succ_mul (i + 1), Nat.add_assoc]]; simp), hJ3, hB3⟩
        case measure => simp [intOf]; omega
      · gi_wp2
        refine bodyPost_ret (results_none rfl _ _ _) rfl ?_
        exact ⟨⟨_, rfl⟩, .inr ⟨_, List.take_prefix _ _, hJx3⟩⟩
    · obtain rfl : i = c := by omega
      have htb : b ≤ t := by omega
      have hJi' : J (List.finRange i) wr := by
        have : (List.finRange i).take i = List.finRange i := by rw [List.take_of_length_le (by simp)]
        rwa [this] at hJi
      clear hml HML ht
      gi_wp2
      go_end0
      exact ⟨⟨_, rfl⟩, .inl ⟨_, rfl, hJi'⟩⟩
theorem row_ne {X : World} {B : Nat} {e t : TypeId} {size : Nat} {v : Value} {n m : Nat} {xs : List Value} {cs : Array Value} (hr : X.ownsRow B e size v n xs) (h : X.heap[m]? = some (.cells cs t (0, 0))) (hne : t ≠ e) : some m ≠ v.ownBlock := by
  rcases hr.2 with ⟨rfl, _⟩ | ⟨g, cap, cur, rfl, _, hg, _⟩
  · simp [Value.ownBlock]
  · intro k
    simp [Value.ownBlock] at k
    subst k
    rw [hg] at h
    cases h
    exact hne rfl
theorem infoI : (Try.prog.info? 3).map (fun i => (i.zero, i.size, i.bytes)) = some (some (.int .i64 0), 1, 8) := by kernel_rfl
set_option maxRecDepth 100000 in
set_option maxHeartbeats 3200000 in
theorem appendSeq_any {W H : Nat} (hW1 : 4 ≤ W) (hW : W ≤ 32) (ao : Option Addr) (n cap : Nat) (Z : Nat → Int) (k u : Int) {p q : Nat} (hp : p ≤ 1024) (hq : q ≤ 1024) (hl : Line W p q) (d c : Nat) (hd : d = stp W p q) (hc : c = cnt d p q) (hc2 : c ≤ 1024)
    (B0 : Nat) (v0 : Value) (k0 : Nat) (xs0 : List Value) (w0 w : World) (A : Nat) (hA : A = w0.heap.size) (hM : MB W H ao n cap Z k p q u w0 w) (cs : Array Value) (hsp : w.heap[A + 1]? = some (.cells cs 26 (0, 0)))
    (hrow : w.ownsRow B0 3 1 v0 k0 xs0) (hB0 : B0 ≤ w.heap.size) (hk : k0 ≤ 1000000) :
    Calls Try.prog 49 #[v0, .func (.func 74) #[] #[.pointer (some ⟨A, 0, none⟩), .pointer (some ⟨A + 1, 0, none⟩)]] w fun e W' => ∃ v, e = .returned v ∧
      W'.ownsRow B0 3 1 v (k0 + c) (xs0 ++ (List.finRange c).map (fun i => .int .i64 (tl p d i.val))) ∧ Below B0 w W' := by
  obtain ⟨i0, hi, hz0, hz1, hz2⟩ := info_parts infoI
  obtain ⟨so, sc, rfl⟩ := row_slice hrow
  have HA := hid hA
  have HD := hid hd
  have HC := hid hc
  clear hd hc
  clear hA
  have hAw : A + 1 < w.heap.size := (Array.getElem?_eq_some_iff.1 hsp).1
  refine (callsIn_wide (n := 9)).1 ?_
  refine callsIn_of_wp_marks Try.func49 rfl trivial ?_ rfl
  simp only [Try.ntmps49, List.size_toArray, List.length_cons, List.length_nil, Nat.reduceAdd, Nat.reduceSub, Array.replicate_succ, Array.replicate_zero, List.push_toArray, List.append_toArray, List.nil_append, List.cons_append]
  gi_wp2
  have bO := Boxed.new w 22 (.slice so k0 sc)
  have hM1 := hM.stays ((Below.refl _ w).alloc (Nat.le_refl _) (.cells #[.slice so k0 sc] 22))
  have hs1 : (w.alloc (.cells #[.slice so k0 sc] 22)).heap[A + 1]? = some (.cells cs 26 (0, 0)) := (Below.heap_alloc _ _ _ hAw).trans hsp
  have hb1 : Below B0 w (w.alloc (.cells #[.slice so k0 sc] 22)) := (Below.refl _ w).alloc hB0 _
  have hr1 := hrow.alloc (.cells #[.slice so k0 sc] 22)
  have hz : (w.alloc (.cells #[.slice so k0 sc] 22)).heap.size = w.heap.size + 1 := by simp
  generalize w.alloc (.cells #[.slice so k0 sc] 22) = W1 at bO hM1 hs1 hb1 hr1 hz ⊢
  refine wpIn_rangeFunc_ownG rfl (by omega : 1 ≤ 9) (gf := 74) (lb := #[.pointer (some ⟨A, 0, none⟩), .pointer (some ⟨A + 1, 0, none⟩)]) rfl trivial (enters_of Try.func74 (by kernel_rfl) rfl)
    (iter_stops2 _ hW1 hW hp hq hl d c HD.out HC.out hM1 HA.out) (fun {X Y Z} h k => k.trans h) (fun X l o o' h1 _ _ _ => World.putObj_heap_other (by omega)) (Below.refl _ _) (fun _ => rfl)
    (fun (pre : List (Fin c)) X => (∃ v, Boxed X w.heap.size 22 v ∧ X.ownsRow B0 3 1 v (k0 + pre.length) (xs0 ++ pre.map (fun i => .int .i64 (tl p d i.val))) ∧ True) ∧ (X.heap[A + 1]? = some (.cells cs 26 (0, 0)) ∧ Below B0 w X))
    (fun _ _ _ => False)
    (OwnFrom.and (Own.from (holdsRow_own B0 w.heap.size 22 3 1 (fun (pre : List (Fin c)) => k0 + pre.length) (fun (pre : List (Fin c)) => xs0 ++ pre.map (fun i => .int .i64 (tl p d i.val))) (fun _ _ => True)) _)
      (OwnFrom.and (fun s X Y row hs hg hr => (hg.block (A + 1) (Array.getElem?_eq_some_iff.1 hs).1 (fun e => by have := (hr _ e.symm).1; omega)).trans hs) (ownFrom_below hB0 (by omega))))
    (fun _ _ _ _ _ hs _ _ => hs)
    ⟨⟨_, bO, by simpa using hr1, trivial⟩, hs1, hb1⟩
    (fun x => { tmps := #[.slice so k0 sc, .func (.func 74) #[] #[.pointer (some ⟨A, 0, none⟩), .pointer (some ⟨A + 1, 0, none⟩)], .pointer (some ⟨w.heap.size, 0, none⟩), undef, .slice none 0 0, .int .i64 (tl p d x.val), .func (.func 74) #[] #[.pointer (some ⟨A, 0, none⟩), .pointer (some ⟨A + 1, 0, none⟩)], .int .i64 (tl p d x.val), undef, undef, undef, undef, undef], defers := [] }) ?assign ?body ?done ?stop
  case assign =>
    intro l x W K hK
    gi_wp2
    exact hK
  case body =>
    rintro l pre x X ⟨⟨v, hv, hrow, _⟩, hsX, hB⟩ hlt
    have hcc := hv.cell
    have hBX := hB.size
    obtain ⟨y, hy⟩ : ∃ y : Int, y = tl p d x.val := ⟨_, rfl⟩
    rw [← hy]
    have HY := hid hy
    clear hy
    obtain ⟨vo, vc, rfl⟩ := row_slice hrow
    gi_wp2_with (gi_at_builtin; refine wpListIn_append_own _ rfl _ _ 22 rfl B0 3 i0 (.int .i64 0) 1 8 Try.underlying22 hi hz0 hz1 hz2 rfl (by decide) _ _ _ rfl (hrow.alloc _) ⟨X.heap.size, 0, none⟩ 1 1 [.int .i64 y] rfl rfl (cell_one_new _ _ _) (by simp [Value.oneCell']) (by unfold maxLen; omega) (by omega) (by simp; omega) ?_; intro v' w1 hown' hgrow _; obtain ⟨g', cap', rfl⟩ := ownsRow_succ hown'; obtain ⟨hv1, hv2, hr2, hk2, hb2⟩ := hv.appended (by decide) hrow (by omega) (by omega) hown' hgrow; have hc1 := hv1.cell; have hf1 := hv1.frozen)
    have hne : some (A + 1) ≠ (Value.slice vo (k0 + pre.length) vc).ownBlock := row_ne hrow hsX (by decide)
    have hlA : A + 1 < X.heap.size := (Array.getElem?_eq_some_iff.1 hsX).1
    have hsame : SameB (A + 1) X (w1.setCell ⟨w.heap.size, 0, none⟩ (.slice (some ⟨g', 0, none⟩) (k0 + pre.length + 1) cap')) :=
      (Below.heap_setCell _ _ _ (A + 1) (by show A + 1 ≠ w.heap.size; omega)).trans ((hgrow.block (A + 1) (by simp; omega) hne).trans (Below.heap_alloc _ _ _ hlA))
    refine ⟨hk2.from _, hsame, ⟨_, hv2, ?_, trivial⟩, Eq.trans hsame hsX, hB.trans hb2⟩
    rw [List.map_append, List.length_append, ← List.append_assoc, ← Nat.add_assoc]
    simp only [List.map_cons, List.map_nil, List.length_cons, List.length_nil, ← HY.out]
    exact hr2
  case done =>
    rintro D ys X hD rfl ⟨⟨v, hv, hrow, _⟩, _, hB⟩ hK
    have hcc := hv.cell
    gi_wp2
    refine ⟨by simp, .inl ⟨_, _, rfl, run_takeDeferred hK, ?_⟩⟩
    refine ⟨_, results_tmp rfl _ _ _, v, rfl, ?_, hB.trans (belowK_b (w := W1) (by omega) X D _ _ hD hK rfl rfl)⟩
    have := ownsRow_putObj hrow (.deferred none) hK rfl
    simpa using this
  case stop =>
    rintro D c pre W _ _ h _
    exact h.elim
end Go.Proofs.Ytpohhcmkkjcelaa
