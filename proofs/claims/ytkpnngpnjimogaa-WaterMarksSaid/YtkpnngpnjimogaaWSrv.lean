/-
  The walks of survey and Validate.
-/
import Derived.Test.YtkpnngpnjimogaaWVal
namespace Go.Proofs.Ytkpnngpnjimogaa
open Go.RowKit

/-- The error of waters on a land. -/
def WErr (W H : Int) (n m q : Nat) (Z K Y : Nat → Int) (e : Int) : Prop :=
  (e ≠ 0 ∧ VErr W H n Z e) ∨ ∃ W' H' : Nat, W = W' ∧ H = H' ∧ Good W' H' n Z ∧ CErr W' H' m q Z K Y e
theorem WErr.ex (W H : Int) (n m q : Nat) (Z K Y : Nat → Int) : ∃ e, WErr W H n m q Z K Y e := by
  obtain ⟨e, he⟩ := VErr.ex W H n Z
  by_cases h0 : e = 0
  · subst h0
    obtain ⟨W', H', rfl, rfl, hg⟩ := he.ok.good
    obtain ⟨e, he⟩ := CErr.ex W' H' m q Z K Y
    exact ⟨e, .inr ⟨W', H', rfl, rfl, hg, he⟩⟩
  · exact ⟨e, .inl ⟨h0, he⟩⟩
theorem WErr.fine {W H : Int} {n m q : Nat} {Z K Y : Nat → Int} (h : WErr W H n m q Z K Y 0) : ∃ W' H' : Nat, W = W' ∧ H = H' ∧ Good W' H' n Z ∧ Fine W' H' m q Z K Y := by
  rcases h with ⟨h, _⟩ | ⟨W', H', e1, e2, hg, h⟩
  · exact absurd rfl h
  · exact ⟨W', H', e1, e2, hg, h.fine⟩
theorem Good.werr {W H n m q : Nat} {Z K Y : Nat → Int} {e : Int} (hg : Good W H n Z) (h : CErr W H m q Z K Y e) : WErr W H n m q Z K Y e := .inr ⟨W, H, rfl, rfl, hg, h⟩

theorem set6 {w : World} {g : Nat} {t : TypeId} {p q r s u v : Value} (h : w.heap[g]? = some (.cells #[p, q, r, s, u, v] t (0, 0))) (a b c d e f : Value) :
    ((((((w.setCell ⟨g, 0, none⟩ a).setCell ⟨g, 1, none⟩ b).setCell ⟨g, 2, none⟩ c).setCell ⟨g, 3, none⟩ d).setCell ⟨g, 4, none⟩ e).setCell ⟨g, 5, none⟩ f).heap[g]? = some (.cells #[a, b, c, d, e, f] t (0, 0)) :=
  heap_setCell_same _ g 5 _ _ f (heap_setCell_same _ g 4 _ _ e (heap_setCell_same _ g 3 _ _ d (heap_setCell_same _ g 2 _ _ c (heap_setCell_same _ g 1 _ _ b (heap_setCell_same _ g 0 _ _ a h)))))
theorem set6_kp {M : Nat} {w wr : World} {g : Nat} (h : Kp M w wr) (hg : w.heap.size ≤ g) (a b c d e f : Value) :
    Kp M w ((((((wr.setCell ⟨g, 0, none⟩ a).setCell ⟨g, 1, none⟩ b).setCell ⟨g, 2, none⟩ c).setCell ⟨g, 3, none⟩ d).setCell ⟨g, 4, none⟩ e).setCell ⟨g, 5, none⟩ f) :=
  (((((h.setCell (p := ⟨g, 0, none⟩) hg a).setCell (p := ⟨g, 1, none⟩) hg b).setCell (p := ⟨g, 2, none⟩) hg c).setCell (p := ⟨g, 3, none⟩) hg d).setCell (p := ⟨g, 4, none⟩) hg e).setCell (p := ⟨g, 5, none⟩) hg f
theorem set6_other {w : World} {g k : Nat} (hk : k ≠ g) (a b c d e f : Value) :
    ((((((w.setCell ⟨g, 0, none⟩ a).setCell ⟨g, 1, none⟩ b).setCell ⟨g, 2, none⟩ c).setCell ⟨g, 3, none⟩ d).setCell ⟨g, 4, none⟩ e).setCell ⟨g, 5, none⟩ f).heap[k]? = w.heap[k]? := by
  have h : ∀ (w : World) (i : Nat) (v : Value), (w.setCell ⟨g, i, none⟩ v).heap[k]? = w.heap[k]? := fun w i v => Below.heap_setCell _ _ _ _ hk
  rw [h, h, h, h, h, h]
/-- The chart of nothing. -/
abbrev chart0 : Value := .agg #[.int .i64 0, .int .i64 0, .slice none 0 0, .slice none 0 0, .slice none 0 0, .map none]
/-- The boxes of survey: the land's, the waters', the result's. -/
structure SB (W H : Int) (av ws1 ws2 : Value) (rs : Array Value) (w wr : World) : Prop where
  below : Below w.heap.size w wr
  b0 : wr.heap[w.heap.size]? = some (.cells #[.int .i64 W, .int .i64 H, av] 24 (0, 0))
  b1 : wr.heap[w.heap.size + 1]? = some (.cells #[ws1, ws2] 26 (0, 0))
  b2 : wr.heap[w.heap.size + 2]? = some (.cells rs 52 (0, 0))
theorem SB.stays {W H : Int} {av ws1 ws2 : Value} {rs : Array Value} {w wr w' : World} (h : SB W H av ws1 ws2 rs w wr) (k : Below wr.heap.size wr w') : SB W H av ws1 ws2 rs w w' :=
  ⟨step h.below k, (k.block _ (heap_lt h.b0)).trans h.b0, (k.block _ (heap_lt h.b1)).trans h.b1, (k.block _ (heap_lt h.b2)).trans h.b2⟩
theorem SB.start (W H : Int) (av ws1 ws2 : Value) (rs : Array Value) (w : World) : SB W H av ws1 ws2 rs w (((w.alloc (.cells #[.int .i64 W, .int .i64 H, av] 24)).alloc (.cells #[ws1, ws2] 26)).alloc (.cells rs 52)) := by
  refine ⟨(Joins.below_alloc2 _ _ _).alloc (by simp; omega) _, ?_, ?_, ?_⟩
  · show (((w.heap.push _).push _).push _)[_]? = _
    rw [Array.getElem?_push, if_neg (by simp; omega), Array.getElem?_push, if_neg (by simp), Array.getElem?_push, if_pos rfl]
  · show (((w.heap.push _).push _).push _)[_]? = _
    rw [Array.getElem?_push, if_neg (by simp), Array.getElem?_push, if_pos (by simp)]
  · show (((w.heap.push _).push _).push _)[_]? = _
    rw [Array.getElem?_push, if_pos (by simp)]

set_option maxRecDepth 20000 in
set_option maxHeartbeats 3200000 in
theorem survey_land (W H : Int) (ao ko bo : Option Addr) (n cap m kcap q bcap : Nat) (Z : Nat → Int) (hn : n ≤ 9223372036854775807) (e : Int) (h0 : e ≠ 0) (hv : VErr W H n Z e) (w : World) (hI : Ints w ao n Z) :
    Calls Try.prog 40 #[lv W H (.slice ao n cap), .agg #[.slice ko m kcap, .slice bo q bcap]] w fun r w' => r = .returned (.tuple #[chart0, .int .i64 e]) ∧ Below w.heap.size w w' := by
  have HS := hid (SB.start W H (.slice ao n cap) (.slice ko m kcap) (.slice bo q bcap) #[.int .i64 0, .int .i64 0, .slice none 0 0, .slice none 0 0, .slice none 0 0, .map none] w)
  have HI := hid (hI.stays HS.out.below)
  have HV := hid hv
  have g1 : (e == 0) = false := by rw [beq_eq_false_iff_ne]; exact h0
  have g2 : (e != 0) = true := by simp [h0]
  obtain ⟨A, hA⟩ : ∃ A, A = w.heap.size := ⟨_, rfl⟩
  have HA := hid hA
  clear hI hv h0
  go_enter Try.func40, Try.ntmps40
  go_upto_region 1 with fail
  generalize World.alloc _ _ = w1 at HS HI ⊢
  simp only [← hA, Nat.add_assoc, Nat.reduceAdd] at HS ⊢
  clear hA
  have c0 := cell_of_row w1 A 0 _ _ _ (by rw [HA.out]; exact HS.out.b0)
  have c1 := cell_of_row w1 A 1 _ _ _ (by rw [HA.out]; exact HS.out.b0)
  have c2 := cell_of_row w1 A 2 _ _ _ (by rw [HA.out]; exact HS.out.b0)
  have hz : A < w1.heap.size := by rw [HA.out]; exact heap_lt HS.out.b0
  simp only [List.getElem?_toArray, List.getElem?_cons_zero, List.getElem?_cons_succ] at c0 c1 c2
  go_upto_region 3 with (go_at_call 70; (refine (validate_any W H ao n cap Z hn _ HI.out e HV.out).mono ?_); (rintro r w2 ⟨rfl, hb⟩); have HS2 := hid (HS.out.stays hb); clear hb c0 c1 c2 hz)
  clear HS HI
  have hz : A + 2 < w2.heap.size := by rw [HA.out]; exact heap_lt HS2.out.b2
  have r0 := cell_of_row w2 (A + 2) 0 _ _ _ (by rw [HA.out]; exact HS2.out.b2)
  have r1 := cell_of_row w2 (A + 2) 1 _ _ _ (by rw [HA.out]; exact HS2.out.b2)
  have r2 := cell_of_row w2 (A + 2) 2 _ _ _ (by rw [HA.out]; exact HS2.out.b2)
  have r3 := cell_of_row w2 (A + 2) 3 _ _ _ (by rw [HA.out]; exact HS2.out.b2)
  have r4 := cell_of_row w2 (A + 2) 4 _ _ _ (by rw [HA.out]; exact HS2.out.b2)
  have r5 := cell_of_row w2 (A + 2) 5 _ _ _ (by rw [HA.out]; exact HS2.out.b2)
  have f0 := frozen_of_row w2 (A + 2) 0 _ _ (by rw [HA.out]; exact HS2.out.b2)
  have f1 := frozen_of_row w2 (A + 2) 1 _ _ (by rw [HA.out]; exact HS2.out.b2)
  have f2 := frozen_of_row w2 (A + 2) 2 _ _ (by rw [HA.out]; exact HS2.out.b2)
  have f3 := frozen_of_row w2 (A + 2) 3 _ _ (by rw [HA.out]; exact HS2.out.b2)
  have f4 := frozen_of_row w2 (A + 2) 4 _ _ (by rw [HA.out]; exact HS2.out.b2)
  have f5 := frozen_of_row w2 (A + 2) 5 _ _ (by rw [HA.out]; exact HS2.out.b2)
  simp only [List.getElem?_toArray, List.getElem?_cons_zero, List.getElem?_cons_succ] at r0 r1 r2 r3 r4 r5
  go_wp2_with fail
  have k3 := set6 HS2.out.b2 (.int .i64 0) (.int .i64 0) (.slice none 0 0) (.slice none 0 0) (.slice none 0 0) (.map none)
  have k4 : Below w.heap.size w ((((((w2.setCell ⟨A + 2, 0, none⟩ (.int .i64 0)).setCell ⟨A + 2, 1, none⟩ (.int .i64 0)).setCell ⟨A + 2, 2, none⟩ (.slice none 0 0)).setCell ⟨A + 2, 3, none⟩ (.slice none 0 0)).setCell ⟨A + 2, 4, none⟩ (.slice none 0 0)).setCell ⟨A + 2, 5, none⟩ (.map none)) := by
    have hp : ∀ i, w.heap.size ≤ (⟨A + 2, i, none⟩ : Addr).block := fun i => by rw [HA.out]; show w.heap.size ≤ w.heap.size + 2; omega
    exact (((((HS2.out.below.setCell (hp 0) _).setCell (hp 1) _).setCell (hp 2) _).setCell (hp 3) _).setCell (hp 4) _).setCell (hp 5) _
  simp only [← HA.out] at k3
  generalize World.setCell _ _ _ = w5 at k3 k4 ⊢
  have x0 := cell_of_row w5 (A + 2) 0 _ _ _ k3
  have x1 := cell_of_row w5 (A + 2) 1 _ _ _ k3
  have x2 := cell_of_row w5 (A + 2) 2 _ _ _ k3
  have x3 := cell_of_row w5 (A + 2) 3 _ _ _ k3
  have x4 := cell_of_row w5 (A + 2) 4 _ _ _ k3
  have x5 := cell_of_row w5 (A + 2) 5 _ _ _ k3
  simp only [List.getElem?_toArray, List.getElem?_cons_zero, List.getElem?_cons_succ] at x0 x1 x2 x3 x4 x5
  exact bodyPost_ret (v := .tuple #[chart0, .int .i64 e]) (by simp [results, Try.results40, go_sem, x0, x1, x2, x3, x4, x5]) rfl ⟨rfl, k4⟩

/-- The boxes of survey behind the new chart: the map in block M, the chart's box behind it. -/
structure SC (d : Wat) (M : Nat) (rs : Array Value) (w wr : World) : Prop where
  kp : Kp M w wr
  ge : w.heap.size + 2 < M
  cx : Cx d M wr
  b2 : wr.heap[w.heap.size + 2]? = some (.cells rs 52 (0, 0))
  b4 : wr.heap[M + 1]? = some (.cells #[.int .i64 d.W, .int .i64 d.H, d.as, d.ks, d.bs, .map (some M)] 52 (0, 0))
theorem SC.on {d : Wat} {M : Nat} {rs : Array Value} {w wr w' : World} (h : SC d M rs w wr) (k : Nx d M wr w') : SC d M rs w w' :=
  ⟨h.kp.trans k.kp, h.ge, h.cx.nx k, (k.kp.block _ (heap_lt h.b2) (by have := h.ge; omega)).trans h.b2, (k.kp.block _ (heap_lt h.b4) (by omega)).trans h.b4⟩
theorem SC.start {d : Wat} {rs : Array Value} {w wr : World} (h : SB d.W d.H d.as d.ks d.bs rs w wr) (hl : Ints w (some ⟨d.ab, d.aoff, none⟩) d.n d.Z) (hk : Ints w (some ⟨d.kb, d.koff, none⟩) d.m d.K) (hb : Ints w d.bo d.q d.Y) :
    SC d wr.heap.size rs w ((wr.alloc (.map #[] 0)).alloc (.cells #[.int .i64 d.W, .int .i64 d.H, d.as, d.ks, d.bs, .map (some wr.heap.size)] 52)) := by
  have k := h.below.trans (Joins.below_alloc2 wr (.map #[] 0) (.cells #[.int .i64 d.W, .int .i64 d.H, d.as, d.ks, d.bs, .map (some wr.heap.size)] 52) |>.mono h.below.size)
  have hz := heap_lt h.b2
  refine ⟨Kp.of_below k, hz, ⟨hl.stays k, hk.stays k, hb.stays k, fun hn => ?_, fun hn => ?_, fun hn b off e => ?_, (GS.start _ _ _ _).stays (Joins.below_alloc1 _ _)⟩, ?_, ?_⟩
  · obtain ⟨b, off, e, hz', _⟩ := hl 0 hn
    cases e; omega
  · obtain ⟨b, off, e, hz', _⟩ := hk 0 hn
    cases e; omega
  · obtain ⟨b', off', e', hz', _⟩ := hb 0 hn
    rw [e] at e'; cases e'; omega
  · exact ((Joins.below_alloc2 wr _ _).block _ hz).trans h.b2
  · show (((wr.heap.push _).push _))[_]? = _
    rw [Array.getElem?_push, if_pos (by simp)]

/-- What survey hands back. -/
structure Surv (d : Wat) (w : World) (e : Int) (r : Ending) (w' : World) : Prop where
  below : Below w.heap.size w w'
  err : e ≠ 0 → r = .returned (.tuple #[chart0, .int .i64 e])
  ok : e = 0 → ∃ M, w.heap.size ≤ M ∧ Cx d M w' ∧ r = .returned (.tuple #[d.cht M, .int .i64 0])
set_option maxRecDepth 20000 in
set_option maxHeartbeats 6400000 in
theorem survey_to (d : Wat) (hg : Good d.W d.H d.n d.Z) (hm : d.m = d.W * d.H) (hq : d.q ≤ 4000) (e : Int) (h : CErr d.W d.H d.m d.q d.Z d.K d.Y e) (w : World)
    (hl : Ints w (some ⟨d.ab, d.aoff, none⟩) d.n d.Z) (hk : Ints w (some ⟨d.kb, d.koff, none⟩) d.m d.K) (hb : Ints w d.bo d.q d.Y) :
    Calls Try.prog 40 #[d.lnd, d.wts] w (Surv d w e) := by
  have hn := hg.shaped.bound
  have HS := hid (SB.start d.W d.H d.as d.ks d.bs #[.int .i64 0, .int .i64 0, .slice none 0 0, .slice none 0 0, .slice none 0 0, .map none] w)
  have HI := hid (hl.stays HS.out.below)
  have HV := hid hg.err
  have HLK := hid (And.intro hl (And.intro hk hb))
  have HC := hid (fun M w hC => cvalidate_to d hg hm hq M e h w hC)
  obtain ⟨A, hA⟩ : ∃ A, A = w.heap.size := ⟨_, rfl⟩
  have HA := hid hA
  clear hl hk hb hg hm h
  go_enter Try.func40, Try.ntmps40
  go_upto_region 1 with fail
  generalize World.alloc _ _ = w1 at HS HI ⊢
  simp only [← hA, Nat.add_assoc, Nat.reduceAdd] at HS ⊢
  clear hA
  have c0 := cell_of_row w1 A 0 _ _ _ (by rw [HA.out]; exact HS.out.b0)
  have c1 := cell_of_row w1 A 1 _ _ _ (by rw [HA.out]; exact HS.out.b0)
  have c2 := cell_of_row w1 A 2 _ _ _ (by rw [HA.out]; exact HS.out.b0)
  have c3 := cell_of_row w1 (A + 1) 0 _ _ _ (by rw [HA.out]; exact HS.out.b1)
  have c4 := cell_of_row w1 (A + 1) 1 _ _ _ (by rw [HA.out]; exact HS.out.b1)
  have hz : A + 2 < w1.heap.size := by rw [HA.out]; exact heap_lt HS.out.b2
  simp only [List.getElem?_toArray, List.getElem?_cons_zero, List.getElem?_cons_succ] at c0 c1 c2 c3 c4
  go_upto_region 4 with (go_at_call 70; (refine (validate_any d.W d.H _ d.n d.cap d.Z (by omega) _ HI.out 0 HV.out).mono ?_); (rintro r w2 ⟨rfl, hb⟩); have HS2 := hid (HS.out.stays hb); clear hb c0 c1 c2 c3 c4 hz)
  clear HS HI
  have c0 := cell_of_row w2 A 0 _ _ _ (by rw [HA.out]; exact HS2.out.b0)
  have c1 := cell_of_row w2 A 1 _ _ _ (by rw [HA.out]; exact HS2.out.b0)
  have c2 := cell_of_row w2 A 2 _ _ _ (by rw [HA.out]; exact HS2.out.b0)
  have c3 := cell_of_row w2 (A + 1) 0 _ _ _ (by rw [HA.out]; exact HS2.out.b1)
  have c4 := cell_of_row w2 (A + 1) 1 _ _ _ (by rw [HA.out]; exact HS2.out.b1)
  have hz : A + 2 < w2.heap.size := by rw [HA.out]; exact heap_lt HS2.out.b2
  simp only [List.getElem?_toArray, List.getElem?_cons_zero, List.getElem?_cons_succ] at c0 c1 c2 c3 c4
  have H3 := hid (SC.start HS2.out HLK.out.1 HLK.out.2.1 HLK.out.2.2)
  have hmm := @run_makeMap Try.prog
  go_upto_region 5 with fail
  clear hmm
  obtain ⟨M, hM⟩ : ∃ M, M = w2.heap.size := ⟨_, rfl⟩
  have HM := hid hM
  clear c0 c1 c2 c3 c4 hz
  simp only [← hM] at H3 ⊢
  clear hM
  generalize World.alloc _ _ = w3 at H3 ⊢
  have c0 := cell_of_row w3 (M + 1) 0 _ _ _ H3.out.b4
  have c1 := cell_of_row w3 (M + 1) 1 _ _ _ H3.out.b4
  have c2 := cell_of_row w3 (M + 1) 2 _ _ _ H3.out.b4
  have c3 := cell_of_row w3 (M + 1) 3 _ _ _ H3.out.b4
  have c4 := cell_of_row w3 (M + 1) 4 _ _ _ H3.out.b4
  have c5 := cell_of_row w3 (M + 1) 5 _ _ _ H3.out.b4
  have hz : M + 1 < w3.heap.size := heap_lt H3.out.b4
  simp only [List.getElem?_toArray, List.getElem?_cons_zero, List.getElem?_cons_succ] at c0 c1 c2 c3 c4 c5
  go_upto_region 6 with (go_at_call 71; (refine (HC.out M _ H3.out.cx).mono ?_); (rintro r w4 ⟨rfl, hn⟩); have H4 := hid (H3.out.on hn); clear hn c0 c1 c2 c3 c4 c5 hz)
  clear H3 HC
  by_cases h0 : e = 0
  · subst h0
    have c0 := cell_of_row w4 (M + 1) 0 _ _ _ H4.out.b4
    have c1 := cell_of_row w4 (M + 1) 1 _ _ _ H4.out.b4
    have c2 := cell_of_row w4 (M + 1) 2 _ _ _ H4.out.b4
    have c3 := cell_of_row w4 (M + 1) 3 _ _ _ H4.out.b4
    have c4 := cell_of_row w4 (M + 1) 4 _ _ _ H4.out.b4
    have c5 := cell_of_row w4 (M + 1) 5 _ _ _ H4.out.b4
    have hz : M + 1 < w4.heap.size := heap_lt H4.out.b4
    simp only [List.getElem?_toArray, List.getElem?_cons_zero, List.getElem?_cons_succ] at c0 c1 c2 c3 c4 c5
    have hz2 : A + 2 < w4.heap.size := by rw [HA.out]; exact heap_lt H4.out.b2
    have r0 := cell_of_row w4 (A + 2) 0 _ _ _ (by rw [HA.out]; exact H4.out.b2)
    have r1 := cell_of_row w4 (A + 2) 1 _ _ _ (by rw [HA.out]; exact H4.out.b2)
    have r2 := cell_of_row w4 (A + 2) 2 _ _ _ (by rw [HA.out]; exact H4.out.b2)
    have r3 := cell_of_row w4 (A + 2) 3 _ _ _ (by rw [HA.out]; exact H4.out.b2)
    have r4 := cell_of_row w4 (A + 2) 4 _ _ _ (by rw [HA.out]; exact H4.out.b2)
    have r5 := cell_of_row w4 (A + 2) 5 _ _ _ (by rw [HA.out]; exact H4.out.b2)
    have f0 := frozen_of_row w4 (A + 2) 0 _ _ (by rw [HA.out]; exact H4.out.b2)
    have f1 := frozen_of_row w4 (A + 2) 1 _ _ (by rw [HA.out]; exact H4.out.b2)
    have f2 := frozen_of_row w4 (A + 2) 2 _ _ (by rw [HA.out]; exact H4.out.b2)
    have f3 := frozen_of_row w4 (A + 2) 3 _ _ (by rw [HA.out]; exact H4.out.b2)
    have f4 := frozen_of_row w4 (A + 2) 4 _ _ (by rw [HA.out]; exact H4.out.b2)
    have f5 := frozen_of_row w4 (A + 2) 5 _ _ (by rw [HA.out]; exact H4.out.b2)
    simp only [List.getElem?_toArray, List.getElem?_cons_zero, List.getElem?_cons_succ] at r0 r1 r2 r3 r4 r5
    go_wp2_with fail
    have k3 := set6 H4.out.b2 (.int .i64 d.W) (.int .i64 d.H) d.as d.ks d.bs (.map (some M))
    have k4 := set6_kp H4.out.kp (Nat.le_add_right _ 2) (.int .i64 d.W) (.int .i64 d.H) d.as d.ks d.bs (.map (some M))
    have k5 : Cx d M ((((((w4.setCell ⟨w.heap.size + 2, 0, none⟩ (.int .i64 d.W)).setCell ⟨w.heap.size + 2, 1, none⟩ (.int .i64 d.H)).setCell ⟨w.heap.size + 2, 2, none⟩ d.as).setCell ⟨w.heap.size + 2, 3, none⟩ d.ks).setCell ⟨w.heap.size + 2, 4, none⟩ d.bs).setCell ⟨w.heap.size + 2, 5, none⟩ (.map (some M))) := by
      have kk : ∀ k, k ≠ w.heap.size + 2 → ((((((w4.setCell ⟨w.heap.size + 2, 0, none⟩ (.int .i64 d.W)).setCell ⟨w.heap.size + 2, 1, none⟩ (.int .i64 d.H)).setCell ⟨w.heap.size + 2, 2, none⟩ d.as).setCell ⟨w.heap.size + 2, 3, none⟩ d.ks).setCell ⟨w.heap.size + 2, 4, none⟩ d.bs).setCell ⟨w.heap.size + 2, 5, none⟩ (.map (some M))).heap[k]? = w4.heap[k]? := fun k hk => set6_other hk _ _ _ _ _ _
      have ki : ∀ (ao : Option Addr) (n : Nat) (Z : Nat → Int), Ints w ao n Z → Ints _ ao n Z := fun ao n Z hI => hI.stays (k4.below (by have := H4.out.ge; omega) (Nat.le_refl _))
      exact ⟨ki _ _ _ HLK.out.1, ki _ _ _ HLK.out.2.1, ki _ _ _ HLK.out.2.2, H4.out.cx.na, H4.out.cx.nk, H4.out.cx.nb, H4.out.cx.gs.same (kk M (by have := H4.out.ge; omega))⟩
    simp only [← HA.out] at k3 k4 k5
    generalize World.setCell _ _ _ = w5 at k3 k4 k5 ⊢
    have x0 := cell_of_row w5 (A + 2) 0 _ _ _ k3
    have x1 := cell_of_row w5 (A + 2) 1 _ _ _ k3
    have x2 := cell_of_row w5 (A + 2) 2 _ _ _ k3
    have x3 := cell_of_row w5 (A + 2) 3 _ _ _ k3
    have x4 := cell_of_row w5 (A + 2) 4 _ _ _ k3
    have x5 := cell_of_row w5 (A + 2) 5 _ _ _ k3
    simp only [List.getElem?_toArray, List.getElem?_cons_zero, List.getElem?_cons_succ] at x0 x1 x2 x3 x4 x5
    exact bodyPost_ret (v := .tuple #[d.cht M, .int .i64 0]) (by simp [results, Try.results40, go_sem, x0, x1, x2, x3, x4, x5]) rfl
      ⟨k4.below (by have := H4.out.ge; omega) (Nat.le_refl _), fun h => absurd rfl h, fun _ => ⟨M, by have := H4.out.ge; omega, k5, rfl⟩⟩
  · have g1 : (e == 0) = false := by rw [beq_eq_false_iff_ne]; exact h0
    have g2 : (e != 0) = true := by simp [h0]
    have H0 := hid h0
    clear h0
    have c0 := cell_of_row w4 (M + 1) 0 _ _ _ H4.out.b4
    have c1 := cell_of_row w4 (M + 1) 1 _ _ _ H4.out.b4
    have c2 := cell_of_row w4 (M + 1) 2 _ _ _ H4.out.b4
    have c3 := cell_of_row w4 (M + 1) 3 _ _ _ H4.out.b4
    have c4 := cell_of_row w4 (M + 1) 4 _ _ _ H4.out.b4
    have c5 := cell_of_row w4 (M + 1) 5 _ _ _ H4.out.b4
    have hz : M + 1 < w4.heap.size := heap_lt H4.out.b4
    simp only [List.getElem?_toArray, List.getElem?_cons_zero, List.getElem?_cons_succ] at c0 c1 c2 c3 c4 c5
    have hz2 : A + 2 < w4.heap.size := by rw [HA.out]; exact heap_lt H4.out.b2
    have r0 := cell_of_row w4 (A + 2) 0 _ _ _ (by rw [HA.out]; exact H4.out.b2)
    have r1 := cell_of_row w4 (A + 2) 1 _ _ _ (by rw [HA.out]; exact H4.out.b2)
    have r2 := cell_of_row w4 (A + 2) 2 _ _ _ (by rw [HA.out]; exact H4.out.b2)
    have r3 := cell_of_row w4 (A + 2) 3 _ _ _ (by rw [HA.out]; exact H4.out.b2)
    have r4 := cell_of_row w4 (A + 2) 4 _ _ _ (by rw [HA.out]; exact H4.out.b2)
    have r5 := cell_of_row w4 (A + 2) 5 _ _ _ (by rw [HA.out]; exact H4.out.b2)
    have f0 := frozen_of_row w4 (A + 2) 0 _ _ (by rw [HA.out]; exact H4.out.b2)
    have f1 := frozen_of_row w4 (A + 2) 1 _ _ (by rw [HA.out]; exact H4.out.b2)
    have f2 := frozen_of_row w4 (A + 2) 2 _ _ (by rw [HA.out]; exact H4.out.b2)
    have f3 := frozen_of_row w4 (A + 2) 3 _ _ (by rw [HA.out]; exact H4.out.b2)
    have f4 := frozen_of_row w4 (A + 2) 4 _ _ (by rw [HA.out]; exact H4.out.b2)
    have f5 := frozen_of_row w4 (A + 2) 5 _ _ (by rw [HA.out]; exact H4.out.b2)
    simp only [List.getElem?_toArray, List.getElem?_cons_zero, List.getElem?_cons_succ] at r0 r1 r2 r3 r4 r5
    go_wp2_with fail
    have k3 := set6 H4.out.b2 (.int .i64 0) (.int .i64 0) (.slice none 0 0) (.slice none 0 0) (.slice none 0 0) (.map none)
    have k4 := set6_kp H4.out.kp (Nat.le_add_right _ 2) (.int .i64 0) (.int .i64 0) (.slice none 0 0) (.slice none 0 0) (.slice none 0 0) (.map none)
    simp only [← HA.out] at k3 k4
    generalize World.setCell _ _ _ = w5 at k3 k4 ⊢
    have x0 := cell_of_row w5 (A + 2) 0 _ _ _ k3
    have x1 := cell_of_row w5 (A + 2) 1 _ _ _ k3
    have x2 := cell_of_row w5 (A + 2) 2 _ _ _ k3
    have x3 := cell_of_row w5 (A + 2) 3 _ _ _ k3
    have x4 := cell_of_row w5 (A + 2) 4 _ _ _ k3
    have x5 := cell_of_row w5 (A + 2) 5 _ _ _ k3
    simp only [List.getElem?_toArray, List.getElem?_cons_zero, List.getElem?_cons_succ] at x0 x1 x2 x3 x4 x5
    exact bodyPost_ret (v := .tuple #[chart0, .int .i64 e]) (by simp [results, Try.results40, go_sem, x0, x1, x2, x3, x4, x5]) rfl
      ⟨k4.below (by have := H4.out.ge; omega) (Nat.le_refl _), fun _ => rfl, fun h => absurd h H0.out⟩
end Go.Proofs.Ytkpnngpnjimogaa
