/-
  The walk of Mark of the program.
-/
import Derived.Test.YtkpnngpnjimogaaWMrkM
namespace Go.Proofs.Ytkpnngpnjimogaa
open Go.RowKit

theorem delete_own2 (B g q bc : Nat) (Y : Nat → Int) (i : Nat) (hi : i < q) (w : World) (hr : w.ownsRow B 3 1 (.slice (some ⟨g, 0, none⟩) q bc) q (vals q (iv Y))) :
    Calls Try.prog 62 #[.slice (some ⟨g, 0, none⟩) q bc, .int .i64 i, .int .i64 ((i : Int) + 1)] w fun e w' => ∃ xo xc, e = .returned (.slice xo (q - 1) xc) ∧ Aft B (q - 1) (delY Y i) xo w' ∧ Below B w w' := delete_own B g q bc Y i hi w hr
theorem clnd_in {m q : Nat} {K Y : Nat → Int} {w w' : World} {r : Ending} (h : Clnd m q K Y w r w') :
    ∃ ko kc bo bc N, r = .returned (.agg #[.slice ko m kc, .slice bo q bc]) ∧ w'.ownsRow w.heap.size 3 1 (.slice ko m kc) m (vals m (iv K)) ∧ (∀ k, (Value.slice ko m kc).ownBlock = some k → k < N) ∧
      w'.ownsRow N 3 1 (.slice bo q bc) q (vals q (iv Y)) ∧ w.heap.size ≤ N ∧ N ≤ w'.heap.size ∧ Below w.heap.size w w' := by
  obtain ⟨ko, kc, bo, bc, N, hr, h1, h2, h3, h4, hb⟩ := h
  rcases h3.2 with ⟨e, h0⟩ | ⟨g, cap, cur, e, hNg, hg, hrest⟩
  · exact ⟨ko, kc, bo, bc, w'.heap.size, hr, h1, fun k hk => (h1.lt k hk).2, ⟨h3.1, .inl ⟨e, h0⟩⟩, hb.size, Nat.le_refl _, hb⟩
  · exact ⟨ko, kc, bo, bc, N, hr, h1, h2, h3, h4, by have := heap_lt hg; omega, hb⟩
theorem heap_new (w : World) (o : Obj) : (w.alloc o).heap[w.heap.size]? = some o := by
  show (w.heap.push _)[_]? = _
  rw [Array.getElem?_push, if_pos rfl]
theorem own_new {w : World} {B : Nat} {e : TypeId} {size n : Nat} {v : Value} {xs : List Value} (h : w.ownsRow B e size v n xs) : v.ownBlock ≠ some w.heap.size := fun hk => by have := (h.lt _ hk).2; omega
theorem wb_start (w : World) (o : Obj) (ks bs : Value) (o2 : Obj) : (((w.alloc o).alloc (.cells #[ks, bs] 26)).alloc o2).heap[w.heap.size + 1]? = some (.cells #[ks, bs] 26 (0, 0)) := by
  show (((w.heap.push _).push _).push _)[_]? = _
  rw [Array.getElem?_push, if_neg (by simp), Array.getElem?_push, if_pos (by simp)]
theorem aft_set {B n : Nat} {Z : Nat → Int} {xo : Option Addr} {w : World} (h : Aft B n Z xo w) {p : Addr} (hp : p.block < B) (u : Value) : Aft B n Z xo (w.setCell p u) :=
  ⟨ints_set_ne h.1 (fun b off s e => by have := h.2 b off s e; omega) u, h.2⟩
/-- DG, and the box of the waters whole. -/
structure DM (d : Wat) (M : Nat) (w w1 wr : World) : Prop where
  dg : DG d M w w1 wr
  wb : wr.heap[w.heap.size + 1]? = some (.cells #[d.ks, d.bs] 26 (0, 0))
section
variable {d : Wat} {M : Nat} {w w1 wr w' : World}
theorem DM.on (h : DM d M w w1 wr) (k : Nx d M wr w') : DM d M w w1 w' :=
  ⟨h.dg.on k, (k.kp.block _ (heap_lt h.wb) (by have := h.dg.rM; omega)).trans h.wb⟩
theorem DM.go (h : DM d M w w1 wr) (k : Below wr.heap.size wr w') : DM d M w w1 w' := h.on (h.dg.tb.cb.cx.go k)
theorem DM.start (h : LR d.W d.H (some ⟨d.ab, d.aoff, none⟩) (some ⟨d.kb, d.koff, none⟩) d.bo d.n d.cap d.m d.kcap d.q d.bcap d.Z d.K d.Y w wr) (hwb : wr.heap[w.heap.size + 1]? = some (.cells #[d.ks, d.bs] 26 (0, 0))) (hb : Below wr.heap.size wr w1) (hM : wr.heap.size ≤ M) (hC : Cx d M w1) :
    DM d M w w1 (w1.alloc (.cells #[.int .i64 d.W, .int .i64 d.H, d.as, d.ks, d.bs, .map (some M)] 52)) := by
  refine ⟨DG.start h hb hM hC, ?_⟩
  have hz := heap_lt hwb
  have hz1 := hb.size
  show (w1.heap.push _)[_]? = _
  rw [Array.getElem?_push, if_neg (by omega)]
  exact (hb.block _ hz).trans hwb
end
/-- Waters in the call's own box: the kinds in a row ahead of N. -/
structure MB (A N m : Nat) (kv yv : Value) (K : Nat → Int) (w x : World) : Prop where
  below : Below A w x
  wb : x.heap[A + 1]? = some (.cells #[kv, yv] 26 (0, 0))
  res : x.heap[A + 2]? = some (.cells #[.slice none 0 0, .slice none 0 0] 26 (0, 0))
  rk : x.ownsRow (A + 3) 3 1 kv m (vals m (iv K))
  kN : ∀ k, kv.ownBlock = some k → k < N
  hN : A + 2 < N
  hNx : N ≤ x.heap.size
theorem MB.go {A N m : Nat} {kv yv : Value} {K : Nat → Int} {w x x' : World} (h : MB A N m kv yv K w x) (k : Below N x x') : MB A N m kv yv K w x' := by
  have hN := h.hN
  exact ⟨h.below.trans (k.mono (by omega)), (k.block _ (by omega)).trans h.wb, (k.block _ hN).trans h.res, row_below h.rk k h.kN, h.kN, hN, Nat.le_trans h.hNx k.size⟩
theorem MB.put {A N m : Nat} {kv yv : Value} {K : Nat → Int} {w x : World} (h : MB A N m kv yv K w x) (z : Value) : MB A N m kv z K w (x.setCell ⟨A + 1, 1, none⟩ z) :=
  ⟨h.below.setCell (p := ⟨A + 1, 1, none⟩) (Nat.le_succ _) _, heap_setCell_same _ _ 1 _ _ z h.wb, (Below.heap_setCell _ _ _ (A + 2) (by simp)).trans h.res, row_other (a := ⟨A + 1, 1, none⟩) h.rk (own_ne h.rk (a := ⟨A + 1, 1, none⟩) (by show A + 1 < A + 3; omega)) _, h.kN, h.hN, by simpa [World.setCell] using h.hNx⟩
theorem MB.start {A N m : Nat} {k0 y0 : Value} {K : Nat → Int} {w x : World} (hb : Below A w x) (hw : x.heap[A + 1]? = some (.cells #[k0, y0] 26 (0, 0))) (hr : x.heap[A + 2]? = some (.cells #[.slice none 0 0, .slice none 0 0] 26 (0, 0))) {kv : Value} (hk : x.ownsRow (A + 3) 3 1 kv m (vals m (iv K))) (kN : ∀ k, kv.ownBlock = some k → k < N) (hN : A + 2 < N) (hx : N ≤ x.heap.size) (kv' : Value) (yv : Value) (hkv : kv' = kv := by rfl) :
    MB A N m kv yv K w ((x.setCell ⟨A + 1, 0, none⟩ kv').setCell ⟨A + 1, 1, none⟩ yv) := by
  subst hkv
  exact ⟨set2_below hb (Nat.le_succ _) _ _, set2 hw _ _, (Below.heap_setCell _ _ _ (A + 2) (by simp)).trans ((Below.heap_setCell _ _ _ (A + 2) (by simp)).trans hr), set2_row hk (own_ne hk (a := ⟨A + 1, 0, none⟩) (by show A + 1 < A + 3; omega)) _ _, kN, hN, by simpa [World.setCell] using hx⟩

set_option maxRecDepth 20000 in
set_option maxHeartbeats 1600000 in
theorem mark_no (W H : Int) (ao ko bo : Option Addr) (n cap m kcap q bcap : Nat) (Z K Y : Nat → Int) (hn : n ≤ 4000) (hq : q ≤ 4000) (t : Int) (e : Int) (h : WErr W H n m q Z K Y e) (h0 : e ≠ 0) (w : World) (hI : Ints w ao n Z) (hK : Ints w ko m K) (hY : Ints w bo q Y) :
    Calls Try.prog 31 #[lv W H (.slice ao n cap), .agg #[.slice ko m kcap, .slice bo q bcap], .int .i64 t] w (WtM 0 0 (fun _ => 0) (fun _ => 0) e w) := by
  have HR := hid (LR.start (W := W) (H := H) (cap := cap) (kcap := kcap) (bcap := bcap) hI hK hY)
  have HE := hid h
  have H0 := hid h0
  have g1 : (e == 0) = false := by rw [beq_eq_false_iff_ne]; exact h0
  have g2 : (e != 0) = true := by simp [h0]
  clear hI hK hY h h0
  go_enter Try.func31, Try.ntmps31
  go_upto_region 2 with (go_at_call 40; (refine (survey_no W H ao ko bo n cap m kcap q bcap Z K Y hn hq e HE.out H0.out _ HR.out.lw.land HR.out.lw.kinds HR.out.lw.buoys).mono ?_); rintro r w1 ⟨rfl, hb⟩; have HB1 := hid (HR.out.stays hb); have HB := hid (HB1.out.stays (Joins.below_alloc1 w1 (.cells #[.int .i64 0, .int .i64 0, .slice none 0 0, .slice none 0 0, .slice none 0 0, .map none] 52))); clear hb)
  clear HB1
  generalize World.alloc w1 _ = wx at HB ⊢
  have rz := heap_lt HB.out.res
  have r0 := cell_of_row _ _ 0 _ _ _ HB.out.res
  have r1 := cell_of_row _ _ 1 _ _ _ HB.out.res
  have f0 := frozen_of_row _ _ 0 _ _ HB.out.res
  have f1 := frozen_of_row _ _ 1 _ _ HB.out.res
  simp only [List.getElem?_toArray, List.getElem?_cons_zero, List.getElem?_cons_succ] at r0 r1
  go_wp2_with fail
  have k3 := set2 HB.out.res (.slice none 0 0) (.slice none 0 0)
  have k4 := set2_below (g := w.heap.size + 2) HB.out.lw.below (by omega) (.slice none 0 0) (.slice none 0 0)
  clear r0 r1 f0 f1 rz
  generalize World.setCell _ _ _ = w5 at k3 k4 ⊢
  have q0 := cell_of_row w5 _ 0 _ _ _ k3
  have q1 := cell_of_row w5 _ 1 _ _ _ k3
  simp only [List.getElem?_toArray, List.getElem?_cons_zero, List.getElem?_cons_succ] at q0 q1
  exact bodyPost_ret (v := .tuple #[.agg #[.slice none 0 0, .slice none 0 0], .int .i64 e]) (by simp [results, Try.results31, go_sem, q0, q1]) rfl (wtm_zero k4)

set_option maxRecDepth 20000 in
set_option maxHeartbeats 1600000 in
theorem mark_tile (d : Wat) (hg : Good d.W d.H d.n d.Z) (hf : Fine d.W d.H d.m d.q d.Z d.K d.Y) (hq : d.q ≤ 4000) (t : Int) (h : tileB d.W d.H t = false) (w : World) (hl : Ints w (some ⟨d.ab, d.aoff, none⟩) d.n d.Z) (hk : Ints w (some ⟨d.kb, d.koff, none⟩) d.m d.K) (hb : Ints w d.bo d.q d.Y) :
    Calls Try.prog 31 #[d.lnd, d.wts, .int .i64 t] w (WtM 0 0 (fun _ => 0) (fun _ => 0) 2 w) := by
  have HR := hid (LR.start (W := d.W) (H := d.H) (cap := d.cap) (kcap := d.kcap) (bcap := d.bcap) hl hk hb)
  have HWB := hid (wb_start w (.cells #[.int .i64 d.W, .int .i64 d.H, d.as] 24) d.ks d.bs (.cells #[.slice none 0 0, .slice none 0 0] 26))
  have hsd := hg.side
  have hsm := mul_small hsd.2.1 hsd.2.2.2
  have hlen := hf.len
  have hm2 : d.m ≤ 1024 := by omega
  have hW32 : d.W ≤ 32 := hsd.2.1
  have hH32 : d.H ≤ 32 := hsd.2.2.2
  have HG := hid hg
  have HF := hid hf
  have HUM := hid (fun (u : Nat) (h : u < d.W * d.H) => show u < d.m by omega)
  clear hl hk hb hg hf hsd hsm hlen
  have HTI := hid (cisTile_to d hW32 hH32 t false h)
  clear h hW32 hH32
  go_enter Try.func31, Try.ntmps31
  go_upto_region 2 with (go_at_call 40; (refine (survey_yes d HG.out HF.out hq _ HR.out.lw.land HR.out.lw.kinds HR.out.lw.buoys).mono ?_); rintro r w1 ⟨M, rfl, hb, hM, hC⟩; have HD := hid (DM.start HR.out HWB.out hb hM hC); clear hb hM hC)
  generalize World.alloc w1 _ = wt1 at HD ⊢
  have c0 := HD.out.dg.tb.cb.c0
  have c1 := HD.out.dg.tb.cb.c1
  have c2 := HD.out.dg.tb.cb.c2
  have c3 := HD.out.dg.tb.cb.c3
  have c4 := HD.out.dg.tb.cb.c4
  have c5 := HD.out.dg.tb.cb.c5
  have hz := HD.out.dg.tb.cb.size
  have a3 : _ = some (Value.slice (some ⟨d.kb, d.koff, none⟩) d.m d.kcap) := HD.out.dg.tb.a3
  have a4 : _ = some (Value.slice d.bo d.q d.bcap) := HD.out.dg.tb.a4
  have rz := heap_lt HD.out.dg.res
  have r0 := cell_of_row _ _ 0 _ _ _ HD.out.dg.res
  have r1 := cell_of_row _ _ 1 _ _ _ HD.out.dg.res
  have f0 := frozen_of_row _ _ 0 _ _ HD.out.dg.res
  have f1 := frozen_of_row _ _ 1 _ _ HD.out.dg.res
  simp only [List.getElem?_toArray, List.getElem?_cons_zero, List.getElem?_cons_succ] at r0 r1
  have wf0 := frozen_of_row _ _ 0 _ _ HD.out.wb
  have wf1 := frozen_of_row _ _ 1 _ _ HD.out.wb
  have wz := heap_lt HD.out.wb
  go_wp2_with (go_at_call 44; (with_reducible refine (HTI.out _ _).mono ?_); rintro r wn ⟨rfl, hb⟩; have HDn := hid (HD.out.go hb); clear hb c0 c1 c2 c3 c4 c5 hz a3 a4 rz r0 r1 f0 f1 wf0 wf1 wz HD; have HD := HDn; clear HDn; have c0 := HD.out.dg.tb.cb.c0; have c1 := HD.out.dg.tb.cb.c1; have c2 := HD.out.dg.tb.cb.c2; have c3 := HD.out.dg.tb.cb.c3; have c4 := HD.out.dg.tb.cb.c4; have c5 := HD.out.dg.tb.cb.c5; have hz := HD.out.dg.tb.cb.size; have a3 : _ = some (Value.slice (some ⟨d.kb, d.koff, none⟩) d.m d.kcap) := HD.out.dg.tb.a3; have a4 : _ = some (Value.slice d.bo d.q d.bcap) := HD.out.dg.tb.a4; have rz := heap_lt HD.out.dg.res; have r0 := cell_of_row _ _ 0 _ _ _ HD.out.dg.res; have r1 := cell_of_row _ _ 1 _ _ _ HD.out.dg.res; have f0 := frozen_of_row _ _ 0 _ _ HD.out.dg.res; have f1 := frozen_of_row _ _ 1 _ _ HD.out.dg.res; simp only [List.getElem?_toArray, List.getElem?_cons_zero, List.getElem?_cons_succ] at r0 r1; have wf0 := frozen_of_row _ _ 0 _ _ HD.out.wb; have wf1 := frozen_of_row _ _ 1 _ _ HD.out.wb; have wz := heap_lt HD.out.wb)
  have k3 := set2 HD.out.dg.res (.slice none 0 0) (.slice none 0 0)
  have k4 := set2_below (g := w.heap.size + 2) HD.out.dg.tb.below (by omega) (.slice none 0 0) (.slice none 0 0)
  clear c0 c1 c2 c3 c4 c5 hz a3 a4 rz r0 r1 f0 f1 wf0 wf1 wz
  generalize World.setCell _ _ _ = w5 at k3 k4 ⊢
  have q0 := cell_of_row w5 _ 0 _ _ _ k3
  have q1 := cell_of_row w5 _ 1 _ _ _ k3
  simp only [List.getElem?_toArray, List.getElem?_cons_zero, List.getElem?_cons_succ] at q0 q1
  exact bodyPost_ret (v := .tuple #[.agg #[.slice none 0 0, .slice none 0 0], .int .i64 2]) (by simp [results, Try.results31, go_sem, q0, q1]) rfl (wtm_zero k4)

set_option maxRecDepth 20000 in
set_option maxHeartbeats 1600000 in
theorem mark_dry (d : Wat) (hg : Good d.W d.H d.n d.Z) (hf : Fine d.W d.H d.m d.q d.Z d.K d.Y) (hq : d.q ≤ 4000) (u : Nat) (hu : u < d.W * d.H) (hw : wt d.W d.Z d.K u = false) (w : World) (hl : Ints w (some ⟨d.ab, d.aoff, none⟩) d.n d.Z) (hk : Ints w (some ⟨d.kb, d.koff, none⟩) d.m d.K) (hb : Ints w d.bo d.q d.Y) :
    Calls Try.prog 31 #[d.lnd, d.wts, .int .i64 u] w (WtM 0 0 (fun _ => 0) (fun _ => 0) 9 w) := by
  have HR := hid (LR.start (W := d.W) (H := d.H) (cap := d.cap) (kcap := d.kcap) (bcap := d.bcap) hl hk hb)
  have HWB := hid (wb_start w (.cells #[.int .i64 d.W, .int .i64 d.H, d.as] 24) d.ks d.bs (.cells #[.slice none 0 0, .slice none 0 0] 26))
  have hsd := hg.side
  have hsm := mul_small hsd.2.1 hsd.2.2.2
  have hlen := hf.len
  have hm2 : d.m ≤ 1024 := by omega
  have hW32 : d.W ≤ 32 := hsd.2.1
  have hH32 : d.H ≤ 32 := hsd.2.2.2
  have HG := hid hg
  have HF := hid hf
  have HUM := hid (fun (u : Nat) (h : u < d.W * d.H) => show u < d.m by omega)
  clear hl hk hb hg hf hsd hsm hlen
  have HTI := hid (cisTile_to d hW32 hH32 u true (tile_yes hu))
  have HWT := hid (fun M w hC => cwet_any d HG.out HF.out.len M u hu false hw.symm w hC)
  clear hu hw hW32 hH32
  go_enter Try.func31, Try.ntmps31
  go_upto_region 2 with (go_at_call 40; (refine (survey_yes d HG.out HF.out hq _ HR.out.lw.land HR.out.lw.kinds HR.out.lw.buoys).mono ?_); rintro r w1 ⟨M, rfl, hb, hM, hC⟩; have HD := hid (DM.start HR.out HWB.out hb hM hC); clear hb hM hC)
  generalize World.alloc w1 _ = wt1 at HD ⊢
  have c0 := HD.out.dg.tb.cb.c0
  have c1 := HD.out.dg.tb.cb.c1
  have c2 := HD.out.dg.tb.cb.c2
  have c3 := HD.out.dg.tb.cb.c3
  have c4 := HD.out.dg.tb.cb.c4
  have c5 := HD.out.dg.tb.cb.c5
  have hz := HD.out.dg.tb.cb.size
  have a3 : _ = some (Value.slice (some ⟨d.kb, d.koff, none⟩) d.m d.kcap) := HD.out.dg.tb.a3
  have a4 : _ = some (Value.slice d.bo d.q d.bcap) := HD.out.dg.tb.a4
  have rz := heap_lt HD.out.dg.res
  have r0 := cell_of_row _ _ 0 _ _ _ HD.out.dg.res
  have r1 := cell_of_row _ _ 1 _ _ _ HD.out.dg.res
  have f0 := frozen_of_row _ _ 0 _ _ HD.out.dg.res
  have f1 := frozen_of_row _ _ 1 _ _ HD.out.dg.res
  simp only [List.getElem?_toArray, List.getElem?_cons_zero, List.getElem?_cons_succ] at r0 r1
  have wf0 := frozen_of_row _ _ 0 _ _ HD.out.wb
  have wf1 := frozen_of_row _ _ 1 _ _ HD.out.wb
  have wz := heap_lt HD.out.wb
  go_wp2_with (first | (go_at_call 44; (with_reducible refine (HTI.out _ _).mono ?_); rintro r wn ⟨rfl, hb⟩; have HDn := hid (HD.out.go hb); clear hb c0 c1 c2 c3 c4 c5 hz a3 a4 rz r0 r1 f0 f1 wf0 wf1 wz HD; have HD := HDn; clear HDn; have c0 := HD.out.dg.tb.cb.c0; have c1 := HD.out.dg.tb.cb.c1; have c2 := HD.out.dg.tb.cb.c2; have c3 := HD.out.dg.tb.cb.c3; have c4 := HD.out.dg.tb.cb.c4; have c5 := HD.out.dg.tb.cb.c5; have hz := HD.out.dg.tb.cb.size; have a3 : _ = some (Value.slice (some ⟨d.kb, d.koff, none⟩) d.m d.kcap) := HD.out.dg.tb.a3; have a4 : _ = some (Value.slice d.bo d.q d.bcap) := HD.out.dg.tb.a4; have rz := heap_lt HD.out.dg.res; have r0 := cell_of_row _ _ 0 _ _ _ HD.out.dg.res; have r1 := cell_of_row _ _ 1 _ _ _ HD.out.dg.res; have f0 := frozen_of_row _ _ 0 _ _ HD.out.dg.res; have f1 := frozen_of_row _ _ 1 _ _ HD.out.dg.res; simp only [List.getElem?_toArray, List.getElem?_cons_zero, List.getElem?_cons_succ] at r0 r1; have wf0 := frozen_of_row _ _ 0 _ _ HD.out.wb; have wf1 := frozen_of_row _ _ 1 _ _ HD.out.wb; have wz := heap_lt HD.out.wb) | (go_at_call 57; (with_reducible refine (HWT.out _ _ HD.out.dg.tb.cb.cx).mono ?_); rintro r wn ⟨rfl, hn⟩; have HDn := hid (HD.out.on hn); clear hn c0 c1 c2 c3 c4 c5 hz a3 a4 rz r0 r1 f0 f1 wf0 wf1 wz HD; have HD := HDn; clear HDn; have c0 := HD.out.dg.tb.cb.c0; have c1 := HD.out.dg.tb.cb.c1; have c2 := HD.out.dg.tb.cb.c2; have c3 := HD.out.dg.tb.cb.c3; have c4 := HD.out.dg.tb.cb.c4; have c5 := HD.out.dg.tb.cb.c5; have hz := HD.out.dg.tb.cb.size; have a3 : _ = some (Value.slice (some ⟨d.kb, d.koff, none⟩) d.m d.kcap) := HD.out.dg.tb.a3; have a4 : _ = some (Value.slice d.bo d.q d.bcap) := HD.out.dg.tb.a4; have rz := heap_lt HD.out.dg.res; have r0 := cell_of_row _ _ 0 _ _ _ HD.out.dg.res; have r1 := cell_of_row _ _ 1 _ _ _ HD.out.dg.res; have f0 := frozen_of_row _ _ 0 _ _ HD.out.dg.res; have f1 := frozen_of_row _ _ 1 _ _ HD.out.dg.res; simp only [List.getElem?_toArray, List.getElem?_cons_zero, List.getElem?_cons_succ] at r0 r1; have wf0 := frozen_of_row _ _ 0 _ _ HD.out.wb; have wf1 := frozen_of_row _ _ 1 _ _ HD.out.wb; have wz := heap_lt HD.out.wb))
  have k3 := set2 HD.out.dg.res (.slice none 0 0) (.slice none 0 0)
  have k4 := set2_below (g := w.heap.size + 2) HD.out.dg.tb.below (by omega) (.slice none 0 0) (.slice none 0 0)
  clear c0 c1 c2 c3 c4 c5 hz a3 a4 rz r0 r1 f0 f1 wf0 wf1 wz
  generalize World.setCell _ _ _ = w5 at k3 k4 ⊢
  have q0 := cell_of_row w5 _ 0 _ _ _ k3
  have q1 := cell_of_row w5 _ 1 _ _ _ k3
  simp only [List.getElem?_toArray, List.getElem?_cons_zero, List.getElem?_cons_succ] at q0 q1
  exact bodyPost_ret (v := .tuple #[.agg #[.slice none 0 0, .slice none 0 0], .int .i64 9]) (by simp [results, Try.results31, go_sem, q0, q1]) rfl (wtm_zero k4)

set_option maxRecDepth 20000 in
set_option maxHeartbeats 3200000 in
theorem mark_off (d : Wat) (hg : Good d.W d.H d.n d.Z) (hf : Fine d.W d.H d.m d.q d.Z d.K d.Y) (hq : d.q ≤ 4000) (u : Nat) (hu : u < d.W * d.H) (hw : wt d.W d.Z d.K u = true) (p : Nat) (hp : LowAt d.q d.Y u p) (hm : memK d.q d.Y u = true) (w : World) (hl : Ints w (some ⟨d.ab, d.aoff, none⟩) d.n d.Z) (hk : Ints w (some ⟨d.kb, d.koff, none⟩) d.m d.K) (hb : Ints w d.bo d.q d.Y) :
    Calls Try.prog 31 #[d.lnd, d.wts, .int .i64 u] w (WtM d.m (d.q - 1) d.K (delY d.Y p) 0 w) := by
  have HR := hid (LR.start (W := d.W) (H := d.H) (cap := d.cap) (kcap := d.kcap) (bcap := d.bcap) hl hk hb)
  have HWB := hid (wb_start w (.cells #[.int .i64 d.W, .int .i64 d.H, d.as] 24) d.ks d.bs (.cells #[.slice none 0 0, .slice none 0 0] 26))
  have hsd := hg.side
  have hsm := mul_small hsd.2.1 hsd.2.2.2
  have hlen := hf.len
  have hm2 : d.m ≤ 1024 := by omega
  have hW32 : d.W ≤ 32 := hsd.2.1
  have hH32 : d.H ≤ 32 := hsd.2.2.2
  have HG := hid hg
  have HF := hid hf
  have HUM := hid (fun (u : Nat) (h : u < d.W * d.H) => show u < d.m by omega)
  clear hl hk hb hg hf hsd hsm hlen
  have HTI := hid (cisTile_to d hW32 hH32 u true (tile_yes hu))
  have HWT := hid (fun M w hC => cwet_any d HG.out HF.out.len M u hu true hw.symm w hC)
  have HASC := hid HF.out.asc
  have HP := hid hp
  have HM := hid hm
  have HPQ := hid hp.1
  have hpq := (mem_low HASC.out hp hm).1
  have hq0 : 0 < d.q := by omega
  have hpw : IntKind.i64.wrap ((p : Int) + 1) = (p : Int) + 1 := by rw [IntKind.wrap_i64]; have := hp.1; omega
  clear hu hw hW32 hH32 hp hm
  go_enter Try.func31, Try.ntmps31
  go_upto_region 2 with (go_at_call 40; (refine (survey_yes d HG.out HF.out hq _ HR.out.lw.land HR.out.lw.kinds HR.out.lw.buoys).mono ?_); rintro r w1 ⟨M, rfl, hb, hM, hC⟩; have HD := hid (DM.start HR.out HWB.out hb hM hC); clear hb hM hC)
  generalize World.alloc w1 _ = wt1 at HD ⊢
  have c0 := HD.out.dg.tb.cb.c0
  have c1 := HD.out.dg.tb.cb.c1
  have c2 := HD.out.dg.tb.cb.c2
  have c3 := HD.out.dg.tb.cb.c3
  have c4 := HD.out.dg.tb.cb.c4
  have c5 := HD.out.dg.tb.cb.c5
  have hz := HD.out.dg.tb.cb.size
  have a3 : _ = some (Value.slice (some ⟨d.kb, d.koff, none⟩) d.m d.kcap) := HD.out.dg.tb.a3
  have a4 : _ = some (Value.slice d.bo d.q d.bcap) := HD.out.dg.tb.a4
  have rz := heap_lt HD.out.dg.res
  have r0 := cell_of_row _ _ 0 _ _ _ HD.out.dg.res
  have r1 := cell_of_row _ _ 1 _ _ _ HD.out.dg.res
  have f0 := frozen_of_row _ _ 0 _ _ HD.out.dg.res
  have f1 := frozen_of_row _ _ 1 _ _ HD.out.dg.res
  simp only [List.getElem?_toArray, List.getElem?_cons_zero, List.getElem?_cons_succ] at r0 r1
  have wf0 := frozen_of_row _ _ 0 _ _ HD.out.wb
  have wf1 := frozen_of_row _ _ 1 _ _ HD.out.wb
  have wz := heap_lt HD.out.wb
  go_upto_region 9 with (first | (go_at_call 44; (with_reducible refine (HTI.out _ _).mono ?_); rintro r wn ⟨rfl, hb⟩; have HDn := hid (HD.out.go hb); clear hb c0 c1 c2 c3 c4 c5 hz a3 a4 rz r0 r1 f0 f1 wf0 wf1 wz HD; have HD := HDn; clear HDn; have c0 := HD.out.dg.tb.cb.c0; have c1 := HD.out.dg.tb.cb.c1; have c2 := HD.out.dg.tb.cb.c2; have c3 := HD.out.dg.tb.cb.c3; have c4 := HD.out.dg.tb.cb.c4; have c5 := HD.out.dg.tb.cb.c5; have hz := HD.out.dg.tb.cb.size; have a3 : _ = some (Value.slice (some ⟨d.kb, d.koff, none⟩) d.m d.kcap) := HD.out.dg.tb.a3; have a4 : _ = some (Value.slice d.bo d.q d.bcap) := HD.out.dg.tb.a4; have rz := heap_lt HD.out.dg.res; have r0 := cell_of_row _ _ 0 _ _ _ HD.out.dg.res; have r1 := cell_of_row _ _ 1 _ _ _ HD.out.dg.res; have f0 := frozen_of_row _ _ 0 _ _ HD.out.dg.res; have f1 := frozen_of_row _ _ 1 _ _ HD.out.dg.res; simp only [List.getElem?_toArray, List.getElem?_cons_zero, List.getElem?_cons_succ] at r0 r1; have wf0 := frozen_of_row _ _ 0 _ _ HD.out.wb; have wf1 := frozen_of_row _ _ 1 _ _ HD.out.wb; have wz := heap_lt HD.out.wb) | (go_at_call 57; (with_reducible refine (HWT.out _ _ HD.out.dg.tb.cb.cx).mono ?_); rintro r wn ⟨rfl, hn⟩; have HDn := hid (HD.out.on hn); clear hn c0 c1 c2 c3 c4 c5 hz a3 a4 rz r0 r1 f0 f1 wf0 wf1 wz HD; have HD := HDn; clear HDn; have c0 := HD.out.dg.tb.cb.c0; have c1 := HD.out.dg.tb.cb.c1; have c2 := HD.out.dg.tb.cb.c2; have c3 := HD.out.dg.tb.cb.c3; have c4 := HD.out.dg.tb.cb.c4; have c5 := HD.out.dg.tb.cb.c5; have hz := HD.out.dg.tb.cb.size; have a3 : _ = some (Value.slice (some ⟨d.kb, d.koff, none⟩) d.m d.kcap) := HD.out.dg.tb.a3; have a4 : _ = some (Value.slice d.bo d.q d.bcap) := HD.out.dg.tb.a4; have rz := heap_lt HD.out.dg.res; have r0 := cell_of_row _ _ 0 _ _ _ HD.out.dg.res; have r1 := cell_of_row _ _ 1 _ _ _ HD.out.dg.res; have f0 := frozen_of_row _ _ 0 _ _ HD.out.dg.res; have f1 := frozen_of_row _ _ 1 _ _ HD.out.dg.res; simp only [List.getElem?_toArray, List.getElem?_cons_zero, List.getElem?_cons_succ] at r0 r1; have wf0 := frozen_of_row _ _ 0 _ _ HD.out.wb; have wf1 := frozen_of_row _ _ 1 _ _ HD.out.wb; have wz := heap_lt HD.out.wb) | (go_at_call 60; (with_reducible refine (wclone_any (some ⟨d.kb, d.koff, none⟩) d.m d.kcap d.K d.bo d.q d.bcap d.Y (by omega) hq _ HD.out.dg.tb.cb.cx.kinds HD.out.dg.tb.cb.cx.buoys).mono ?_); rintro r wn hcl; obtain ⟨xo, xc, yo, yc, N, rfl, hx, hN, hy, hNN, hNx, hb⟩ := clnd_in hcl; clear hcl; have HX := hid (row_mono (base' := w.heap.size + 3) hx rz); have HN := hid hN; have HNN := hid (Nat.lt_of_lt_of_le rz hNN); have HY := hid hy; have HNX := hid hNx; clear hx hN hy hNN hNx; have HDn := hid (HD.out.go hb); clear hb c0 c1 c2 c3 c4 c5 hz a3 a4 rz r0 r1 f0 f1 wf0 wf1 wz HD; have HD := HDn; clear HDn; have c0 := HD.out.dg.tb.cb.c0; have c1 := HD.out.dg.tb.cb.c1; have c2 := HD.out.dg.tb.cb.c2; have c3 := HD.out.dg.tb.cb.c3; have c4 := HD.out.dg.tb.cb.c4; have c5 := HD.out.dg.tb.cb.c5; have hz := HD.out.dg.tb.cb.size; have a3 : _ = some (Value.slice (some ⟨d.kb, d.koff, none⟩) d.m d.kcap) := HD.out.dg.tb.a3; have a4 : _ = some (Value.slice d.bo d.q d.bcap) := HD.out.dg.tb.a4; have rz := heap_lt HD.out.dg.res; have r0 := cell_of_row _ _ 0 _ _ _ HD.out.dg.res; have r1 := cell_of_row _ _ 1 _ _ _ HD.out.dg.res; have f0 := frozen_of_row _ _ 0 _ _ HD.out.dg.res; have f1 := frozen_of_row _ _ 1 _ _ HD.out.dg.res; simp only [List.getElem?_toArray, List.getElem?_cons_zero, List.getElem?_cons_succ] at r0 r1; have wf0 := frozen_of_row _ _ 0 _ _ HD.out.wb; have wf1 := frozen_of_row _ _ 1 _ _ HD.out.wb; have wz := heap_lt HD.out.wb))
  have HB := hid (MB.start HD.out.dg.tb.below HD.out.wb HD.out.dg.res HX.out HN.out HNN.out HNX.out (.slice xo d.m xc) (.slice yo d.q yc))
  have HYn := hid (set2_row (g := w.heap.size + 1) HY.out (own_ne HY.out (a := ⟨w.heap.size + 1, 0, none⟩) (by have := HNN.out; show w.heap.size + 1 < N; omega)) (.slice xo d.m xc) (.slice yo d.q yc))
  clear c0 c1 c2 c3 c4 c5 hz a3 a4 rz r0 r1 f0 f1 wf0 wf1 wz HY HX HD HR HN HNX
  have HY := HYn
  clear HYn
  generalize World.setCell _ _ _ = wb at HB HY ⊢
  obtain ⟨g, gc, e, hNg, hgl⟩ := HY.out.form hq0
  cases e
  clear hNg hgl
  have p0 := cell_of_row _ _ 0 _ _ _ HB.out.wb
  have p1 := cell_of_row _ _ 1 _ _ _ HB.out.wb
  have pf0 := frozen_of_row _ _ 0 _ _ HB.out.wb
  have pf1 := frozen_of_row _ _ 1 _ _ HB.out.wb
  have r0 := cell_of_row _ _ 0 _ _ _ HB.out.res
  have r1 := cell_of_row _ _ 1 _ _ _ HB.out.res
  have f0 := frozen_of_row _ _ 0 _ _ HB.out.res
  have f1 := frozen_of_row _ _ 1 _ _ HB.out.res
  have pz := heap_lt HB.out.res
  have qz := heap_lt HB.out.wb
  simp only [List.getElem?_toArray, List.getElem?_cons_zero, List.getElem?_cons_succ] at p0 p1 r0 r1
  go_upto_region 13 with (first | (go_at_call 61; (with_reducible refine (bs_any (some ⟨g, 0, none⟩) d.q yc d.Y (by omega) HASC.out u p HP.out true HM.out _ (ints_of_vals HY.out)).mono ?_); rintro r wn ⟨rfl, hb⟩; have HBn := hid (HB.out.go (hb.mono HB.out.hNx)); have HYn := hid (row_stays HY.out hb); clear hb p0 p1 pf0 pf1 r0 r1 f0 f1 pz qz HB HY; have HB := HBn; have HY := HYn; clear HBn HYn; have p0 := cell_of_row _ _ 0 _ _ _ HB.out.wb; have p1 := cell_of_row _ _ 1 _ _ _ HB.out.wb; have pf0 := frozen_of_row _ _ 0 _ _ HB.out.wb; have pf1 := frozen_of_row _ _ 1 _ _ HB.out.wb; have r0 := cell_of_row _ _ 0 _ _ _ HB.out.res; have r1 := cell_of_row _ _ 1 _ _ _ HB.out.res; have f0 := frozen_of_row _ _ 0 _ _ HB.out.res; have f1 := frozen_of_row _ _ 1 _ _ HB.out.res; have pz := heap_lt HB.out.res; have qz := heap_lt HB.out.wb; simp only [List.getElem?_toArray, List.getElem?_cons_zero, List.getElem?_cons_succ] at p0 p1 r0 r1) | (go_at_call 62; (with_reducible refine (delete_own2 N g d.q yc d.Y p hpq _ HY.out).mono ?_); rintro r wn ⟨zo, zc, rfl, ha, hb⟩; have HA := hid ha; have HBn := hid (HB.out.go hb); clear ha hb p0 p1 pf0 pf1 r0 r1 f0 f1 pz qz HB HY; have HB := HBn; clear HBn; have p0 := cell_of_row _ _ 0 _ _ _ HB.out.wb; have p1 := cell_of_row _ _ 1 _ _ _ HB.out.wb; have pf0 := frozen_of_row _ _ 0 _ _ HB.out.wb; have pf1 := frozen_of_row _ _ 1 _ _ HB.out.wb; have r0 := cell_of_row _ _ 0 _ _ _ HB.out.res; have r1 := cell_of_row _ _ 1 _ _ _ HB.out.res; have f0 := frozen_of_row _ _ 0 _ _ HB.out.res; have f1 := frozen_of_row _ _ 1 _ _ HB.out.res; have pz := heap_lt HB.out.res; have qz := heap_lt HB.out.wb; simp only [List.getElem?_toArray, List.getElem?_cons_zero, List.getElem?_cons_succ] at p0 p1 r0 r1))
  have HBn := hid (HB.out.put (.slice zo (d.q - 1) zc))
  have HAn := hid (aft_set HA.out (p := ⟨w.heap.size + 1, 1, none⟩) (by have := HB.out.hN; show w.heap.size + 1 < N; omega) (.slice zo (d.q - 1) zc))
  clear p0 p1 pf0 pf1 r0 r1 f0 f1 pz qz HB HA
  have HB := HBn
  have HA := HAn
  clear HBn HAn
  generalize World.setCell _ _ _ = wc at HB HA ⊢
  have p0 := cell_of_row _ _ 0 _ _ _ HB.out.wb
  have p1 := cell_of_row _ _ 1 _ _ _ HB.out.wb
  have pf0 := frozen_of_row _ _ 0 _ _ HB.out.wb
  have pf1 := frozen_of_row _ _ 1 _ _ HB.out.wb
  have r0 := cell_of_row _ _ 0 _ _ _ HB.out.res
  have r1 := cell_of_row _ _ 1 _ _ _ HB.out.res
  have f0 := frozen_of_row _ _ 0 _ _ HB.out.res
  have f1 := frozen_of_row _ _ 1 _ _ HB.out.res
  have pz := heap_lt HB.out.res
  have qz := heap_lt HB.out.wb
  simp only [List.getElem?_toArray, List.getElem?_cons_zero, List.getElem?_cons_succ] at p0 p1 r0 r1
  go_wp2_with fail
  have k3 := set2 HB.out.res (.slice xo d.m xc) (.slice zo (d.q - 1) zc)
  have k4 := set2_below (g := w.heap.size + 2) HB.out.below (by omega) (.slice xo d.m xc) (.slice zo (d.q - 1) zc)
  have k5 := set2_row (g := w.heap.size + 2) HB.out.rk (own_ne HB.out.rk (a := ⟨w.heap.size + 2, 0, none⟩) (Nat.lt_succ_self _)) (.slice xo d.m xc) (.slice zo (d.q - 1) zc)
  have hN := HB.out.hN
  have k6 := aft_set (aft_set HA.out (p := ⟨w.heap.size + 2, 0, none⟩) hN (.slice xo d.m xc)) (p := ⟨w.heap.size + 2, 1, none⟩) hN (.slice zo (d.q - 1) zc)
  clear p0 p1 pf0 pf1 r0 r1 f0 f1 pz qz
  generalize World.setCell _ _ _ = w5 at k3 k4 k5 k6 ⊢
  have q0 := cell_of_row w5 _ 0 _ _ _ k3
  have q1 := cell_of_row w5 _ 1 _ _ _ k3
  simp only [List.getElem?_toArray, List.getElem?_cons_zero, List.getElem?_cons_succ] at q0 q1
  exact bodyPost_ret (v := .tuple #[.agg #[.slice xo d.m xc, .slice zo (d.q - 1) zc], .int .i64 0]) (by simp [results, Try.results31, go_sem, q0, q1]) rfl ⟨xo, xc, zo, zc, rfl, ints_of_vals k5, k6.1, k4⟩
set_option maxRecDepth 20000 in
set_option maxHeartbeats 3200000 in
theorem mark_on (d : Wat) (hg : Good d.W d.H d.n d.Z) (hf : Fine d.W d.H d.m d.q d.Z d.K d.Y) (hq : d.q ≤ 4000) (u : Nat) (hu : u < d.W * d.H) (hw : wt d.W d.Z d.K u = true) (p : Nat) (hp : LowAt d.q d.Y u p) (hm : memK d.q d.Y u = false) (w : World) (hl : Ints w (some ⟨d.ab, d.aoff, none⟩) d.n d.Z) (hk : Ints w (some ⟨d.kb, d.koff, none⟩) d.m d.K) (hb : Ints w d.bo d.q d.Y) :
    Calls Try.prog 31 #[d.lnd, d.wts, .int .i64 u] w (WtM d.m (d.q + 1) d.K (insY d.Y p u) 0 w) := by
  have HR := hid (LR.start (W := d.W) (H := d.H) (cap := d.cap) (kcap := d.kcap) (bcap := d.bcap) hl hk hb)
  have HWB := hid (wb_start w (.cells #[.int .i64 d.W, .int .i64 d.H, d.as] 24) d.ks d.bs (.cells #[.slice none 0 0, .slice none 0 0] 26))
  have hsd := hg.side
  have hsm := mul_small hsd.2.1 hsd.2.2.2
  have hlen := hf.len
  have hm2 : d.m ≤ 1024 := by omega
  have hW32 : d.W ≤ 32 := hsd.2.1
  have hH32 : d.H ≤ 32 := hsd.2.2.2
  have HG := hid hg
  have HF := hid hf
  have HUM := hid (fun (u : Nat) (h : u < d.W * d.H) => show u < d.m by omega)
  clear hl hk hb hg hf hsd hsm hlen
  have HTI := hid (cisTile_to d hW32 hH32 u true (tile_yes hu))
  have HWT := hid (fun M w hC => cwet_any d HG.out HF.out.len M u hu true hw.symm w hC)
  have HASC := hid HF.out.asc
  have HP := hid hp
  have HM := hid hm
  have HPQ := hid hp.1
  have hpw : IntKind.i64.wrap ((p : Int) + 1) = (p : Int) + 1 := by rw [IntKind.wrap_i64]; have := hp.1; omega
  clear hu hw hW32 hH32 hp hm
  go_enter Try.func31, Try.ntmps31
  go_upto_region 2 with (go_at_call 40; (refine (survey_yes d HG.out HF.out hq _ HR.out.lw.land HR.out.lw.kinds HR.out.lw.buoys).mono ?_); rintro r w1 ⟨M, rfl, hb, hM, hC⟩; have HD := hid (DM.start HR.out HWB.out hb hM hC); clear hb hM hC)
  generalize World.alloc w1 _ = wt1 at HD ⊢
  have c0 := HD.out.dg.tb.cb.c0
  have c1 := HD.out.dg.tb.cb.c1
  have c2 := HD.out.dg.tb.cb.c2
  have c3 := HD.out.dg.tb.cb.c3
  have c4 := HD.out.dg.tb.cb.c4
  have c5 := HD.out.dg.tb.cb.c5
  have hz := HD.out.dg.tb.cb.size
  have a3 : _ = some (Value.slice (some ⟨d.kb, d.koff, none⟩) d.m d.kcap) := HD.out.dg.tb.a3
  have a4 : _ = some (Value.slice d.bo d.q d.bcap) := HD.out.dg.tb.a4
  have rz := heap_lt HD.out.dg.res
  have r0 := cell_of_row _ _ 0 _ _ _ HD.out.dg.res
  have r1 := cell_of_row _ _ 1 _ _ _ HD.out.dg.res
  have f0 := frozen_of_row _ _ 0 _ _ HD.out.dg.res
  have f1 := frozen_of_row _ _ 1 _ _ HD.out.dg.res
  simp only [List.getElem?_toArray, List.getElem?_cons_zero, List.getElem?_cons_succ] at r0 r1
  have wf0 := frozen_of_row _ _ 0 _ _ HD.out.wb
  have wf1 := frozen_of_row _ _ 1 _ _ HD.out.wb
  have wz := heap_lt HD.out.wb
  go_upto_region 9 with (first | (go_at_call 44; (with_reducible refine (HTI.out _ _).mono ?_); rintro r wn ⟨rfl, hb⟩; have HDn := hid (HD.out.go hb); clear hb c0 c1 c2 c3 c4 c5 hz a3 a4 rz r0 r1 f0 f1 wf0 wf1 wz HD; have HD := HDn; clear HDn; have c0 := HD.out.dg.tb.cb.c0; have c1 := HD.out.dg.tb.cb.c1; have c2 := HD.out.dg.tb.cb.c2; have c3 := HD.out.dg.tb.cb.c3; have c4 := HD.out.dg.tb.cb.c4; have c5 := HD.out.dg.tb.cb.c5; have hz := HD.out.dg.tb.cb.size; have a3 : _ = some (Value.slice (some ⟨d.kb, d.koff, none⟩) d.m d.kcap) := HD.out.dg.tb.a3; have a4 : _ = some (Value.slice d.bo d.q d.bcap) := HD.out.dg.tb.a4; have rz := heap_lt HD.out.dg.res; have r0 := cell_of_row _ _ 0 _ _ _ HD.out.dg.res; have r1 := cell_of_row _ _ 1 _ _ _ HD.out.dg.res; have f0 := frozen_of_row _ _ 0 _ _ HD.out.dg.res; have f1 := frozen_of_row _ _ 1 _ _ HD.out.dg.res; simp only [List.getElem?_toArray, List.getElem?_cons_zero, List.getElem?_cons_succ] at r0 r1; have wf0 := frozen_of_row _ _ 0 _ _ HD.out.wb; have wf1 := frozen_of_row _ _ 1 _ _ HD.out.wb; have wz := heap_lt HD.out.wb) | (go_at_call 57; (with_reducible refine (HWT.out _ _ HD.out.dg.tb.cb.cx).mono ?_); rintro r wn ⟨rfl, hn⟩; have HDn := hid (HD.out.on hn); clear hn c0 c1 c2 c3 c4 c5 hz a3 a4 rz r0 r1 f0 f1 wf0 wf1 wz HD; have HD := HDn; clear HDn; have c0 := HD.out.dg.tb.cb.c0; have c1 := HD.out.dg.tb.cb.c1; have c2 := HD.out.dg.tb.cb.c2; have c3 := HD.out.dg.tb.cb.c3; have c4 := HD.out.dg.tb.cb.c4; have c5 := HD.out.dg.tb.cb.c5; have hz := HD.out.dg.tb.cb.size; have a3 : _ = some (Value.slice (some ⟨d.kb, d.koff, none⟩) d.m d.kcap) := HD.out.dg.tb.a3; have a4 : _ = some (Value.slice d.bo d.q d.bcap) := HD.out.dg.tb.a4; have rz := heap_lt HD.out.dg.res; have r0 := cell_of_row _ _ 0 _ _ _ HD.out.dg.res; have r1 := cell_of_row _ _ 1 _ _ _ HD.out.dg.res; have f0 := frozen_of_row _ _ 0 _ _ HD.out.dg.res; have f1 := frozen_of_row _ _ 1 _ _ HD.out.dg.res; simp only [List.getElem?_toArray, List.getElem?_cons_zero, List.getElem?_cons_succ] at r0 r1; have wf0 := frozen_of_row _ _ 0 _ _ HD.out.wb; have wf1 := frozen_of_row _ _ 1 _ _ HD.out.wb; have wz := heap_lt HD.out.wb) | (go_at_call 60; (with_reducible refine (wclone_any (some ⟨d.kb, d.koff, none⟩) d.m d.kcap d.K d.bo d.q d.bcap d.Y (by omega) hq _ HD.out.dg.tb.cb.cx.kinds HD.out.dg.tb.cb.cx.buoys).mono ?_); rintro r wn hcl; obtain ⟨xo, xc, yo, yc, N, rfl, hx, hN, hy, hNN, hNx, hb⟩ := clnd_in hcl; clear hcl; have HX := hid (row_mono (base' := w.heap.size + 3) hx rz); have HN := hid hN; have HNN := hid (Nat.lt_of_lt_of_le rz hNN); have HY := hid hy; have HNX := hid hNx; clear hx hN hy hNN hNx; have HDn := hid (HD.out.go hb); clear hb c0 c1 c2 c3 c4 c5 hz a3 a4 rz r0 r1 f0 f1 wf0 wf1 wz HD; have HD := HDn; clear HDn; have c0 := HD.out.dg.tb.cb.c0; have c1 := HD.out.dg.tb.cb.c1; have c2 := HD.out.dg.tb.cb.c2; have c3 := HD.out.dg.tb.cb.c3; have c4 := HD.out.dg.tb.cb.c4; have c5 := HD.out.dg.tb.cb.c5; have hz := HD.out.dg.tb.cb.size; have a3 : _ = some (Value.slice (some ⟨d.kb, d.koff, none⟩) d.m d.kcap) := HD.out.dg.tb.a3; have a4 : _ = some (Value.slice d.bo d.q d.bcap) := HD.out.dg.tb.a4; have rz := heap_lt HD.out.dg.res; have r0 := cell_of_row _ _ 0 _ _ _ HD.out.dg.res; have r1 := cell_of_row _ _ 1 _ _ _ HD.out.dg.res; have f0 := frozen_of_row _ _ 0 _ _ HD.out.dg.res; have f1 := frozen_of_row _ _ 1 _ _ HD.out.dg.res; simp only [List.getElem?_toArray, List.getElem?_cons_zero, List.getElem?_cons_succ] at r0 r1; have wf0 := frozen_of_row _ _ 0 _ _ HD.out.wb; have wf1 := frozen_of_row _ _ 1 _ _ HD.out.wb; have wz := heap_lt HD.out.wb))
  have HB := hid (MB.start HD.out.dg.tb.below HD.out.wb HD.out.dg.res HX.out HN.out HNN.out HNX.out (.slice xo d.m xc) (.slice yo d.q yc))
  have HYn := hid (set2_row (g := w.heap.size + 1) HY.out (own_ne HY.out (a := ⟨w.heap.size + 1, 0, none⟩) (by have := HNN.out; show w.heap.size + 1 < N; omega)) (.slice xo d.m xc) (.slice yo d.q yc))
  clear c0 c1 c2 c3 c4 c5 hz a3 a4 rz r0 r1 f0 f1 wf0 wf1 wz HY HX HD HR HN HNX
  have HY := HYn
  clear HYn
  generalize World.setCell _ _ _ = wb at HB HY ⊢
  have p0 := cell_of_row _ _ 0 _ _ _ HB.out.wb
  have p1 := cell_of_row _ _ 1 _ _ _ HB.out.wb
  have pf0 := frozen_of_row _ _ 0 _ _ HB.out.wb
  have pf1 := frozen_of_row _ _ 1 _ _ HB.out.wb
  have r0 := cell_of_row _ _ 0 _ _ _ HB.out.res
  have r1 := cell_of_row _ _ 1 _ _ _ HB.out.res
  have f0 := frozen_of_row _ _ 0 _ _ HB.out.res
  have f1 := frozen_of_row _ _ 1 _ _ HB.out.res
  have pz := heap_lt HB.out.res
  have qz := heap_lt HB.out.wb
  simp only [List.getElem?_toArray, List.getElem?_cons_zero, List.getElem?_cons_succ] at p0 p1 r0 r1
  go_upto_region 13 with (first | (go_at_call 61; (with_reducible refine (bs_any yo d.q yc d.Y (by omega) HASC.out u p HP.out false HM.out _ (ints_of_vals HY.out)).mono ?_); rintro r wn ⟨rfl, hb⟩; have HBn := hid (HB.out.go (hb.mono HB.out.hNx)); have HYn := hid (row_stays HY.out hb); clear hb p0 p1 pf0 pf1 r0 r1 f0 f1 pz qz HB HY; have HB := HBn; have HY := HYn; clear HBn HYn; have p0 := cell_of_row _ _ 0 _ _ _ HB.out.wb; have p1 := cell_of_row _ _ 1 _ _ _ HB.out.wb; have pf0 := frozen_of_row _ _ 0 _ _ HB.out.wb; have pf1 := frozen_of_row _ _ 1 _ _ HB.out.wb; have r0 := cell_of_row _ _ 0 _ _ _ HB.out.res; have r1 := cell_of_row _ _ 1 _ _ _ HB.out.res; have f0 := frozen_of_row _ _ 0 _ _ HB.out.res; have f1 := frozen_of_row _ _ 1 _ _ HB.out.res; have pz := heap_lt HB.out.res; have qz := heap_lt HB.out.wb; simp only [List.getElem?_toArray, List.getElem?_cons_zero, List.getElem?_cons_succ] at p0 p1 r0 r1) | (go_at_call 63; (with_reducible refine (insert_own N yo d.q yc _ d.Y hq p HPQ.out u _ (row_stays HY.out (Joins.below_alloc1 wn _)) (by have := HB.out.hNx; simp; omega) (heap_new wn _) (own_new HY.out)).mono ?_); rintro r wm ⟨zo, zc, rfl, ha, hb⟩; have HA := hid ha; have HBn := hid ((HB.out.go ((Joins.below_alloc1 wn _).mono HB.out.hNx)).go hb); clear ha hb p0 p1 pf0 pf1 r0 r1 f0 f1 pz qz HB HY; have HB := HBn; clear HBn; have p0 := cell_of_row _ _ 0 _ _ _ HB.out.wb; have p1 := cell_of_row _ _ 1 _ _ _ HB.out.wb; have pf0 := frozen_of_row _ _ 0 _ _ HB.out.wb; have pf1 := frozen_of_row _ _ 1 _ _ HB.out.wb; have r0 := cell_of_row _ _ 0 _ _ _ HB.out.res; have r1 := cell_of_row _ _ 1 _ _ _ HB.out.res; have f0 := frozen_of_row _ _ 0 _ _ HB.out.res; have f1 := frozen_of_row _ _ 1 _ _ HB.out.res; have pz := heap_lt HB.out.res; have qz := heap_lt HB.out.wb; simp only [List.getElem?_toArray, List.getElem?_cons_zero, List.getElem?_cons_succ] at p0 p1 r0 r1))
  have HBn := hid (HB.out.put (.slice zo (d.q + 1) zc))
  have HAn := hid (aft_set HA.out (p := ⟨w.heap.size + 1, 1, none⟩) (by have := HB.out.hN; show w.heap.size + 1 < N; omega) (.slice zo (d.q + 1) zc))
  clear p0 p1 pf0 pf1 r0 r1 f0 f1 pz qz HB HA
  have HB := HBn
  have HA := HAn
  clear HBn HAn
  generalize World.setCell _ _ _ = wc at HB HA ⊢
  have p0 := cell_of_row _ _ 0 _ _ _ HB.out.wb
  have p1 := cell_of_row _ _ 1 _ _ _ HB.out.wb
  have pf0 := frozen_of_row _ _ 0 _ _ HB.out.wb
  have pf1 := frozen_of_row _ _ 1 _ _ HB.out.wb
  have r0 := cell_of_row _ _ 0 _ _ _ HB.out.res
  have r1 := cell_of_row _ _ 1 _ _ _ HB.out.res
  have f0 := frozen_of_row _ _ 0 _ _ HB.out.res
  have f1 := frozen_of_row _ _ 1 _ _ HB.out.res
  have pz := heap_lt HB.out.res
  have qz := heap_lt HB.out.wb
  simp only [List.getElem?_toArray, List.getElem?_cons_zero, List.getElem?_cons_succ] at p0 p1 r0 r1
  go_wp2_with fail
  have k3 := set2 HB.out.res (.slice xo d.m xc) (.slice zo (d.q + 1) zc)
  have k4 := set2_below (g := w.heap.size + 2) HB.out.below (by omega) (.slice xo d.m xc) (.slice zo (d.q + 1) zc)
  have k5 := set2_row (g := w.heap.size + 2) HB.out.rk (own_ne HB.out.rk (a := ⟨w.heap.size + 2, 0, none⟩) (Nat.lt_succ_self _)) (.slice xo d.m xc) (.slice zo (d.q + 1) zc)
  have hN := HB.out.hN
  have k6 := aft_set (aft_set HA.out (p := ⟨w.heap.size + 2, 0, none⟩) hN (.slice xo d.m xc)) (p := ⟨w.heap.size + 2, 1, none⟩) hN (.slice zo (d.q + 1) zc)
  clear p0 p1 pf0 pf1 r0 r1 f0 f1 pz qz
  generalize World.setCell _ _ _ = w5 at k3 k4 k5 k6 ⊢
  have q0 := cell_of_row w5 _ 0 _ _ _ k3
  have q1 := cell_of_row w5 _ 1 _ _ _ k3
  simp only [List.getElem?_toArray, List.getElem?_cons_zero, List.getElem?_cons_succ] at q0 q1
  exact bodyPost_ret (v := .tuple #[.agg #[.slice xo d.m xc, .slice zo (d.q + 1) zc], .int .i64 0]) (by simp [results, Try.results31, go_sem, q0, q1]) rfl ⟨xo, xc, zo, zc, rfl, ints_of_vals k5, k6.1, k4⟩

theorem mark_to (W H : Int) (ao ko bo : Option Addr) (n cap m kcap q bcap : Nat) (Z K Y : Nat → Int) (hn : n ≤ 4000) (hq : q ≤ 4000) (t : Int) {m' q' : Nat} {K' Y' : Nat → Int} {e : Int} (h : MOut W H n m q Z K Y t m' q' K' Y' e) (w : World) (hI : Ints w ao n Z) (hK : Ints w ko m K) (hY : Ints w bo q Y) :
    Calls Try.prog 31 #[lv W H (.slice ao n cap), .agg #[.slice ko m kcap, .slice bo q bcap], .int .i64 t] w (WtM m' q' K' Y' e w) := by
  have yes : ∀ W' H' : Nat, W = W' → H = H' → Good W' H' n Z → Fine W' H' m q Z K Y → ∃ d : Wat, (W = d.W ∧ H = d.H ∧ W' = d.W ∧ H' = d.H) ∧ (ao = some ⟨d.ab, d.aoff, none⟩ ∧ ko = some ⟨d.kb, d.koff, none⟩ ∧ bo = d.bo) ∧ (n = d.n ∧ cap = d.cap ∧ m = d.m ∧ kcap = d.kcap ∧ q = d.q ∧ bcap = d.bcap) ∧ (Z = d.Z ∧ K = d.K ∧ Y = d.Y) ∧ Good d.W d.H d.n d.Z ∧ Fine d.W d.H d.m d.q d.Z d.K d.Y := by
    rintro W' H' rfl rfl hg hf
    obtain ⟨d, ⟨hW, hH, h1, h2, h3⟩, h4, h5, hg', hf'⟩ := fine_wat cap kcap bcap (hg.werr hf.err) hI hK hY
    exact ⟨d, ⟨hW, hH, by omega, by omega⟩, ⟨h1, h2, h3⟩, h4, h5, hg', hf'⟩
  rcases h with ⟨h0, ⟨rfl, rfl, rfl, rfl⟩, h | ⟨rfl, W', H', u, hW, hH, hg, hf, rfl, hu, hw⟩⟩ | ⟨rfl, W', H', u, hW, hH, hg, hf, rfl, hu, hw, rfl, rfl, p, hp, hm⟩
  · rcases h with ⟨_, h⟩ | ⟨W', H', hW, hH, hg, hf, ⟨rfl, h⟩ | ⟨rfl, _⟩⟩
    · exact mark_no W H ao ko bo n cap m kcap q bcap Z K Y hn hq t e h h0 w hI hK hY
    · obtain ⟨d, ⟨rfl, rfl, rfl, rfl⟩, ⟨rfl, rfl, rfl⟩, ⟨rfl, rfl, rfl, rfl, rfl, rfl⟩, ⟨rfl, rfl, rfl⟩, hg', hf'⟩ := yes W' H' hW hH hg hf
      exact mark_tile d hg' hf' hq t h w hI hK hY
    · exact absurd rfl h0
  · obtain ⟨d, ⟨rfl, rfl, rfl, rfl⟩, ⟨rfl, rfl, rfl⟩, ⟨rfl, rfl, rfl, rfl, rfl, rfl⟩, ⟨rfl, rfl, rfl⟩, hg', hf'⟩ := yes W' H' hW hH hg hf
    exact mark_dry d hg' hf' hq u hu hw w hI hK hY
  · obtain ⟨d, ⟨rfl, rfl, rfl, rfl⟩, ⟨rfl, rfl, rfl⟩, ⟨e1, rfl, e2, rfl, e3, rfl⟩, ⟨e4, e5, e6⟩, hg', hf'⟩ := yes W' H' hW hH hg hf
    subst e1 e2 e3 e4 e5 e6
    rcases hm with ⟨hm, rfl, rfl⟩ | ⟨hm, rfl, rfl⟩
    · exact mark_off d hg' hf' hq u hu hw p hp hm w hI hK hY
    · exact mark_on d hg' hf' hq u hu hw p hp hm w hI hK hY
end Go.Proofs.Ytkpnngpnjimogaa
