/-
  The walk of Mark of the reference.
-/
import Derived.Test.YtkpnngpnjimogaaWMrk
namespace Go.Proofs.Ytkpnngpnjimogaa
open Go.RowKit

/-- append of any slice of numbers onto nil, in a plain region. -/
theorem wpList_append_copy {ops : Array Oper} {rest : List Oper} {o : Oper} {a : Act} {Q : Exit → Act → World → Prop} (w : World) (hgd : o.guard = none) (s x : Operand)
    (ho : o.op = .call { callee := .builtin .append, args := #[s, x], argTypes := #[22, 22] }) (hty : o.type = 22)
    (hs : a.eval s = .slice none 0 0) (ao : Option Addr) (n c : Nat) (Z : Nat → Int) (hx : a.eval x = .slice ao n c) (hn : n ≤ 4000) (hI : Ints w ao n Z)
    (h : ∀ bo d w', w'.ownsRow w.heap.size 3 1 (.slice bo n d) n (vals n (iv Z)) → Below w.heap.size w w' → wpList Try.prog ops Q rest (a.put o.dst (.slice bo n d)) w') : wpList Try.prog ops Q (o :: rest) a w := by
  refine wpList_plain hgd fun K hK => ?_
  have h0 := step_append_copy (ops := ops) (K := K) (Q := Q) (E := True) w hgd s x ho hty hs ao n c Z hx hn hI (fun bo d w' h1 h2 => hK _ _ (h bo d w' h1 h2))
  rwa [if_pos (by simp [Region.wanted, hgd])] at h0
/-- What is made: the kinds, and the buoys so far. -/
structure RM (W H : Int) (ao ko bo : Option Addr) (n cap m kcap q bcap : Nat) (Z K Y : Nat → Int) (C : Nat) (kv lst : Value) (nn : Nat) (G : Nat → Int) (w wr : World) : Prop where
  lr : LR W H ao ko bo n cap m kcap q bcap Z K Y w wr
  bx : wr.heap[C]? = some (.cells #[kv, lst] 26 (0, 0))
  hC : w.heap.size + 2 < C
  rx : wr.ownsRow (w.heap.size + 3) 3 1 kv m (vals m (iv K))
  xC : ∀ k, kv.ownBlock = some k → k < C
  row : wr.ownsRow (C + 1) 3 1 lst nn (vals nn (iv G))
section
variable {W H : Int} {ao ko bo : Option Addr} {n cap m kcap q bcap C nn B0 : Nat} {Z K Y G : Nat → Int} {kv lst v' : Value} {w wr w' w6 : World}
theorem RM.stays (h : RM W H ao ko bo n cap m kcap q bcap Z K Y C kv lst nn G w wr) (k : Below wr.heap.size wr w') : RM W H ao ko bo n cap m kcap q bcap Z K Y C kv lst nn G w w' :=
  ⟨h.lr.stays k, (k.block _ (heap_lt h.bx)).trans h.bx, h.hC, row_stays h.rx k, h.xC, row_stays h.row k⟩
theorem RM.grow (h : RM W H ao ko bo n cap m kcap q bcap Z K Y C kv lst nn G w wr) (o : Obj) (hg : (wr.alloc o).grownBy w6 lst.ownBlock) : Below (C + 1) wr w6 :=
  ((Below.refl _ wr).alloc (by have := heap_lt h.bx; omega) o).grown hg (by have := heap_lt h.bx; simp; omega) (fun k hk => (h.row.lt k hk).1)
theorem RM.mid (h : RM W H ao ko bo n cap m kcap q bcap Z K Y C kv lst nn G w wr) (o : Obj) (hg : (wr.alloc o).grownBy w6 lst.ownBlock) : w6.heap[C]? = some (.cells #[kv, lst] 26 (0, 0)) :=
  ((h.grow o hg).block C (Nat.lt_succ_self _)).trans h.bx
theorem RM.app {x : Int} (h : RM W H ao ko bo n cap m kcap q bcap Z K Y C kv lst nn G w wr) (hr : w6.ownsRow (C + 1) 3 1 v' (nn + 1) (vals nn (iv G) ++ [.int .i64 x])) (o : Obj) (hg : (wr.alloc o).grownBy w6 lst.ownBlock) (hx : G nn = x) (hI : Ints w ao n Z) (hK : Ints w ko m K) (hY : Ints w bo q Y) :
    RM W H ao ko bo n cap m kcap q bcap Z K Y C kv v' (nn + 1) G w (w6.setCell ⟨C, 1, none⟩ v') := by
  have hC := h.hC
  have hb := h.grow o hg
  have hb2 : Below C wr (w6.setCell ⟨C, 1, none⟩ v') := (hb.mono (Nat.le_succ _)).setCell (p := ⟨C, 1, none⟩) (Nat.le_refl _) v'
  refine ⟨⟨h.lr.lw.lift hb2 (by omega) hI hK hY, (hb2.block _ hC).trans h.lr.res⟩, heap_setCell_same _ _ 1 _ _ v' (h.mid o hg), hC, row_below h.rx hb2 h.xC, h.xC, ?_⟩
  rw [vals_succ, show iv G nn = .int .i64 x by rw [← hx]]
  exact row_other (a := ⟨C, 1, none⟩) hr (own_ne hr (a := ⟨C, 1, none⟩) (Nat.lt_succ_self _)) v'
theorem RM.start (h : LR W H ao ko bo n cap m kcap q bcap Z K Y w wr) (hB : w.heap.size + 2 < B0) (hx : wr.ownsRow B0 3 1 kv m (vals m (iv K))) :
    RM W H ao ko bo n cap m kcap q bcap Z K Y wr.heap.size kv (.slice none 0 0) 0 G w (wr.alloc (.cells #[kv, .slice none 0 0] 26)) := by
  have k := Joins.below_alloc1 wr (.cells #[kv, .slice none 0 0] 26)
  exact ⟨h.stays k, heap_new _ _, heap_lt h.res, row_stays (row_mono hx (by omega)) k, fun k hk => (hx.lt k hk).2, ⟨by simp [vals], .inl ⟨rfl, rfl⟩⟩⟩
end

set_option maxRecDepth 20000 in
set_option maxHeartbeats 1600000 in
theorem refmark_place (W H : Int) (ao ko bo : Option Addr) (n cap m kcap q bcap : Nat) (Z K Y : Nat → Int) (hn : n ≤ 4000) (hq : q ≤ 4000) (t : Int) (e : Int) (h : PErr W H n m q Z K Y t e) (h0 : e ≠ 0) (w : World) (hI : Ints w ao n Z) (hK : Ints w ko m K) (hY : Ints w bo q Y) :
    Calls Try.prog 32 #[lv W H (.slice ao n cap), .agg #[.slice ko m kcap, .slice bo q bcap], .int .i64 t] w (WtM 0 0 (fun _ => 0) (fun _ => 0) e w) := by
  have HR := hid (LR.start (W := W) (H := H) (cap := cap) (kcap := kcap) (bcap := bcap) hI hK hY)
  have HE := hid h
  have g1 : (e == 0) = false := by rw [beq_eq_false_iff_ne]; exact h0
  have g2 : (e != 0) = true := by simp [h0]
  clear hI hK hY h h0
  go_enter Try.func32, Try.ntmps32
  go_upto_region 1 with fail
  generalize World.alloc _ _ = wl at HR ⊢
  have c0 := HR.out.lw.c0
  have c1 := HR.out.lw.c1
  have c2 := HR.out.lw.c2
  have c3 := HR.out.lw.c3
  have c4 := HR.out.lw.c4
  have hz := HR.out.lw.size
  have rz := heap_lt HR.out.res
  have r0 := cell_of_row _ _ 0 _ _ _ HR.out.res
  have r1 := cell_of_row _ _ 1 _ _ _ HR.out.res
  have f0 := frozen_of_row _ _ 0 _ _ HR.out.res
  have f1 := frozen_of_row _ _ 1 _ _ HR.out.res
  simp only [List.getElem?_toArray, List.getElem?_cons_zero, List.getElem?_cons_succ] at r0 r1
  go_wp2_with (go_at_call 54; (with_reducible refine (place_to W H ao ko bo n cap m kcap q bcap Z K Y hn hq t e HE.out _ HR.out.lw.land HR.out.lw.kinds HR.out.lw.buoys).mono ?_); rintro r wn ⟨rfl, hb⟩; have HRn := hid (HR.out.stays hb); clear hb c0 c1 c2 c3 c4 hz rz r0 r1 f0 f1 HR; have HR := HRn; clear HRn; have c0 := HR.out.lw.c0; have c1 := HR.out.lw.c1; have c2 := HR.out.lw.c2; have c3 := HR.out.lw.c3; have c4 := HR.out.lw.c4; have hz := HR.out.lw.size; have rz := heap_lt HR.out.res; have r0 := cell_of_row _ _ 0 _ _ _ HR.out.res; have r1 := cell_of_row _ _ 1 _ _ _ HR.out.res; have f0 := frozen_of_row _ _ 0 _ _ HR.out.res; have f1 := frozen_of_row _ _ 1 _ _ HR.out.res; simp only [List.getElem?_toArray, List.getElem?_cons_zero, List.getElem?_cons_succ] at r0 r1)
  have k3 := set2 HR.out.res (.slice none 0 0) (.slice none 0 0)
  have k4 := set2_below (g := w.heap.size + 2) HR.out.lw.below (by omega) (.slice none 0 0) (.slice none 0 0)
  clear c0 c1 c2 c3 c4 hz rz r0 r1 f0 f1
  generalize World.setCell _ _ _ = w5 at k3 k4 ⊢
  have q0 := cell_of_row w5 _ 0 _ _ _ k3
  have q1 := cell_of_row w5 _ 1 _ _ _ k3
  simp only [List.getElem?_toArray, List.getElem?_cons_zero, List.getElem?_cons_succ] at q0 q1
  exact bodyPost_ret (v := .tuple #[.agg #[.slice none 0 0, .slice none 0 0], .int .i64 e]) (by simp [results, Try.results32, go_sem, q0, q1]) rfl (wtm_zero k4)

set_option maxRecDepth 20000 in
set_option maxHeartbeats 1600000 in
theorem refmark_dry (W' H' : Nat) (ao ko bo : Option Addr) (n cap m kcap q bcap : Nat) (Z K Y : Nat → Int) (hn : n ≤ 4000) (hq : q ≤ 4000) (hg : Good W' H' n Z) (hf : Fine W' H' m q Z K Y) (u : Nat) (hu : u < W' * H') (hw : wt W' Z K u = false) (w : World) (hI : Ints w ao n Z) (hK : Ints w ko m K) (hY : Ints w bo q Y) :
    Calls Try.prog 32 #[lv W' H' (.slice ao n cap), .agg #[.slice ko m kcap, .slice bo q bcap], .int .i64 u] w (WtM 0 0 (fun _ => 0) (fun _ => 0) 9 w) := by
  have HE : Hid (PErr W' H' n m q Z K Y u 0) := hid (.inr ⟨W', H', rfl, rfl, hg, hf, .inr ⟨rfl, tile_yes hu⟩⟩)
  have HWT := hid (fun w hI hK => rWet_any W' H' ao ko n cap m kcap Z K hg hf.len u hu false ((rwet_wt (hf.fits u hu)).trans hw).symm w hI hK)
  have HR := hid (LR.start (W := W') (H := H') (cap := cap) (kcap := kcap) (bcap := bcap) hI hK hY)
  clear hI hK hY hg hf hu hw
  go_enter Try.func32, Try.ntmps32
  go_upto_region 1 with fail
  generalize World.alloc _ _ = wl at HR ⊢
  have c0 := HR.out.lw.c0
  have c1 := HR.out.lw.c1
  have c2 := HR.out.lw.c2
  have c3 := HR.out.lw.c3
  have c4 := HR.out.lw.c4
  have hz := HR.out.lw.size
  have rz := heap_lt HR.out.res
  have r0 := cell_of_row _ _ 0 _ _ _ HR.out.res
  have r1 := cell_of_row _ _ 1 _ _ _ HR.out.res
  have f0 := frozen_of_row _ _ 0 _ _ HR.out.res
  have f1 := frozen_of_row _ _ 1 _ _ HR.out.res
  simp only [List.getElem?_toArray, List.getElem?_cons_zero, List.getElem?_cons_succ] at r0 r1
  go_wp2_with (first | (go_at_call 54; (with_reducible refine (place_to W' H' ao ko bo n cap m kcap q bcap Z K Y hn hq u 0 HE.out _ HR.out.lw.land HR.out.lw.kinds HR.out.lw.buoys).mono ?_); rintro r wn ⟨rfl, hb⟩; have HRn := hid (HR.out.stays hb); clear hb c0 c1 c2 c3 c4 hz rz r0 r1 f0 f1 HR; have HR := HRn; clear HRn; have c0 := HR.out.lw.c0; have c1 := HR.out.lw.c1; have c2 := HR.out.lw.c2; have c3 := HR.out.lw.c3; have c4 := HR.out.lw.c4; have hz := HR.out.lw.size; have rz := heap_lt HR.out.res; have r0 := cell_of_row _ _ 0 _ _ _ HR.out.res; have r1 := cell_of_row _ _ 1 _ _ _ HR.out.res; have f0 := frozen_of_row _ _ 0 _ _ HR.out.res; have f1 := frozen_of_row _ _ 1 _ _ HR.out.res; simp only [List.getElem?_toArray, List.getElem?_cons_zero, List.getElem?_cons_succ] at r0 r1) | (go_at_call 43; (with_reducible refine (HWT.out _ HR.out.lw.land HR.out.lw.kinds).mono ?_); rintro r wn ⟨rfl, hb⟩; have HRn := hid (HR.out.stays hb); clear hb c0 c1 c2 c3 c4 hz rz r0 r1 f0 f1 HR; have HR := HRn; clear HRn; have c0 := HR.out.lw.c0; have c1 := HR.out.lw.c1; have c2 := HR.out.lw.c2; have c3 := HR.out.lw.c3; have c4 := HR.out.lw.c4; have hz := HR.out.lw.size; have rz := heap_lt HR.out.res; have r0 := cell_of_row _ _ 0 _ _ _ HR.out.res; have r1 := cell_of_row _ _ 1 _ _ _ HR.out.res; have f0 := frozen_of_row _ _ 0 _ _ HR.out.res; have f1 := frozen_of_row _ _ 1 _ _ HR.out.res; simp only [List.getElem?_toArray, List.getElem?_cons_zero, List.getElem?_cons_succ] at r0 r1))
  have k3 := set2 HR.out.res (.slice none 0 0) (.slice none 0 0)
  have k4 := set2_below (g := w.heap.size + 2) HR.out.lw.below (by omega) (.slice none 0 0) (.slice none 0 0)
  clear c0 c1 c2 c3 c4 hz rz r0 r1 f0 f1
  generalize World.setCell _ _ _ = w5 at k3 k4 ⊢
  have q0 := cell_of_row w5 _ 0 _ _ _ k3
  have q1 := cell_of_row w5 _ 1 _ _ _ k3
  simp only [List.getElem?_toArray, List.getElem?_cons_zero, List.getElem?_cons_succ] at q0 q1
  exact bodyPost_ret (v := .tuple #[.agg #[.slice none 0 0, .slice none 0 0], .int .i64 9]) (by simp [results, Try.results32, go_sem, q0, q1]) rfl (wtm_zero k4)

set_option maxRecDepth 20000 in
set_option maxHeartbeats 3200000 in
theorem refmark_on (W' H' : Nat) (ao ko bo : Option Addr) (n cap m kcap q bcap : Nat) (Z K Y : Nat → Int) (hn : n ≤ 4000) (hq : q ≤ 4000) (hg : Good W' H' n Z) (hf : Fine W' H' m q Z K Y) (u : Nat) (hu : u < W' * H') (hw : wt W' Z K u = true) (p : Nat) (hp : LowAt q Y u p) (hm : memK q Y u = false) (w : World) (hI : Ints w ao n Z) (hK : Ints w ko m K) (hY : Ints w bo q Y) :
    Calls Try.prog 32 #[lv W' H' (.slice ao n cap), .agg #[.slice ko m kcap, .slice bo q bcap], .int .i64 u] w (WtM m (q + 1) K (insY Y p u) 0 w) := by
  have HE : Hid (PErr W' H' n m q Z K Y u 0) := hid (.inr ⟨W', H', rfl, rfl, hg, hf, .inr ⟨rfl, tile_yes hu⟩⟩)
  have HWT := hid (fun w hI hK => rWet_any W' H' ao ko n cap m kcap Z K hg hf.len u hu true ((rwet_wt (hf.fits u hu)).trans hw).symm w hI hK)
  have HR := hid (LR.start (W := W') (H := H') (cap := cap) (kcap := kcap) (bcap := bcap) hI hK hY)
  have HI := hid hI
  have HK := hid hK
  have HY := hid hY
  have HIN := hid infoX
  have HP := hid hp
  have HASC := hid hf.asc
  have hpq := hp.1
  have hsd := hg.side
  have hsm := mul_small hsd.2.1 hsd.2.2.2
  have hm2 : m ≤ 1024 := by have := hf.len; omega
  obtain ⟨mk, hmk⟩ : ∃ b, b = memK q Y u := ⟨_, rfl⟩
  have HM := hid hmk
  obtain rfl : mk = false := hmk.trans hm
  have HNM := hid (fun (i : Nat) (hi : i < q) => notmem hm hi)
  clear hI hK hY hg hf hu hw hp hm hmk hsd hsm
  go_enter Try.func32, Try.ntmps32
  go_upto_region 1 with fail
  generalize World.alloc _ _ = wl at HR ⊢
  have c0 := HR.out.lw.c0
  have c1 := HR.out.lw.c1
  have c2 := HR.out.lw.c2
  have c3 := HR.out.lw.c3
  have c4 := HR.out.lw.c4
  have hz := HR.out.lw.size
  have rz := heap_lt HR.out.res
  have r0 := cell_of_row _ _ 0 _ _ _ HR.out.res
  have r1 := cell_of_row _ _ 1 _ _ _ HR.out.res
  have f0 := frozen_of_row _ _ 0 _ _ HR.out.res
  have f1 := frozen_of_row _ _ 1 _ _ HR.out.res
  simp only [List.getElem?_toArray, List.getElem?_cons_zero, List.getElem?_cons_succ] at r0 r1
  go_upto_region 7 with (first | (go_at_call 54; (with_reducible refine (place_to W' H' ao ko bo n cap m kcap q bcap Z K Y hn hq u 0 HE.out _ HR.out.lw.land HR.out.lw.kinds HR.out.lw.buoys).mono ?_); rintro r wn ⟨rfl, hb⟩; have HRn := hid (HR.out.stays hb); clear hb c0 c1 c2 c3 c4 hz rz r0 r1 f0 f1 HR; have HR := HRn; clear HRn; have c0 := HR.out.lw.c0; have c1 := HR.out.lw.c1; have c2 := HR.out.lw.c2; have c3 := HR.out.lw.c3; have c4 := HR.out.lw.c4; have hz := HR.out.lw.size; have rz := heap_lt HR.out.res; have r0 := cell_of_row _ _ 0 _ _ _ HR.out.res; have r1 := cell_of_row _ _ 1 _ _ _ HR.out.res; have f0 := frozen_of_row _ _ 0 _ _ HR.out.res; have f1 := frozen_of_row _ _ 1 _ _ HR.out.res; simp only [List.getElem?_toArray, List.getElem?_cons_zero, List.getElem?_cons_succ] at r0 r1) | (go_at_call 43; (with_reducible refine (HWT.out _ HR.out.lw.land HR.out.lw.kinds).mono ?_); rintro r wn ⟨rfl, hb⟩; have HRn := hid (HR.out.stays hb); clear hb c0 c1 c2 c3 c4 hz rz r0 r1 f0 f1 HR; have HR := HRn; clear HRn; have c0 := HR.out.lw.c0; have c1 := HR.out.lw.c1; have c2 := HR.out.lw.c2; have c3 := HR.out.lw.c3; have c4 := HR.out.lw.c4; have hz := HR.out.lw.size; have rz := heap_lt HR.out.res; have r0 := cell_of_row _ _ 0 _ _ _ HR.out.res; have r1 := cell_of_row _ _ 1 _ _ _ HR.out.res; have f0 := frozen_of_row _ _ 0 _ _ HR.out.res; have f1 := frozen_of_row _ _ 1 _ _ HR.out.res; simp only [List.getElem?_toArray, List.getElem?_cons_zero, List.getElem?_cons_succ] at r0 r1) | (at_builtin; refine wpList_append_copy _ rfl _ _ rfl rfl rfl ko m kcap K rfl (by omega) HR.out.lw.kinds ?_; intro xo xc wk hx hb; have hx9 : w.heap.size + 2 < _ := rz; have HX := hid hx; clear hx; have HRn := hid (HR.out.stays hb); clear hb c0 c1 c2 c3 c4 hz rz r0 r1 f0 f1 HR; have HR := HRn; clear HRn; have c0 := HR.out.lw.c0; have c1 := HR.out.lw.c1; have c2 := HR.out.lw.c2; have c3 := HR.out.lw.c3; have c4 := HR.out.lw.c4; have hz := HR.out.lw.size; have rz := heap_lt HR.out.res; have r0 := cell_of_row _ _ 0 _ _ _ HR.out.res; have r1 := cell_of_row _ _ 1 _ _ _ HR.out.res; have f0 := frozen_of_row _ _ 0 _ _ HR.out.res; have f1 := frozen_of_row _ _ 1 _ _ HR.out.res; simp only [List.getElem?_toArray, List.getElem?_cons_zero, List.getElem?_cons_succ] at r0 r1))
  have HX2 : Hid (RM W' H' ao ko bo n cap m kcap q bcap Z K Y wk.heap.size (.slice xo m xc) (.slice none 0 0) 0 (insY Y p u) w _) := hid (RM.start HR.out hx9 HX.out)
  clear HX HR hx9 c0 c1 c2 c3 c4 hz rz r0 r1 f0 f1
  have HX := HX2
  clear HX2
  generalize World.alloc wk _ = wr at HX ⊢
  generalize wk.heap.size = C at HX ⊢
  have c0 := HX.out.lr.lw.c0
  have c1 := HX.out.lr.lw.c1
  have c2 := HX.out.lr.lw.c2
  have c3 := HX.out.lr.lw.c3
  have c4 := HX.out.lr.lw.c4
  have hz := HX.out.lr.lw.size
  have rz := heap_lt HX.out.lr.res
  have r0 := cell_of_row _ _ 0 _ _ _ HX.out.lr.res
  have r1 := cell_of_row _ _ 1 _ _ _ HX.out.lr.res
  have f0 := frozen_of_row _ _ 0 _ _ HX.out.lr.res
  have f1 := frozen_of_row _ _ 1 _ _ HX.out.lr.res
  have b0 := cell_of_row _ _ 0 _ _ _ HX.out.bx
  have b1 := cell_of_row _ _ 1 _ _ _ HX.out.bx
  have bf := frozen_of_row _ _ 1 _ _ HX.out.bx
  have bz := heap_lt HX.out.bx
  simp only [List.getElem?_toArray, List.getElem?_cons_zero, List.getElem?_cons_succ] at r0 r1 b0 b1
  go_wp2_with (go_at_call 52; (with_reducible refine (marked_any ko m kcap bo q bcap Y hq u false HM.out _ HX.out.lr.lw.buoys).mono ?_); rintro r wn ⟨rfl, hb⟩; have HXn := hid (HX.out.stays hb); clear hb c0 c1 c2 c3 c4 hz rz r0 r1 f0 f1 b0 b1 bf bz HX; have HX := HXn; clear HXn; have c0 := HX.out.lr.lw.c0; have c1 := HX.out.lr.lw.c1; have c2 := HX.out.lr.lw.c2; have c3 := HX.out.lr.lw.c3; have c4 := HX.out.lr.lw.c4; have hz := HX.out.lr.lw.size; have rz := heap_lt HX.out.lr.res; have r0 := cell_of_row _ _ 0 _ _ _ HX.out.lr.res; have r1 := cell_of_row _ _ 1 _ _ _ HX.out.lr.res; have f0 := frozen_of_row _ _ 0 _ _ HX.out.lr.res; have f1 := frozen_of_row _ _ 1 _ _ HX.out.lr.res; have b0 := cell_of_row _ _ 0 _ _ _ HX.out.bx; have b1 := cell_of_row _ _ 1 _ _ _ HX.out.bx; have bf := frozen_of_row _ _ 1 _ _ HX.out.bx; have bz := heap_lt HX.out.bx; simp only [List.getElem?_toArray, List.getElem?_cons_zero, List.getElem?_cons_succ] at r0 r1 b0 b1)
  clear c0 c1 c2 c3 c4 hz rz r0 r1 f0 f1 b0 b1 bf bz
  go_loopw [10, 39] (fun pv iv wr => ∃ (j nn : Nat) (lo : Option Addr) (lc : Nat), j ≤ q ∧ iv = .int .i64 j ∧ ((j ≤ p ∧ nn = j ∧ pv = .bool true) ∨ (p < j ∧ nn = j + 1 ∧ pv = .bool false)) ∧ Hid (RM W' H' ao ko bo n cap m kcap q bcap Z K Y C (.slice xo m xc) (.slice lo nn lc) nn (insY Y p u) w wr)) (fun _ iv _ => q - (intOf iv).toNat)
  case atStart => exact ⟨0, 0, none, 0, by omega, rfl, .inl ⟨by omega, rfl, rfl⟩, HX⟩
  case round =>
    clear HX
    obtain ⟨j, nn, lo, lc, hj, rfl, hput, HX⟩ := hrel
    by_cases hlt : j < q
    · obtain ⟨yb, yoff, rfl, hyz, y0⟩ := HX.out.lr.lw.buoys j hlt
      obtain ⟨b, hb⟩ : ∃ b, b = Y j := ⟨_, rfl⟩
      rw [← hb] at y0
      have HB := hid hb
      have hne := HNM.out j hlt
      rw [← hb] at hne
      have hlow := HP.out.2 j hlt
      rw [← hb] at hlow
      have g1 : (b == (u : Int)) = false := by simpa using hne
      have g2 : (b != (u : Int)) = true := by simpa using hne
      rcases hput with ⟨hjp, rfl, rfl⟩ | ⟨hjp, rfl, rfl⟩
      · by_cases hje : nn = p
        · subst hje
          have hgt : (u : Int) < b := by
            have : ¬ b < (u : Int) := fun h => by have := hlow.2 h; omega
            omega
          have e1 : insY Y nn u nn = u := by unfold insY; rw [if_neg (by omega), if_pos rfl]
          have e2 : insY Y nn u (nn + 1) = b := by unfold insY; rw [if_neg (by omega), if_neg (by omega), HB.out, Nat.add_sub_cancel]
          have E1 := hid e1
          have E2 := hid e2
          clear hlow hb hne e1 e2
          have c0 := HX.out.lr.lw.c0
          have c1 := HX.out.lr.lw.c1
          have c2 := HX.out.lr.lw.c2
          have c3 := HX.out.lr.lw.c3
          have c4 := HX.out.lr.lw.c4
          have hz := HX.out.lr.lw.size
          have rz := heap_lt HX.out.lr.res
          have r0 := cell_of_row _ _ 0 _ _ _ HX.out.lr.res
          have r1 := cell_of_row _ _ 1 _ _ _ HX.out.lr.res
          have f0 := frozen_of_row _ _ 0 _ _ HX.out.lr.res
          have f1 := frozen_of_row _ _ 1 _ _ HX.out.lr.res
          have b0 := cell_of_row _ _ 0 _ _ _ HX.out.bx
          have b1 := cell_of_row _ _ 1 _ _ _ HX.out.bx
          have bf := frozen_of_row _ _ 1 _ _ HX.out.bx
          have bz := heap_lt HX.out.bx
          simp only [List.getElem?_toArray, List.getElem?_cons_zero, List.getElem?_cons_succ] at r0 r1 b0 b1
          go_upto_region 14 with (at_builtin; obtain ⟨i0, HIN'⟩ := HIN.out; refine wpList_append_own _ rfl _ _ 22 rfl (C + 1) 3 i0 (.int .i64 0) 1 8 Try.underlying22 HIN'.1 HIN'.2.1 HIN'.2.2.1 HIN'.2.2.2 rfl (by decide) _ _ _ rfl (HX.out.row.alloc _) ⟨wr.heap.size, 0, none⟩ 1 1 [.int .i64 u] rfl rfl ?c1 ?c2 ?c3 ?c4 ?c5 ?_)
          case c1 =>
            intro j u hj
            match j, hj with
            | 0, hj => simp at hj; subst hj; simp [Addr.add]
          case c2 => intro u hu; simp at hu; subst hu; rfl
          case c3 => unfold maxLen; omega
          case c4 => omega
          case c5 => simp; omega
          intro v' w6 hown hgrow _
          obtain ⟨lo', lc', rfl⟩ := row_slice hown
          have hX6 := HX.out.mid _ hgrow
          have d1 := cell_of_row _ _ 1 _ _ _ hX6
          have df := frozen_of_row _ _ 1 _ _ hX6
          have dz := heap_lt hX6
          simp only [List.getElem?_toArray, List.getElem?_cons_zero, List.getElem?_cons_succ] at d1
          have HXn := hid (HX.out.app (x := (u : Int)) hown _ hgrow E1.out HI.out HK.out HY.out)
          clear hown hgrow hX6 c0 c1 c2 c3 c4 hz rz r0 r1 f0 f1 b0 b1 bf bz HX
          have HX := HXn
          clear HXn
          go_upto_region 14 with fail
          clear d1 df dz
          generalize World.setCell _ _ _ = wr at HX ⊢
          have c0 := HX.out.lr.lw.c0
          have c1 := HX.out.lr.lw.c1
          have c2 := HX.out.lr.lw.c2
          have c3 := HX.out.lr.lw.c3
          have c4 := HX.out.lr.lw.c4
          have hz := HX.out.lr.lw.size
          have rz := heap_lt HX.out.lr.res
          have r0 := cell_of_row _ _ 0 _ _ _ HX.out.lr.res
          have r1 := cell_of_row _ _ 1 _ _ _ HX.out.lr.res
          have f0 := frozen_of_row _ _ 0 _ _ HX.out.lr.res
          have f1 := frozen_of_row _ _ 1 _ _ HX.out.lr.res
          have b0 := cell_of_row _ _ 0 _ _ _ HX.out.bx
          have b1 := cell_of_row _ _ 1 _ _ _ HX.out.bx
          have bf := frozen_of_row _ _ 1 _ _ HX.out.bx
          have bz := heap_lt HX.out.bx
          simp only [List.getElem?_toArray, List.getElem?_cons_zero, List.getElem?_cons_succ] at r0 r1 b0 b1
          go_wp2_with (at_builtin; obtain ⟨i0, HIN'⟩ := HIN.out; refine wpList_append_own _ rfl _ _ 22 rfl (C + 1) 3 i0 (.int .i64 0) 1 8 Try.underlying22 HIN'.1 HIN'.2.1 HIN'.2.2.1 HIN'.2.2.2 rfl (by decide) _ _ _ rfl (HX.out.row.alloc _) ⟨wr.heap.size, 0, none⟩ 1 1 [.int .i64 b] rfl rfl ?c1 ?c2 ?c3 ?c4 ?c5 ?_)
          case c1 =>
            intro j u hj
            match j, hj with
            | 0, hj => simp at hj; subst hj; simp [Addr.add]
          case c2 => intro u hu; simp at hu; subst hu; rfl
          case c3 => unfold maxLen; omega
          case c4 => omega
          case c5 => simp; omega
          intro v' w6 hown hgrow _
          obtain ⟨lo', lc', rfl⟩ := row_slice hown
          have hX6 := HX.out.mid _ hgrow
          have d1 := cell_of_row _ _ 1 _ _ _ hX6
          have df := frozen_of_row _ _ 1 _ _ hX6
          have dz := heap_lt hX6
          simp only [List.getElem?_toArray, List.getElem?_cons_zero, List.getElem?_cons_succ] at d1
          have HXn := hid (HX.out.app (x := b) hown _ hgrow E2.out HI.out HK.out HY.out)
          clear hown hgrow hX6 c0 c1 c2 c3 c4 hz rz r0 r1 f0 f1 b0 b1 bf bz HX
          have HX := HXn
          clear HXn
          go_wp2_with fail
          clear d1 df dz
          go_roundw
          case rel => exact ⟨nn + 1, nn + 1 + 1, lo', lc', by omega, by go_num, .inr ⟨by omega, rfl, rfl⟩, HX⟩
          case measure => simp [intOf]; omega
        · have hlt2 : b < (u : Int) := hlow.1 (by omega)
          have e1 : insY Y p u nn = b := by unfold insY; rw [if_pos (by omega), HB.out]
          have E1 := hid e1
          clear hlow hb hne e1
          have c0 := HX.out.lr.lw.c0
          have c1 := HX.out.lr.lw.c1
          have c2 := HX.out.lr.lw.c2
          have c3 := HX.out.lr.lw.c3
          have c4 := HX.out.lr.lw.c4
          have hz := HX.out.lr.lw.size
          have rz := heap_lt HX.out.lr.res
          have r0 := cell_of_row _ _ 0 _ _ _ HX.out.lr.res
          have r1 := cell_of_row _ _ 1 _ _ _ HX.out.lr.res
          have f0 := frozen_of_row _ _ 0 _ _ HX.out.lr.res
          have f1 := frozen_of_row _ _ 1 _ _ HX.out.lr.res
          have b0 := cell_of_row _ _ 0 _ _ _ HX.out.bx
          have b1 := cell_of_row _ _ 1 _ _ _ HX.out.bx
          have bf := frozen_of_row _ _ 1 _ _ HX.out.bx
          have bz := heap_lt HX.out.bx
          simp only [List.getElem?_toArray, List.getElem?_cons_zero, List.getElem?_cons_succ] at r0 r1 b0 b1
          go_wp2_with (at_builtin; obtain ⟨i0, HIN'⟩ := HIN.out; refine wpList_append_own _ rfl _ _ 22 rfl (C + 1) 3 i0 (.int .i64 0) 1 8 Try.underlying22 HIN'.1 HIN'.2.1 HIN'.2.2.1 HIN'.2.2.2 rfl (by decide) _ _ _ rfl (HX.out.row.alloc _) ⟨wr.heap.size, 0, none⟩ 1 1 [.int .i64 b] rfl rfl ?c1 ?c2 ?c3 ?c4 ?c5 ?_)
          case c1 =>
            intro j u hj
            match j, hj with
            | 0, hj => simp at hj; subst hj; simp [Addr.add]
          case c2 => intro u hu; simp at hu; subst hu; rfl
          case c3 => unfold maxLen; omega
          case c4 => omega
          case c5 => simp; omega
          intro v' w6 hown hgrow _
          obtain ⟨lo', lc', rfl⟩ := row_slice hown
          have hX6 := HX.out.mid _ hgrow
          have d1 := cell_of_row _ _ 1 _ _ _ hX6
          have df := frozen_of_row _ _ 1 _ _ hX6
          have dz := heap_lt hX6
          simp only [List.getElem?_toArray, List.getElem?_cons_zero, List.getElem?_cons_succ] at d1
          have HXn := hid (HX.out.app (x := b) hown _ hgrow E1.out HI.out HK.out HY.out)
          clear hown hgrow hX6 c0 c1 c2 c3 c4 hz rz r0 r1 f0 f1 b0 b1 bf bz HX
          have HX := HXn
          clear HXn
          go_wp2_with fail
          clear d1 df dz
          go_roundw
          case rel => exact ⟨nn + 1, nn + 1, lo', lc', by omega, by go_num, .inl ⟨by omega, rfl, rfl⟩, HX⟩
          case measure => simp [intOf]; omega
      · have e1 : insY Y p u (j + 1) = b := by unfold insY; rw [if_neg (by omega), if_neg (by omega), HB.out, Nat.add_sub_cancel]
        have E1 := hid e1
        clear hlow hb hne e1
        have c0 := HX.out.lr.lw.c0
        have c1 := HX.out.lr.lw.c1
        have c2 := HX.out.lr.lw.c2
        have c3 := HX.out.lr.lw.c3
        have c4 := HX.out.lr.lw.c4
        have hz := HX.out.lr.lw.size
        have rz := heap_lt HX.out.lr.res
        have r0 := cell_of_row _ _ 0 _ _ _ HX.out.lr.res
        have r1 := cell_of_row _ _ 1 _ _ _ HX.out.lr.res
        have f0 := frozen_of_row _ _ 0 _ _ HX.out.lr.res
        have f1 := frozen_of_row _ _ 1 _ _ HX.out.lr.res
        have b0 := cell_of_row _ _ 0 _ _ _ HX.out.bx
        have b1 := cell_of_row _ _ 1 _ _ _ HX.out.bx
        have bf := frozen_of_row _ _ 1 _ _ HX.out.bx
        have bz := heap_lt HX.out.bx
        simp only [List.getElem?_toArray, List.getElem?_cons_zero, List.getElem?_cons_succ] at r0 r1 b0 b1
        go_wp2_with (at_builtin; obtain ⟨i0, HIN'⟩ := HIN.out; refine wpList_append_own _ rfl _ _ 22 rfl (C + 1) 3 i0 (.int .i64 0) 1 8 Try.underlying22 HIN'.1 HIN'.2.1 HIN'.2.2.1 HIN'.2.2.2 rfl (by decide) _ _ _ rfl (HX.out.row.alloc _) ⟨wr.heap.size, 0, none⟩ 1 1 [.int .i64 b] rfl rfl ?c1 ?c2 ?c3 ?c4 ?c5 ?_)
        case c1 =>
          intro j u hj
          match j, hj with
          | 0, hj => simp at hj; subst hj; simp [Addr.add]
        case c2 => intro u hu; simp at hu; subst hu; rfl
        case c3 => unfold maxLen; omega
        case c4 => omega
        case c5 => simp; omega
        intro v' w6 hown hgrow _
        obtain ⟨lo', lc', rfl⟩ := row_slice hown
        have hX6 := HX.out.mid _ hgrow
        have d1 := cell_of_row _ _ 1 _ _ _ hX6
        have df := frozen_of_row _ _ 1 _ _ hX6
        have dz := heap_lt hX6
        simp only [List.getElem?_toArray, List.getElem?_cons_zero, List.getElem?_cons_succ] at d1
        have HXn := hid (HX.out.app (x := b) hown _ hgrow E1.out HI.out HK.out HY.out)
        clear hown hgrow hX6 c0 c1 c2 c3 c4 hz rz r0 r1 f0 f1 b0 b1 bf bz HX
        have HX := HXn
        clear HXn
        go_wp2_with fail
        clear d1 df dz
        go_roundw
        case rel => exact ⟨j + 1, j + 1 + 1, lo', lc', by omega, by go_num, .inr ⟨by omega, rfl, rfl⟩, HX⟩
        case measure => simp [intOf]; omega
    · obtain rfl : j = q := by omega
      rcases hput with ⟨hjp, rfl, rfl⟩ | ⟨hjp, rfl, rfl⟩
      · have e1 : insY Y p u nn = u := by unfold insY; rw [if_neg (by omega), if_pos (by omega)]
        have E1 := hid e1
        clear e1
        have c0 := HX.out.lr.lw.c0
        have c1 := HX.out.lr.lw.c1
        have c2 := HX.out.lr.lw.c2
        have c3 := HX.out.lr.lw.c3
        have c4 := HX.out.lr.lw.c4
        have hz := HX.out.lr.lw.size
        have rz := heap_lt HX.out.lr.res
        have r0 := cell_of_row _ _ 0 _ _ _ HX.out.lr.res
        have r1 := cell_of_row _ _ 1 _ _ _ HX.out.lr.res
        have f0 := frozen_of_row _ _ 0 _ _ HX.out.lr.res
        have f1 := frozen_of_row _ _ 1 _ _ HX.out.lr.res
        have b0 := cell_of_row _ _ 0 _ _ _ HX.out.bx
        have b1 := cell_of_row _ _ 1 _ _ _ HX.out.bx
        have bf := frozen_of_row _ _ 1 _ _ HX.out.bx
        have bz := heap_lt HX.out.bx
        simp only [List.getElem?_toArray, List.getElem?_cons_zero, List.getElem?_cons_succ] at r0 r1 b0 b1
        go_upto_region 19 with (at_builtin; obtain ⟨i0, HIN'⟩ := HIN.out; refine wpList_append_own _ rfl _ _ 22 rfl (C + 1) 3 i0 (.int .i64 0) 1 8 Try.underlying22 HIN'.1 HIN'.2.1 HIN'.2.2.1 HIN'.2.2.2 rfl (by decide) _ _ _ rfl (HX.out.row.alloc _) ⟨wr.heap.size, 0, none⟩ 1 1 [.int .i64 u] rfl rfl ?c1 ?c2 ?c3 ?c4 ?c5 ?_)
        case c1 =>
          intro j u hj
          match j, hj with
          | 0, hj => simp at hj; subst hj; simp [Addr.add]
        case c2 => intro u hu; simp at hu; subst hu; rfl
        case c3 => unfold maxLen; omega
        case c4 => omega
        case c5 => simp; omega
        intro v' w6 hown hgrow _
        obtain ⟨lo', lc', rfl⟩ := row_slice hown
        have hX6 := HX.out.mid _ hgrow
        have d1 := cell_of_row _ _ 1 _ _ _ hX6
        have df := frozen_of_row _ _ 1 _ _ hX6
        have dz := heap_lt hX6
        simp only [List.getElem?_toArray, List.getElem?_cons_zero, List.getElem?_cons_succ] at d1
        have HXn := hid (HX.out.app (x := (u : Int)) hown _ hgrow E1.out HI.out HK.out HY.out)
        clear hown hgrow hX6 c0 c1 c2 c3 c4 hz rz r0 r1 f0 f1 b0 b1 bf bz HX
        have HX := HXn
        clear HXn
        go_upto_region 19 with fail
        clear d1 df dz
        generalize World.setCell _ _ _ = wr at HX ⊢
        have c0 := HX.out.lr.lw.c0
        have c1 := HX.out.lr.lw.c1
        have c2 := HX.out.lr.lw.c2
        have c3 := HX.out.lr.lw.c3
        have c4 := HX.out.lr.lw.c4
        have hz := HX.out.lr.lw.size
        have rz := heap_lt HX.out.lr.res
        have r0 := cell_of_row _ _ 0 _ _ _ HX.out.lr.res
        have r1 := cell_of_row _ _ 1 _ _ _ HX.out.lr.res
        have f0 := frozen_of_row _ _ 0 _ _ HX.out.lr.res
        have f1 := frozen_of_row _ _ 1 _ _ HX.out.lr.res
        have b0 := cell_of_row _ _ 0 _ _ _ HX.out.bx
        have b1 := cell_of_row _ _ 1 _ _ _ HX.out.bx
        have bf := frozen_of_row _ _ 1 _ _ HX.out.bx
        have bz := heap_lt HX.out.bx
        simp only [List.getElem?_toArray, List.getElem?_cons_zero, List.getElem?_cons_succ] at r0 r1 b0 b1
        go_wp2_with fail
        have k3 := set2 HX.out.lr.res (.slice xo m xc) (.slice lo' (nn + 1) lc')
        have k4 := set2_below (g := w.heap.size + 2) HX.out.lr.lw.below (by omega) (.slice xo m xc) (.slice lo' (nn + 1) lc')
        have k5 := set2_row (g := w.heap.size + 2) HX.out.rx (own_ne HX.out.rx (a := ⟨w.heap.size + 2, 0, none⟩) (Nat.lt_succ_self _)) (.slice xo m xc) (.slice lo' (nn + 1) lc')
        have k6 := set2_row (g := w.heap.size + 2) HX.out.row (own_ne HX.out.row (a := ⟨w.heap.size + 2, 0, none⟩) (by have := HX.out.hC; show w.heap.size + 2 < C + 1; omega)) (.slice xo m xc) (.slice lo' (nn + 1) lc')
        clear c0 c1 c2 c3 c4 hz rz r0 r1 f0 f1 b0 b1 bf bz
        generalize World.setCell _ _ _ = w5 at k3 k4 k5 k6 ⊢
        have q0 := cell_of_row w5 _ 0 _ _ _ k3
        have q1 := cell_of_row w5 _ 1 _ _ _ k3
        simp only [List.getElem?_toArray, List.getElem?_cons_zero, List.getElem?_cons_succ] at q0 q1
        exact bodyPost_ret (v := .tuple #[.agg #[.slice xo m xc, .slice lo' (nn + 1) lc'], .int .i64 0]) (by simp [results, Try.results32, go_sem, q0, q1]) rfl ⟨xo, xc, lo', lc', rfl, ints_of_vals k5, ints_of_vals k6, k4⟩
      · skip
        have c0 := HX.out.lr.lw.c0
        have c1 := HX.out.lr.lw.c1
        have c2 := HX.out.lr.lw.c2
        have c3 := HX.out.lr.lw.c3
        have c4 := HX.out.lr.lw.c4
        have hz := HX.out.lr.lw.size
        have rz := heap_lt HX.out.lr.res
        have r0 := cell_of_row _ _ 0 _ _ _ HX.out.lr.res
        have r1 := cell_of_row _ _ 1 _ _ _ HX.out.lr.res
        have f0 := frozen_of_row _ _ 0 _ _ HX.out.lr.res
        have f1 := frozen_of_row _ _ 1 _ _ HX.out.lr.res
        have b0 := cell_of_row _ _ 0 _ _ _ HX.out.bx
        have b1 := cell_of_row _ _ 1 _ _ _ HX.out.bx
        have bf := frozen_of_row _ _ 1 _ _ HX.out.bx
        have bz := heap_lt HX.out.bx
        simp only [List.getElem?_toArray, List.getElem?_cons_zero, List.getElem?_cons_succ] at r0 r1 b0 b1
        go_wp2_with fail
        have k3 := set2 HX.out.lr.res (.slice xo m xc) (.slice lo (j + 1) lc)
        have k4 := set2_below (g := w.heap.size + 2) HX.out.lr.lw.below (by omega) (.slice xo m xc) (.slice lo (j + 1) lc)
        have k5 := set2_row (g := w.heap.size + 2) HX.out.rx (own_ne HX.out.rx (a := ⟨w.heap.size + 2, 0, none⟩) (Nat.lt_succ_self _)) (.slice xo m xc) (.slice lo (j + 1) lc)
        have k6 := set2_row (g := w.heap.size + 2) HX.out.row (own_ne HX.out.row (a := ⟨w.heap.size + 2, 0, none⟩) (by have := HX.out.hC; show w.heap.size + 2 < C + 1; omega)) (.slice xo m xc) (.slice lo (j + 1) lc)
        clear c0 c1 c2 c3 c4 hz rz r0 r1 f0 f1 b0 b1 bf bz
        generalize World.setCell _ _ _ = w5 at k3 k4 k5 k6 ⊢
        have q0 := cell_of_row w5 _ 0 _ _ _ k3
        have q1 := cell_of_row w5 _ 1 _ _ _ k3
        simp only [List.getElem?_toArray, List.getElem?_cons_zero, List.getElem?_cons_succ] at q0 q1
        exact bodyPost_ret (v := .tuple #[.agg #[.slice xo m xc, .slice lo (j + 1) lc], .int .i64 0]) (by simp [results, Try.results32, go_sem, q0, q1]) rfl ⟨xo, xc, lo, lc, rfl, ints_of_vals k5, ints_of_vals k6, k4⟩

set_option maxRecDepth 20000 in
set_option maxHeartbeats 3200000 in
theorem refmark_off (W' H' : Nat) (ao ko bo : Option Addr) (n cap m kcap q bcap : Nat) (Z K Y : Nat → Int) (hn : n ≤ 4000) (hq : q ≤ 4000) (hg : Good W' H' n Z) (hf : Fine W' H' m q Z K Y) (u : Nat) (hu : u < W' * H') (hw : wt W' Z K u = true) (p : Nat) (hp : LowAt q Y u p) (hm : memK q Y u = true) (w : World) (hI : Ints w ao n Z) (hK : Ints w ko m K) (hY : Ints w bo q Y) :
    Calls Try.prog 32 #[lv W' H' (.slice ao n cap), .agg #[.slice ko m kcap, .slice bo q bcap], .int .i64 u] w (WtM m (q - 1) K (delY Y p) 0 w) := by
  have HE : Hid (PErr W' H' n m q Z K Y u 0) := hid (.inr ⟨W', H', rfl, rfl, hg, hf, .inr ⟨rfl, tile_yes hu⟩⟩)
  have HWT := hid (fun w hI hK => rWet_any W' H' ao ko n cap m kcap Z K hg hf.len u hu true ((rwet_wt (hf.fits u hu)).trans hw).symm w hI hK)
  have HR := hid (LR.start (W := W') (H := H') (cap := cap) (kcap := kcap) (bcap := bcap) hI hK hY)
  have HI := hid hI
  have HK := hid hK
  have HY := hid hY
  have HIN := hid infoX
  have HP := hid hp
  have HASC := hid hf.asc
  have hpq := hp.1
  have hsd := hg.side
  have hsm := mul_small hsd.2.1 hsd.2.2.2
  have hm2 : m ≤ 1024 := by have := hf.len; omega
  obtain ⟨mk, hmk⟩ : ∃ b, b = memK q Y u := ⟨_, rfl⟩
  have HM := hid hmk
  obtain rfl : mk = true := hmk.trans hm
  have HMP := hid (mem_low hf.asc hp hm)
  have hpq2 := HMP.out.1
  clear hI hK hY hg hf hu hw hp hm hmk hsd hsm
  go_enter Try.func32, Try.ntmps32
  go_upto_region 1 with fail
  generalize World.alloc _ _ = wl at HR ⊢
  have c0 := HR.out.lw.c0
  have c1 := HR.out.lw.c1
  have c2 := HR.out.lw.c2
  have c3 := HR.out.lw.c3
  have c4 := HR.out.lw.c4
  have hz := HR.out.lw.size
  have rz := heap_lt HR.out.res
  have r0 := cell_of_row _ _ 0 _ _ _ HR.out.res
  have r1 := cell_of_row _ _ 1 _ _ _ HR.out.res
  have f0 := frozen_of_row _ _ 0 _ _ HR.out.res
  have f1 := frozen_of_row _ _ 1 _ _ HR.out.res
  simp only [List.getElem?_toArray, List.getElem?_cons_zero, List.getElem?_cons_succ] at r0 r1
  go_upto_region 7 with (first | (go_at_call 54; (with_reducible refine (place_to W' H' ao ko bo n cap m kcap q bcap Z K Y hn hq u 0 HE.out _ HR.out.lw.land HR.out.lw.kinds HR.out.lw.buoys).mono ?_); rintro r wn ⟨rfl, hb⟩; have HRn := hid (HR.out.stays hb); clear hb c0 c1 c2 c3 c4 hz rz r0 r1 f0 f1 HR; have HR := HRn; clear HRn; have c0 := HR.out.lw.c0; have c1 := HR.out.lw.c1; have c2 := HR.out.lw.c2; have c3 := HR.out.lw.c3; have c4 := HR.out.lw.c4; have hz := HR.out.lw.size; have rz := heap_lt HR.out.res; have r0 := cell_of_row _ _ 0 _ _ _ HR.out.res; have r1 := cell_of_row _ _ 1 _ _ _ HR.out.res; have f0 := frozen_of_row _ _ 0 _ _ HR.out.res; have f1 := frozen_of_row _ _ 1 _ _ HR.out.res; simp only [List.getElem?_toArray, List.getElem?_cons_zero, List.getElem?_cons_succ] at r0 r1) | (go_at_call 43; (with_reducible refine (HWT.out _ HR.out.lw.land HR.out.lw.kinds).mono ?_); rintro r wn ⟨rfl, hb⟩; have HRn := hid (HR.out.stays hb); clear hb c0 c1 c2 c3 c4 hz rz r0 r1 f0 f1 HR; have HR := HRn; clear HRn; have c0 := HR.out.lw.c0; have c1 := HR.out.lw.c1; have c2 := HR.out.lw.c2; have c3 := HR.out.lw.c3; have c4 := HR.out.lw.c4; have hz := HR.out.lw.size; have rz := heap_lt HR.out.res; have r0 := cell_of_row _ _ 0 _ _ _ HR.out.res; have r1 := cell_of_row _ _ 1 _ _ _ HR.out.res; have f0 := frozen_of_row _ _ 0 _ _ HR.out.res; have f1 := frozen_of_row _ _ 1 _ _ HR.out.res; simp only [List.getElem?_toArray, List.getElem?_cons_zero, List.getElem?_cons_succ] at r0 r1) | (at_builtin; refine wpList_append_copy _ rfl _ _ rfl rfl rfl ko m kcap K rfl (by omega) HR.out.lw.kinds ?_; intro xo xc wk hx hb; have hx9 : w.heap.size + 2 < _ := rz; have HX := hid hx; clear hx; have HRn := hid (HR.out.stays hb); clear hb c0 c1 c2 c3 c4 hz rz r0 r1 f0 f1 HR; have HR := HRn; clear HRn; have c0 := HR.out.lw.c0; have c1 := HR.out.lw.c1; have c2 := HR.out.lw.c2; have c3 := HR.out.lw.c3; have c4 := HR.out.lw.c4; have hz := HR.out.lw.size; have rz := heap_lt HR.out.res; have r0 := cell_of_row _ _ 0 _ _ _ HR.out.res; have r1 := cell_of_row _ _ 1 _ _ _ HR.out.res; have f0 := frozen_of_row _ _ 0 _ _ HR.out.res; have f1 := frozen_of_row _ _ 1 _ _ HR.out.res; simp only [List.getElem?_toArray, List.getElem?_cons_zero, List.getElem?_cons_succ] at r0 r1))
  have HX2 : Hid (RM W' H' ao ko bo n cap m kcap q bcap Z K Y wk.heap.size (.slice xo m xc) (.slice none 0 0) 0 (delY Y p) w _) := hid (RM.start HR.out hx9 HX.out)
  clear HX HR hx9 c0 c1 c2 c3 c4 hz rz r0 r1 f0 f1
  have HX := HX2
  clear HX2
  generalize World.alloc wk _ = wr at HX ⊢
  generalize wk.heap.size = C at HX ⊢
  have c0 := HX.out.lr.lw.c0
  have c1 := HX.out.lr.lw.c1
  have c2 := HX.out.lr.lw.c2
  have c3 := HX.out.lr.lw.c3
  have c4 := HX.out.lr.lw.c4
  have hz := HX.out.lr.lw.size
  have rz := heap_lt HX.out.lr.res
  have r0 := cell_of_row _ _ 0 _ _ _ HX.out.lr.res
  have r1 := cell_of_row _ _ 1 _ _ _ HX.out.lr.res
  have f0 := frozen_of_row _ _ 0 _ _ HX.out.lr.res
  have f1 := frozen_of_row _ _ 1 _ _ HX.out.lr.res
  have b0 := cell_of_row _ _ 0 _ _ _ HX.out.bx
  have b1 := cell_of_row _ _ 1 _ _ _ HX.out.bx
  have bf := frozen_of_row _ _ 1 _ _ HX.out.bx
  have bz := heap_lt HX.out.bx
  simp only [List.getElem?_toArray, List.getElem?_cons_zero, List.getElem?_cons_succ] at r0 r1 b0 b1
  go_wp2_with (go_at_call 52; (with_reducible refine (marked_any ko m kcap bo q bcap Y hq u true HM.out _ HX.out.lr.lw.buoys).mono ?_); rintro r wn ⟨rfl, hb⟩; have HXn := hid (HX.out.stays hb); clear hb c0 c1 c2 c3 c4 hz rz r0 r1 f0 f1 b0 b1 bf bz HX; have HX := HXn; clear HXn; have c0 := HX.out.lr.lw.c0; have c1 := HX.out.lr.lw.c1; have c2 := HX.out.lr.lw.c2; have c3 := HX.out.lr.lw.c3; have c4 := HX.out.lr.lw.c4; have hz := HX.out.lr.lw.size; have rz := heap_lt HX.out.lr.res; have r0 := cell_of_row _ _ 0 _ _ _ HX.out.lr.res; have r1 := cell_of_row _ _ 1 _ _ _ HX.out.lr.res; have f0 := frozen_of_row _ _ 0 _ _ HX.out.lr.res; have f1 := frozen_of_row _ _ 1 _ _ HX.out.lr.res; have b0 := cell_of_row _ _ 0 _ _ _ HX.out.bx; have b1 := cell_of_row _ _ 1 _ _ _ HX.out.bx; have bf := frozen_of_row _ _ 1 _ _ HX.out.bx; have bz := heap_lt HX.out.bx; simp only [List.getElem?_toArray, List.getElem?_cons_zero, List.getElem?_cons_succ] at r0 r1 b0 b1)
  clear c0 c1 c2 c3 c4 hz rz r0 r1 f0 f1 b0 b1 bf bz
  go_loopw [10, 39] (fun pv iv wr => ∃ (j nn : Nat) (lo : Option Addr) (lc : Nat), j ≤ q ∧ iv = .int .i64 j ∧ (pv = .bool false ∧ ((j ≤ p ∧ nn = j) ∨ (p < j ∧ nn + 1 = j))) ∧ Hid (RM W' H' ao ko bo n cap m kcap q bcap Z K Y C (.slice xo m xc) (.slice lo nn lc) nn (delY Y p) w wr)) (fun _ iv _ => q - (intOf iv).toNat)
  case atStart => exact ⟨0, 0, none, 0, by omega, rfl, ⟨rfl, .inl ⟨by omega, rfl⟩⟩, HX⟩
  case round =>
    clear HX
    obtain ⟨j, nn, lo, lc, hj, rfl, ⟨rfl, hput⟩, HX⟩ := hrel
    by_cases hlt : j < q
    · obtain ⟨yb, yoff, rfl, hyz, y0⟩ := HX.out.lr.lw.buoys j hlt
      obtain ⟨b, hb⟩ : ∃ b, b = Y j := ⟨_, rfl⟩
      rw [← hb] at y0
      have HB := hid hb
      by_cases hje : j = p
      · have hbu : b = (u : Int) := by rw [hb, hje]; exact HMP.out.2
        subst hbu
        obtain rfl : nn = j := by rcases hput with ⟨_, h⟩ | ⟨h, _⟩ <;> omega
        clear hb hput
        subst hje
        have c0 := HX.out.lr.lw.c0
        have c1 := HX.out.lr.lw.c1
        have c2 := HX.out.lr.lw.c2
        have c3 := HX.out.lr.lw.c3
        have c4 := HX.out.lr.lw.c4
        have hz := HX.out.lr.lw.size
        have rz := heap_lt HX.out.lr.res
        have r0 := cell_of_row _ _ 0 _ _ _ HX.out.lr.res
        have r1 := cell_of_row _ _ 1 _ _ _ HX.out.lr.res
        have f0 := frozen_of_row _ _ 0 _ _ HX.out.lr.res
        have f1 := frozen_of_row _ _ 1 _ _ HX.out.lr.res
        have b0 := cell_of_row _ _ 0 _ _ _ HX.out.bx
        have b1 := cell_of_row _ _ 1 _ _ _ HX.out.bx
        have bf := frozen_of_row _ _ 1 _ _ HX.out.bx
        have bz := heap_lt HX.out.bx
        simp only [List.getElem?_toArray, List.getElem?_cons_zero, List.getElem?_cons_succ] at r0 r1 b0 b1
        go_wp2_with fail
        go_roundw
        case rel => exact ⟨nn + 1, nn, lo, lc, by omega, by go_num, ⟨rfl, .inr ⟨by omega, by omega⟩⟩, HX⟩
        case measure => simp [intOf]; omega
      · have hne : b ≠ (u : Int) := by
          intro h
          rcases Nat.lt_or_ge j p with hl | hg
          · have := (HP.out.2 j hlt).1 hl; omega
          · have := asc_lt HASC.out j p (by omega) hlt
            have := HMP.out.2
            omega
        have g1 : (b == (u : Int)) = false := by simpa using hne
        have g2 : (b != (u : Int)) = true := by simpa using hne
        have hnn : nn ≤ q := by rcases hput with ⟨_, h⟩ | ⟨h, _⟩ <;> omega
        have e1 : delY Y p nn = b := by
          unfold delY
          rcases hput with ⟨h1, h2⟩ | ⟨h1, h2⟩
          · rw [if_pos (by omega), HB.out, h2]
          · rw [if_neg (by omega), HB.out, h2]
        have E1 := hid e1
        have HPUT := hid hput
        clear hb hne e1 hput
        have c0 := HX.out.lr.lw.c0
        have c1 := HX.out.lr.lw.c1
        have c2 := HX.out.lr.lw.c2
        have c3 := HX.out.lr.lw.c3
        have c4 := HX.out.lr.lw.c4
        have hz := HX.out.lr.lw.size
        have rz := heap_lt HX.out.lr.res
        have r0 := cell_of_row _ _ 0 _ _ _ HX.out.lr.res
        have r1 := cell_of_row _ _ 1 _ _ _ HX.out.lr.res
        have f0 := frozen_of_row _ _ 0 _ _ HX.out.lr.res
        have f1 := frozen_of_row _ _ 1 _ _ HX.out.lr.res
        have b0 := cell_of_row _ _ 0 _ _ _ HX.out.bx
        have b1 := cell_of_row _ _ 1 _ _ _ HX.out.bx
        have bf := frozen_of_row _ _ 1 _ _ HX.out.bx
        have bz := heap_lt HX.out.bx
        simp only [List.getElem?_toArray, List.getElem?_cons_zero, List.getElem?_cons_succ] at r0 r1 b0 b1
        go_wp2_with (at_builtin; obtain ⟨i0, HIN'⟩ := HIN.out; refine wpList_append_own _ rfl _ _ 22 rfl (C + 1) 3 i0 (.int .i64 0) 1 8 Try.underlying22 HIN'.1 HIN'.2.1 HIN'.2.2.1 HIN'.2.2.2 rfl (by decide) _ _ _ rfl (HX.out.row.alloc _) ⟨wr.heap.size, 0, none⟩ 1 1 [.int .i64 b] rfl rfl ?c1 ?c2 ?c3 ?c4 ?c5 ?_)
        case c1 =>
          intro j u hj
          match j, hj with
          | 0, hj => simp at hj; subst hj; simp [Addr.add]
        case c2 => intro u hu; simp at hu; subst hu; rfl
        case c3 => unfold maxLen; omega
        case c4 => omega
        case c5 => simp; omega
        intro v' w6 hown hgrow _
        obtain ⟨lo', lc', rfl⟩ := row_slice hown
        have hX6 := HX.out.mid _ hgrow
        have d1 := cell_of_row _ _ 1 _ _ _ hX6
        have df := frozen_of_row _ _ 1 _ _ hX6
        have dz := heap_lt hX6
        simp only [List.getElem?_toArray, List.getElem?_cons_zero, List.getElem?_cons_succ] at d1
        have HXn := hid (HX.out.app (x := b) hown _ hgrow E1.out HI.out HK.out HY.out)
        clear hown hgrow hX6 c0 c1 c2 c3 c4 hz rz r0 r1 f0 f1 b0 b1 bf bz HX
        have HX := HXn
        clear HXn
        go_wp2_with fail
        clear d1 df dz
        go_roundw
        case rel => exact ⟨j + 1, nn + 1, lo', lc', by omega, by go_num, ⟨rfl, by have := HPUT.out; omega⟩, HX⟩
        case measure => simp [intOf]; omega
    · obtain rfl : j = q := by omega
      obtain rfl : nn = j - 1 := by rcases hput with ⟨_, h⟩ | ⟨h, _⟩ <;> omega
      clear hput
      have c0 := HX.out.lr.lw.c0
      have c1 := HX.out.lr.lw.c1
      have c2 := HX.out.lr.lw.c2
      have c3 := HX.out.lr.lw.c3
      have c4 := HX.out.lr.lw.c4
      have hz := HX.out.lr.lw.size
      have rz := heap_lt HX.out.lr.res
      have r0 := cell_of_row _ _ 0 _ _ _ HX.out.lr.res
      have r1 := cell_of_row _ _ 1 _ _ _ HX.out.lr.res
      have f0 := frozen_of_row _ _ 0 _ _ HX.out.lr.res
      have f1 := frozen_of_row _ _ 1 _ _ HX.out.lr.res
      have b0 := cell_of_row _ _ 0 _ _ _ HX.out.bx
      have b1 := cell_of_row _ _ 1 _ _ _ HX.out.bx
      have bf := frozen_of_row _ _ 1 _ _ HX.out.bx
      have bz := heap_lt HX.out.bx
      simp only [List.getElem?_toArray, List.getElem?_cons_zero, List.getElem?_cons_succ] at r0 r1 b0 b1
      go_wp2_with fail
      have k3 := set2 HX.out.lr.res (.slice xo m xc) (.slice lo (j - 1) lc)
      have k4 := set2_below (g := w.heap.size + 2) HX.out.lr.lw.below (by omega) (.slice xo m xc) (.slice lo (j - 1) lc)
      have k5 := set2_row (g := w.heap.size + 2) HX.out.rx (own_ne HX.out.rx (a := ⟨w.heap.size + 2, 0, none⟩) (Nat.lt_succ_self _)) (.slice xo m xc) (.slice lo (j - 1) lc)
      have k6 := set2_row (g := w.heap.size + 2) HX.out.row (own_ne HX.out.row (a := ⟨w.heap.size + 2, 0, none⟩) (by have := HX.out.hC; show w.heap.size + 2 < C + 1; omega)) (.slice xo m xc) (.slice lo (j - 1) lc)
      clear c0 c1 c2 c3 c4 hz rz r0 r1 f0 f1 b0 b1 bf bz
      generalize World.setCell _ _ _ = w5 at k3 k4 k5 k6 ⊢
      have q0 := cell_of_row w5 _ 0 _ _ _ k3
      have q1 := cell_of_row w5 _ 1 _ _ _ k3
      simp only [List.getElem?_toArray, List.getElem?_cons_zero, List.getElem?_cons_succ] at q0 q1
      exact bodyPost_ret (v := .tuple #[.agg #[.slice xo m xc, .slice lo (j - 1) lc], .int .i64 0]) (by simp [results, Try.results32, go_sem, q0, q1]) rfl ⟨xo, xc, lo, lc, rfl, ints_of_vals k5, ints_of_vals k6, k4⟩

theorem refmark_to (W H : Int) (ao ko bo : Option Addr) (n cap m kcap q bcap : Nat) (Z K Y : Nat → Int) (hn : n ≤ 4000) (hq : q ≤ 4000) (t : Int) {m' q' : Nat} {K' Y' : Nat → Int} {e : Int} (h : MOut W H n m q Z K Y t m' q' K' Y' e) (w : World) (hI : Ints w ao n Z) (hK : Ints w ko m K) (hY : Ints w bo q Y) :
    Calls Try.prog 32 #[lv W H (.slice ao n cap), .agg #[.slice ko m kcap, .slice bo q bcap], .int .i64 t] w (WtM m' q' K' Y' e w) := by
  rcases h with ⟨h0, ⟨rfl, rfl, rfl, rfl⟩, h | ⟨rfl, W', H', u, rfl, rfl, hg, hf, rfl, hu, hw⟩⟩ | ⟨rfl, W', H', u, rfl, rfl, hg, hf, rfl, hu, hw, rfl, rfl, p, hp, hm⟩
  · exact refmark_place W H ao ko bo n cap m kcap q bcap Z K Y hn hq t e h h0 w hI hK hY
  · exact refmark_dry W' H' ao ko bo n cap m kcap q bcap Z K Y hn hq hg hf u hu hw w hI hK hY
  · rcases hm with ⟨hm, rfl, rfl⟩ | ⟨hm, rfl, rfl⟩
    · exact refmark_off W' H' ao ko bo n cap m' kcap q bcap Z K' Y hn hq hg hf u hu hw p hp hm w hI hK hY
    · exact refmark_on W' H' ao ko bo n cap m' kcap q bcap Z K' Y hn hq hg hf u hu hw p hp hm w hI hK hY
end Go.Proofs.Ytkpnngpnjimogaa
