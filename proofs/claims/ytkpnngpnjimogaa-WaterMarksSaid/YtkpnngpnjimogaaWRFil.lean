/-
  The walk of Fill of the reference.
-/
import Derived.Test.YtkpnngpnjimogaaWRDig
namespace Go.Proofs.Ytkpnngpnjimogaa
open Go.RowKit

/-- And waters in rows of the call's own, in a box. -/
structure LQ (W H : Int) (ao ko bo : Option Addr) (n cap m kcap q bcap : Nat) (Z K Y : Nat → Int) (B : Nat) (xo : Option Addr) (xc : Nat) (yo : Option Addr) (yc : Nat) (Kx : Nat → Int) (w wr : World) : Prop where
  lr : LR W H ao ko bo n cap m kcap q bcap Z K Y w wr
  bx : wr.heap[B]? = some (.cells #[.slice xo m xc, .slice yo q yc] 26 (0, 0))
  rx : wr.ownsRow (w.heap.size + 3) 3 1 (.slice xo m xc) m (vals m (iv Kx))
  ry : wr.ownsRow (w.heap.size + 3) 3 1 (.slice yo q yc) q (vals q (iv Y))
section
variable {W H : Int} {ao ko bo xo yo : Option Addr} {n cap m kcap q bcap B xc yc B0 : Nat} {Z K Y Kx : Nat → Int} {w wr w' : World}
theorem LQ.stays (h : LQ W H ao ko bo n cap m kcap q bcap Z K Y B xo xc yo yc Kx w wr) (k : Below wr.heap.size wr w') : LQ W H ao ko bo n cap m kcap q bcap Z K Y B xo xc yo yc Kx w w' :=
  ⟨h.lr.stays k, (k.block _ (heap_lt h.bx)).trans h.bx, row_stays h.rx k, row_stays h.ry k⟩
theorem LQ.start (h : LR W H ao ko bo n cap m kcap q bcap Z K Y w wr) (hB : w.heap.size + 2 < B0) (hx : wr.ownsRow B0 3 1 (.slice xo m xc) m (vals m (iv Kx))) (hy : wr.ownsRow B0 3 1 (.slice yo q yc) q (vals q (iv Y))) :
    LQ W H ao ko bo n cap m kcap q bcap Z K Y wr.heap.size xo xc yo yc Kx w (wr.alloc (.cells #[.slice xo m xc, .slice yo q yc] 26)) := by
  have k := Joins.below_alloc1 wr (.cells #[.slice xo m xc, .slice yo q yc] 26)
  refine ⟨h.stays k, ?_, row_stays (row_mono hx (by omega)) k, row_stays (row_mono hy (by omega)) k⟩
  show (wr.heap.push _)[_]? = _
  rw [Array.getElem?_push, if_pos rfl]
end

set_option maxRecDepth 20000 in
set_option maxHeartbeats 1600000 in
theorem reffill_no (W H : Int) (ao ko bo : Option Addr) (n cap m kcap q bcap : Nat) (Z K Y : Nat → Int) (hn : n ≤ 4000) (hq : q ≤ 4000) (t : Int) (e : Int) (h : WErr W H n m q Z K Y e) (h0 : e ≠ 0) (w : World) (hI : Ints w ao n Z) (hK : Ints w ko m K) (hY : Ints w bo q Y) :
    Calls Try.prog 22 #[lv W H (.slice ao n cap), .agg #[.slice ko m kcap, .slice bo q bcap], .int .i64 t] w (WtO 0 0 (fun _ => 0) (fun _ => 0) 0 e w) := by
  have HR := hid (LR.start (W := W) (H := H) (cap := cap) (kcap := kcap) (bcap := bcap) hI hK hY)
  have HE := hid h
  have g1 : (e == 0) = false := by rw [beq_eq_false_iff_ne]; exact h0
  have g2 : (e != 0) = true := by simp [h0]
  clear hI hK hY h h0
  go_enter Try.func22, Try.ntmps22
  go_upto_region 1 with fail
  generalize World.alloc _ _ = wl at HR ⊢
  have c0 := HR.out.lw.c0
  have c1 := HR.out.lw.c1
  have c2 := HR.out.lw.c2
  have c3 := HR.out.lw.c3
  have c4 := HR.out.lw.c4
  have hz := HR.out.lw.size
  have rz := heap_lt HR.out.res
  have r0 := cell_of_row _ _ 0 _ _ _ HR.out.res
  have r1 := cell_of_row _ _ 1 _ _ _ HR.out.res
  have f0 := frozen_of_row _ _ 0 _ _ HR.out.res
  have f1 := frozen_of_row _ _ 1 _ _ HR.out.res
  simp only [List.getElem?_toArray, List.getElem?_cons_zero, List.getElem?_cons_succ] at r0 r1
  go_wp2_with (go_at_call 17; (with_reducible refine (wrefvalidate_to W H ao ko bo n cap m kcap q bcap Z K Y hn hq e HE.out _ HR.out.lw.land HR.out.lw.kinds HR.out.lw.buoys).mono ?_); rintro r wn ⟨rfl, hb⟩; have HRn := hid (HR.out.stays hb); clear hb c0 c1 c2 c3 c4 hz rz r0 r1 f0 f1 HR; have HR := HRn; clear HRn; have c0 := HR.out.lw.c0; have c1 := HR.out.lw.c1; have c2 := HR.out.lw.c2; have c3 := HR.out.lw.c3; have c4 := HR.out.lw.c4; have hz := HR.out.lw.size; have rz := heap_lt HR.out.res; have r0 := cell_of_row _ _ 0 _ _ _ HR.out.res; have r1 := cell_of_row _ _ 1 _ _ _ HR.out.res; have f0 := frozen_of_row _ _ 0 _ _ HR.out.res; have f1 := frozen_of_row _ _ 1 _ _ HR.out.res; simp only [List.getElem?_toArray, List.getElem?_cons_zero, List.getElem?_cons_succ] at r0 r1)
  have k3 := set2 HR.out.res (.slice none 0 0) (.slice none 0 0)
  have k4 := set2_below (g := w.heap.size + 2) HR.out.lw.below (by omega) (.slice none 0 0) (.slice none 0 0)
  clear c0 c1 c2 c3 c4 hz rz r0 r1 f0 f1
  generalize World.setCell _ _ _ = w5 at k3 k4 ⊢
  have q0 := cell_of_row w5 _ 0 _ _ _ k3
  have q1 := cell_of_row w5 _ 1 _ _ _ k3
  simp only [List.getElem?_toArray, List.getElem?_cons_zero, List.getElem?_cons_succ] at q0 q1
  exact bodyPost_ret (v := .tuple #[.agg #[.slice none 0 0, .slice none 0 0], .int .i64 0, .int .i64 e]) (by simp [results, Try.results22, go_sem, q0, q1]) rfl (wto_zero k4)

set_option maxRecDepth 20000 in
set_option maxHeartbeats 1600000 in
theorem reffill_err (W' H' : Nat) (ao ko bo : Option Addr) (n cap m kcap q bcap : Nat) (Z K Y : Nat → Int) (hn : n ≤ 4000) (hq : q ≤ 4000) (hg : Good W' H' n Z) (hf : Fine W' H' m q Z K Y) (t e : Int) (h : FErr W' H' q Z K Y t e) (h0 : e ≠ 0) (w : World) (hI : Ints w ao n Z) (hK : Ints w ko m K) (hY : Ints w bo q Y) :
    Calls Try.prog 22 #[lv W' H' (.slice ao n cap), .agg #[.slice ko m kcap, .slice bo q bcap], .int .i64 t] w (WtO 0 0 (fun _ => 0) (fun _ => 0) 0 e w) := by
  have hsd := hg.side
  have hsm := mul_small hsd.2.1 hsd.2.2.2
  have hlen := hf.len
  have hm2 : m ≤ 1024 := by omega
  have hW32 : W' ≤ 32 := hsd.2.1
  have hH32 : H' ≤ 32 := hsd.2.2.2
  have HE := hid (hg.werr hf.err)
  have HUM := hid (fun (u : Nat) (h : u < W' * H') => show u < m by omega)
  have HLEN := hid hlen
  have HG := hid hg
  have HF := hid hf
  clear hg hf hsd hsm hlen
  rcases h with ⟨rfl, h⟩ | ⟨u, rfl, hu, h⟩
  · have HTI := hid (refIs_to W' H' hW32 hH32 (.slice ao n cap) t false h)
    have HR := hid (LR.start (W := W') (H := H') (cap := cap) (kcap := kcap) (bcap := bcap) hI hK hY)
    clear h0 h hW32 hH32 hI hK hY
    go_enter Try.func22, Try.ntmps22
    go_upto_region 1 with fail
    generalize World.alloc _ _ = wl at HR ⊢
    have c0 := HR.out.lw.c0
    have c1 := HR.out.lw.c1
    have c2 := HR.out.lw.c2
    have c3 := HR.out.lw.c3
    have c4 := HR.out.lw.c4
    have hz := HR.out.lw.size
    have rz := heap_lt HR.out.res
    have r0 := cell_of_row _ _ 0 _ _ _ HR.out.res
    have r1 := cell_of_row _ _ 1 _ _ _ HR.out.res
    have f0 := frozen_of_row _ _ 0 _ _ HR.out.res
    have f1 := frozen_of_row _ _ 1 _ _ HR.out.res
    simp only [List.getElem?_toArray, List.getElem?_cons_zero, List.getElem?_cons_succ] at r0 r1
    go_wp2_with (first | (go_at_call 17; (with_reducible refine (wrefvalidate_to W' H' ao ko bo n cap m kcap q bcap Z K Y hn hq 0 HE.out _ HR.out.lw.land HR.out.lw.kinds HR.out.lw.buoys).mono ?_); rintro r wn ⟨rfl, hb⟩; have HRn := hid (HR.out.stays hb); clear hb c0 c1 c2 c3 c4 hz rz r0 r1 f0 f1 HR; have HR := HRn; clear HRn; have c0 := HR.out.lw.c0; have c1 := HR.out.lw.c1; have c2 := HR.out.lw.c2; have c3 := HR.out.lw.c3; have c4 := HR.out.lw.c4; have hz := HR.out.lw.size; have rz := heap_lt HR.out.res; have r0 := cell_of_row _ _ 0 _ _ _ HR.out.res; have r1 := cell_of_row _ _ 1 _ _ _ HR.out.res; have f0 := frozen_of_row _ _ 0 _ _ HR.out.res; have f1 := frozen_of_row _ _ 1 _ _ HR.out.res; simp only [List.getElem?_toArray, List.getElem?_cons_zero, List.getElem?_cons_succ] at r0 r1) | (go_at_call 37; (with_reducible refine (HTI.out _).mono ?_); rintro r wn ⟨rfl, hb⟩; have HRn := hid (HR.out.stays hb); clear hb c0 c1 c2 c3 c4 hz rz r0 r1 f0 f1 HR; have HR := HRn; clear HRn; have c0 := HR.out.lw.c0; have c1 := HR.out.lw.c1; have c2 := HR.out.lw.c2; have c3 := HR.out.lw.c3; have c4 := HR.out.lw.c4; have hz := HR.out.lw.size; have rz := heap_lt HR.out.res; have r0 := cell_of_row _ _ 0 _ _ _ HR.out.res; have r1 := cell_of_row _ _ 1 _ _ _ HR.out.res; have f0 := frozen_of_row _ _ 0 _ _ HR.out.res; have f1 := frozen_of_row _ _ 1 _ _ HR.out.res; simp only [List.getElem?_toArray, List.getElem?_cons_zero, List.getElem?_cons_succ] at r0 r1))
    have k3 := set2 HR.out.res (.slice none 0 0) (.slice none 0 0)
    have k4 := set2_below (g := w.heap.size + 2) HR.out.lw.below (by omega) (.slice none 0 0) (.slice none 0 0)
    clear c0 c1 c2 c3 c4 hz rz r0 r1 f0 f1
    generalize World.setCell _ _ _ = w5 at k3 k4 ⊢
    have q0 := cell_of_row w5 _ 0 _ _ _ k3
    have q1 := cell_of_row w5 _ 1 _ _ _ k3
    simp only [List.getElem?_toArray, List.getElem?_cons_zero, List.getElem?_cons_succ] at q0 q1
    exact bodyPost_ret (v := .tuple #[.agg #[.slice none 0 0, .slice none 0 0], .int .i64 0, .int .i64 2]) (by simp [results, Try.results22, go_sem, q0, q1]) rfl (wto_zero k4)
  · skip
    have HTI := hid (refIs_to W' H' hW32 hH32 (.slice ao n cap) u true (tile_yes hu))
    have hum : u < m := HUM.out u hu
    have hut : (u : Int) < (m : Int) := by omega
    obtain ⟨z, hz0⟩ : ∃ z, z = K u := ⟨_, rfl⟩
    have HZ := hid hz0
    obtain ⟨kb, koff, rfl, _, _⟩ := hK u hum
    have HR := hid (LR.start (W := W') (H := H') (cap := cap) (kcap := kcap) (bcap := bcap) hI hK hY)
    rcases h with ⟨rfl, h⟩ | ⟨rfl, h, hm, hs⟩ | ⟨rfl, _⟩
    · have hzz : z = 0 := hz0.trans h
      subst hzz
      clear h0 hz0 h hu hW32 hH32 hI hK hY
      go_enter Try.func22, Try.ntmps22
      go_upto_region 1 with fail
      generalize World.alloc _ _ = wl at HR ⊢
      have c0 := HR.out.lw.c0
      have c1 := HR.out.lw.c1
      have c2 := HR.out.lw.c2
      have c3 := HR.out.lw.c3
      have c4 := HR.out.lw.c4
      have hz := HR.out.lw.size
      have rz := heap_lt HR.out.res
      have r0 := cell_of_row _ _ 0 _ _ _ HR.out.res
      have r1 := cell_of_row _ _ 1 _ _ _ HR.out.res
      have f0 := frozen_of_row _ _ 0 _ _ HR.out.res
      have f1 := frozen_of_row _ _ 1 _ _ HR.out.res
      simp only [List.getElem?_toArray, List.getElem?_cons_zero, List.getElem?_cons_succ] at r0 r1
      have k0 := kat HR.out.lw.kinds hum
      rw [← HZ.out] at k0
      have kz := kat_lt HR.out.lw.kinds hum
      go_wp2_with (first | (go_at_call 17; (with_reducible refine (wrefvalidate_to W' H' ao (some ⟨kb, koff, none⟩) bo n cap m kcap q bcap Z K Y hn hq 0 HE.out _ HR.out.lw.land HR.out.lw.kinds HR.out.lw.buoys).mono ?_); rintro r wn ⟨rfl, hb⟩; have HRn := hid (HR.out.stays hb); clear hb c0 c1 c2 c3 c4 hz rz r0 r1 f0 f1 k0 kz HR; have HR := HRn; clear HRn; have c0 := HR.out.lw.c0; have c1 := HR.out.lw.c1; have c2 := HR.out.lw.c2; have c3 := HR.out.lw.c3; have c4 := HR.out.lw.c4; have hz := HR.out.lw.size; have rz := heap_lt HR.out.res; have r0 := cell_of_row _ _ 0 _ _ _ HR.out.res; have r1 := cell_of_row _ _ 1 _ _ _ HR.out.res; have f0 := frozen_of_row _ _ 0 _ _ HR.out.res; have f1 := frozen_of_row _ _ 1 _ _ HR.out.res; simp only [List.getElem?_toArray, List.getElem?_cons_zero, List.getElem?_cons_succ] at r0 r1; have k0 := kat HR.out.lw.kinds hum; rw [← HZ.out] at k0; have kz := kat_lt HR.out.lw.kinds hum) | (go_at_call 37; (with_reducible refine (HTI.out _).mono ?_); rintro r wn ⟨rfl, hb⟩; have HRn := hid (HR.out.stays hb); clear hb c0 c1 c2 c3 c4 hz rz r0 r1 f0 f1 k0 kz HR; have HR := HRn; clear HRn; have c0 := HR.out.lw.c0; have c1 := HR.out.lw.c1; have c2 := HR.out.lw.c2; have c3 := HR.out.lw.c3; have c4 := HR.out.lw.c4; have hz := HR.out.lw.size; have rz := heap_lt HR.out.res; have r0 := cell_of_row _ _ 0 _ _ _ HR.out.res; have r1 := cell_of_row _ _ 1 _ _ _ HR.out.res; have f0 := frozen_of_row _ _ 0 _ _ HR.out.res; have f1 := frozen_of_row _ _ 1 _ _ HR.out.res; simp only [List.getElem?_toArray, List.getElem?_cons_zero, List.getElem?_cons_succ] at r0 r1; have k0 := kat HR.out.lw.kinds hum; rw [← HZ.out] at k0; have kz := kat_lt HR.out.lw.kinds hum))
      have k3 := set2 HR.out.res (.slice none 0 0) (.slice none 0 0)
      have k4 := set2_below (g := w.heap.size + 2) HR.out.lw.below (by omega) (.slice none 0 0) (.slice none 0 0)
      clear c0 c1 c2 c3 c4 hz rz r0 r1 f0 f1
      generalize World.setCell _ _ _ = w5 at k3 k4 ⊢
      have q0 := cell_of_row w5 _ 0 _ _ _ k3
      have q1 := cell_of_row w5 _ 1 _ _ _ k3
      simp only [List.getElem?_toArray, List.getElem?_cons_zero, List.getElem?_cons_succ] at q0 q1
      exact bodyPost_ret (v := .tuple #[.agg #[.slice none 0 0, .slice none 0 0], .int .i64 0, .int .i64 2]) (by simp [results, Try.results22, go_sem, q0, q1]) rfl (wto_zero k4)
    · have g2 : (z == 0) = false := by rw [hz0]; simpa using h
      obtain ⟨bb, hbb⟩ : ∃ b, b = memK q Y u := ⟨_, rfl⟩
      have HBB := hid hbb
      obtain rfl : bb = true := hbb.trans hm
      have HWT := hid (fun xo xc w hI hK => rWet_any W' H' ao xo n cap m xc Z (upK K u 0) HG.out HLEN.out u hu false (by rw [upK_same, hs]; rfl) w hI hK)
      clear h0 hz0 h hu hW32 hH32 hI hK hY hm hs hbb
      go_enter Try.func22, Try.ntmps22
      go_upto_region 1 with fail
      generalize World.alloc _ _ = wl at HR ⊢
      have c0 := HR.out.lw.c0
      have c1 := HR.out.lw.c1
      have c2 := HR.out.lw.c2
      have c3 := HR.out.lw.c3
      have c4 := HR.out.lw.c4
      have hz := HR.out.lw.size
      have rz := heap_lt HR.out.res
      have r0 := cell_of_row _ _ 0 _ _ _ HR.out.res
      have r1 := cell_of_row _ _ 1 _ _ _ HR.out.res
      have f0 := frozen_of_row _ _ 0 _ _ HR.out.res
      have f1 := frozen_of_row _ _ 1 _ _ HR.out.res
      simp only [List.getElem?_toArray, List.getElem?_cons_zero, List.getElem?_cons_succ] at r0 r1
      have k0 := kat HR.out.lw.kinds hum
      rw [← HZ.out] at k0
      have kz := kat_lt HR.out.lw.kinds hum
      go_upto_region 7 with (first | (go_at_call 17; (with_reducible refine (wrefvalidate_to W' H' ao (some ⟨kb, koff, none⟩) bo n cap m kcap q bcap Z K Y hn hq 0 HE.out _ HR.out.lw.land HR.out.lw.kinds HR.out.lw.buoys).mono ?_); rintro r wn ⟨rfl, hb⟩; have HRn := hid (HR.out.stays hb); clear hb c0 c1 c2 c3 c4 hz rz r0 r1 f0 f1 k0 kz HR; have HR := HRn; clear HRn; have c0 := HR.out.lw.c0; have c1 := HR.out.lw.c1; have c2 := HR.out.lw.c2; have c3 := HR.out.lw.c3; have c4 := HR.out.lw.c4; have hz := HR.out.lw.size; have rz := heap_lt HR.out.res; have r0 := cell_of_row _ _ 0 _ _ _ HR.out.res; have r1 := cell_of_row _ _ 1 _ _ _ HR.out.res; have f0 := frozen_of_row _ _ 0 _ _ HR.out.res; have f1 := frozen_of_row _ _ 1 _ _ HR.out.res; simp only [List.getElem?_toArray, List.getElem?_cons_zero, List.getElem?_cons_succ] at r0 r1; have k0 := kat HR.out.lw.kinds hum; rw [← HZ.out] at k0; have kz := kat_lt HR.out.lw.kinds hum) | (go_at_call 37; (with_reducible refine (HTI.out _).mono ?_); rintro r wn ⟨rfl, hb⟩; have HRn := hid (HR.out.stays hb); clear hb c0 c1 c2 c3 c4 hz rz r0 r1 f0 f1 k0 kz HR; have HR := HRn; clear HRn; have c0 := HR.out.lw.c0; have c1 := HR.out.lw.c1; have c2 := HR.out.lw.c2; have c3 := HR.out.lw.c3; have c4 := HR.out.lw.c4; have hz := HR.out.lw.size; have rz := heap_lt HR.out.res; have r0 := cell_of_row _ _ 0 _ _ _ HR.out.res; have r1 := cell_of_row _ _ 1 _ _ _ HR.out.res; have f0 := frozen_of_row _ _ 0 _ _ HR.out.res; have f1 := frozen_of_row _ _ 1 _ _ HR.out.res; simp only [List.getElem?_toArray, List.getElem?_cons_zero, List.getElem?_cons_succ] at r0 r1; have k0 := kat HR.out.lw.kinds hum; rw [← HZ.out] at k0; have kz := kat_lt HR.out.lw.kinds hum) | (go_at_call 49; (with_reducible refine (with_any (some ⟨kb, koff, none⟩) m kcap K bo q bcap Y (by omega) hq u hum 0 _ HR.out.lw.kinds HR.out.lw.buoys).mono ?_); rintro r wn ⟨xo, xc, yo, yc, rfl, hx, hy, hb⟩; have hx9 : w.heap.size + 2 < _ := rz; have HX := hid hx; have HYR := hid hy; clear hx hy; have HRn := hid (HR.out.stays hb); clear hb c0 c1 c2 c3 c4 hz rz r0 r1 f0 f1 k0 kz HR; have HR := HRn; clear HRn; have c0 := HR.out.lw.c0; have c1 := HR.out.lw.c1; have c2 := HR.out.lw.c2; have c3 := HR.out.lw.c3; have c4 := HR.out.lw.c4; have hz := HR.out.lw.size; have rz := heap_lt HR.out.res; have r0 := cell_of_row _ _ 0 _ _ _ HR.out.res; have r1 := cell_of_row _ _ 1 _ _ _ HR.out.res; have f0 := frozen_of_row _ _ 0 _ _ HR.out.res; have f1 := frozen_of_row _ _ 1 _ _ HR.out.res; simp only [List.getElem?_toArray, List.getElem?_cons_zero, List.getElem?_cons_succ] at r0 r1; have k0 := kat HR.out.lw.kinds hum; rw [← HZ.out] at k0; have kz := kat_lt HR.out.lw.kinds hum))
      have HQ := hid (LQ.start HR.out hx9 HX.out HYR.out)
      clear HX HYR HR hx9 k0 kz c0 c1 c2 c3 c4 hz rz r0 r1 f0 f1
      generalize World.alloc wn _ = wq at HQ ⊢
      generalize wn.heap.size = B at HQ ⊢
      have c0 := HQ.out.lr.lw.c0
      have c1 := HQ.out.lr.lw.c1
      have c2 := HQ.out.lr.lw.c2
      have c3 := HQ.out.lr.lw.c3
      have c4 := HQ.out.lr.lw.c4
      have hz := HQ.out.lr.lw.size
      have rz := heap_lt HQ.out.lr.res
      have r0 := cell_of_row _ _ 0 _ _ _ HQ.out.lr.res
      have r1 := cell_of_row _ _ 1 _ _ _ HQ.out.lr.res
      have f0 := frozen_of_row _ _ 0 _ _ HQ.out.lr.res
      have f1 := frozen_of_row _ _ 1 _ _ HQ.out.lr.res
      simp only [List.getElem?_toArray, List.getElem?_cons_zero, List.getElem?_cons_succ] at r0 r1
      have b0 := cell_of_row _ _ 0 _ _ _ HQ.out.bx
      have b1 := cell_of_row _ _ 1 _ _ _ HQ.out.bx
      have bz := heap_lt HQ.out.bx
      simp only [List.getElem?_toArray, List.getElem?_cons_zero, List.getElem?_cons_succ] at b0 b1
      go_wp2_with (first | (go_at_call 52; (with_reducible refine (marked_any (some ⟨kb, koff, none⟩) m kcap bo q bcap Y hq u true HBB.out _ HQ.out.lr.lw.buoys).mono ?_); rintro r wn ⟨rfl, hb⟩; have HQn := hid (HQ.out.stays hb); clear hb c0 c1 c2 c3 c4 hz rz r0 r1 f0 f1 b0 b1 bz HQ; have HQ := HQn; clear HQn; have c0 := HQ.out.lr.lw.c0; have c1 := HQ.out.lr.lw.c1; have c2 := HQ.out.lr.lw.c2; have c3 := HQ.out.lr.lw.c3; have c4 := HQ.out.lr.lw.c4; have hz := HQ.out.lr.lw.size; have rz := heap_lt HQ.out.lr.res; have r0 := cell_of_row _ _ 0 _ _ _ HQ.out.lr.res; have r1 := cell_of_row _ _ 1 _ _ _ HQ.out.lr.res; have f0 := frozen_of_row _ _ 0 _ _ HQ.out.lr.res; have f1 := frozen_of_row _ _ 1 _ _ HQ.out.lr.res; simp only [List.getElem?_toArray, List.getElem?_cons_zero, List.getElem?_cons_succ] at r0 r1; have b0 := cell_of_row _ _ 0 _ _ _ HQ.out.bx; have b1 := cell_of_row _ _ 1 _ _ _ HQ.out.bx; have bz := heap_lt HQ.out.bx; simp only [List.getElem?_toArray, List.getElem?_cons_zero, List.getElem?_cons_succ] at b0 b1) | (go_at_call 43; (with_reducible refine (HWT.out xo xc _ HQ.out.lr.lw.land (ints_of_vals HQ.out.rx)).mono ?_); rintro r wn ⟨rfl, hb⟩; have HQn := hid (HQ.out.stays hb); clear hb c0 c1 c2 c3 c4 hz rz r0 r1 f0 f1 b0 b1 bz HQ; have HQ := HQn; clear HQn; have c0 := HQ.out.lr.lw.c0; have c1 := HQ.out.lr.lw.c1; have c2 := HQ.out.lr.lw.c2; have c3 := HQ.out.lr.lw.c3; have c4 := HQ.out.lr.lw.c4; have hz := HQ.out.lr.lw.size; have rz := heap_lt HQ.out.lr.res; have r0 := cell_of_row _ _ 0 _ _ _ HQ.out.lr.res; have r1 := cell_of_row _ _ 1 _ _ _ HQ.out.lr.res; have f0 := frozen_of_row _ _ 0 _ _ HQ.out.lr.res; have f1 := frozen_of_row _ _ 1 _ _ HQ.out.lr.res; simp only [List.getElem?_toArray, List.getElem?_cons_zero, List.getElem?_cons_succ] at r0 r1; have b0 := cell_of_row _ _ 0 _ _ _ HQ.out.bx; have b1 := cell_of_row _ _ 1 _ _ _ HQ.out.bx; have bz := heap_lt HQ.out.bx; simp only [List.getElem?_toArray, List.getElem?_cons_zero, List.getElem?_cons_succ] at b0 b1))
      have k3 := set2 HQ.out.lr.res (.slice none 0 0) (.slice none 0 0)
      have k4 := set2_below (g := w.heap.size + 2) HQ.out.lr.lw.below (by omega) (.slice none 0 0) (.slice none 0 0)
      clear c0 c1 c2 c3 c4 hz rz r0 r1 f0 f1 b0 b1 bz
      generalize World.setCell _ _ _ = w5 at k3 k4 ⊢
      have q0 := cell_of_row w5 _ 0 _ _ _ k3
      have q1 := cell_of_row w5 _ 1 _ _ _ k3
      simp only [List.getElem?_toArray, List.getElem?_cons_zero, List.getElem?_cons_succ] at q0 q1
      exact bodyPost_ret (v := .tuple #[.agg #[.slice none 0 0, .slice none 0 0], .int .i64 0, .int .i64 7]) (by simp [results, Try.results22, go_sem, q0, q1]) rfl (wto_zero k4)
    · exact absurd rfl h0

set_option maxRecDepth 20000 in
set_option maxHeartbeats 1600000 in
theorem reffill_ok0 (W' H' : Nat) (ao ko bo : Option Addr) (n cap m kcap q bcap : Nat) (Z K Y : Nat → Int) (hn : n ≤ 4000) (hq : q ≤ 4000) (hg : Good W' H' n Z) (hf : Fine W' H' m q Z K Y) (u : Nat) (hu : u < W' * H') (h : K u ≠ 0) (hm : memK q Y u = false) (w : World) (hI : Ints w ao n Z) (hK : Ints w ko m K) (hY : Ints w bo q Y) :
    Calls Try.prog 22 #[lv W' H' (.slice ao n cap), .agg #[.slice ko m kcap, .slice bo q bcap], .int .i64 u] w (WtO m q (upK K u 0) Y 250 0 w) := by
  have hsd := hg.side
  have hsm := mul_small hsd.2.1 hsd.2.2.2
  have hlen := hf.len
  have hm2 : m ≤ 1024 := by omega
  have hW32 : W' ≤ 32 := hsd.2.1
  have hH32 : H' ≤ 32 := hsd.2.2.2
  have HE := hid (hg.werr hf.err)
  have HUM := hid (fun (u : Nat) (h : u < W' * H') => show u < m by omega)
  have HLEN := hid hlen
  have HG := hid hg
  have HF := hid hf
  clear hg hf hsd hsm hlen
  have HTI := hid (refIs_to W' H' hW32 hH32 (.slice ao n cap) u true (tile_yes hu))
  have hum : u < m := HUM.out u hu
  have hut : (u : Int) < (m : Int) := by omega
  obtain ⟨z, hz0⟩ : ∃ z, z = K u := ⟨_, rfl⟩
  have HZ := hid hz0
  obtain ⟨kb, koff, rfl, _, _⟩ := hK u hum
  have HR := hid (LR.start (W := W') (H := H') (cap := cap) (kcap := kcap) (bcap := bcap) hI hK hY)
  have g2 : (z == 0) = false := by rw [hz0]; simpa using h
  obtain ⟨bb, hbb⟩ : ∃ b, b = memK q Y u := ⟨_, rfl⟩
  have HBB := hid hbb
  obtain rfl : bb = false := hbb.trans hm
  clear hz0 h hu hW32 hH32 hI hK hY hm hbb
  go_enter Try.func22, Try.ntmps22
  go_upto_region 1 with fail
  generalize World.alloc _ _ = wl at HR ⊢
  have c0 := HR.out.lw.c0
  have c1 := HR.out.lw.c1
  have c2 := HR.out.lw.c2
  have c3 := HR.out.lw.c3
  have c4 := HR.out.lw.c4
  have hz := HR.out.lw.size
  have rz := heap_lt HR.out.res
  have r0 := cell_of_row _ _ 0 _ _ _ HR.out.res
  have r1 := cell_of_row _ _ 1 _ _ _ HR.out.res
  have f0 := frozen_of_row _ _ 0 _ _ HR.out.res
  have f1 := frozen_of_row _ _ 1 _ _ HR.out.res
  simp only [List.getElem?_toArray, List.getElem?_cons_zero, List.getElem?_cons_succ] at r0 r1
  have k0 := kat HR.out.lw.kinds hum
  rw [← HZ.out] at k0
  have kz := kat_lt HR.out.lw.kinds hum
  go_upto_region 7 with (first | (go_at_call 17; (with_reducible refine (wrefvalidate_to W' H' ao (some ⟨kb, koff, none⟩) bo n cap m kcap q bcap Z K Y hn hq 0 HE.out _ HR.out.lw.land HR.out.lw.kinds HR.out.lw.buoys).mono ?_); rintro r wn ⟨rfl, hb⟩; have HRn := hid (HR.out.stays hb); clear hb c0 c1 c2 c3 c4 hz rz r0 r1 f0 f1 k0 kz HR; have HR := HRn; clear HRn; have c0 := HR.out.lw.c0; have c1 := HR.out.lw.c1; have c2 := HR.out.lw.c2; have c3 := HR.out.lw.c3; have c4 := HR.out.lw.c4; have hz := HR.out.lw.size; have rz := heap_lt HR.out.res; have r0 := cell_of_row _ _ 0 _ _ _ HR.out.res; have r1 := cell_of_row _ _ 1 _ _ _ HR.out.res; have f0 := frozen_of_row _ _ 0 _ _ HR.out.res; have f1 := frozen_of_row _ _ 1 _ _ HR.out.res; simp only [List.getElem?_toArray, List.getElem?_cons_zero, List.getElem?_cons_succ] at r0 r1; have k0 := kat HR.out.lw.kinds hum; rw [← HZ.out] at k0; have kz := kat_lt HR.out.lw.kinds hum) | (go_at_call 37; (with_reducible refine (HTI.out _).mono ?_); rintro r wn ⟨rfl, hb⟩; have HRn := hid (HR.out.stays hb); clear hb c0 c1 c2 c3 c4 hz rz r0 r1 f0 f1 k0 kz HR; have HR := HRn; clear HRn; have c0 := HR.out.lw.c0; have c1 := HR.out.lw.c1; have c2 := HR.out.lw.c2; have c3 := HR.out.lw.c3; have c4 := HR.out.lw.c4; have hz := HR.out.lw.size; have rz := heap_lt HR.out.res; have r0 := cell_of_row _ _ 0 _ _ _ HR.out.res; have r1 := cell_of_row _ _ 1 _ _ _ HR.out.res; have f0 := frozen_of_row _ _ 0 _ _ HR.out.res; have f1 := frozen_of_row _ _ 1 _ _ HR.out.res; simp only [List.getElem?_toArray, List.getElem?_cons_zero, List.getElem?_cons_succ] at r0 r1; have k0 := kat HR.out.lw.kinds hum; rw [← HZ.out] at k0; have kz := kat_lt HR.out.lw.kinds hum) | (go_at_call 49; (with_reducible refine (with_any (some ⟨kb, koff, none⟩) m kcap K bo q bcap Y (by omega) hq u hum 0 _ HR.out.lw.kinds HR.out.lw.buoys).mono ?_); rintro r wn ⟨xo, xc, yo, yc, rfl, hx, hy, hb⟩; have hx9 : w.heap.size + 2 < _ := rz; have HX := hid hx; have HYR := hid hy; clear hx hy; have HRn := hid (HR.out.stays hb); clear hb c0 c1 c2 c3 c4 hz rz r0 r1 f0 f1 k0 kz HR; have HR := HRn; clear HRn; have c0 := HR.out.lw.c0; have c1 := HR.out.lw.c1; have c2 := HR.out.lw.c2; have c3 := HR.out.lw.c3; have c4 := HR.out.lw.c4; have hz := HR.out.lw.size; have rz := heap_lt HR.out.res; have r0 := cell_of_row _ _ 0 _ _ _ HR.out.res; have r1 := cell_of_row _ _ 1 _ _ _ HR.out.res; have f0 := frozen_of_row _ _ 0 _ _ HR.out.res; have f1 := frozen_of_row _ _ 1 _ _ HR.out.res; simp only [List.getElem?_toArray, List.getElem?_cons_zero, List.getElem?_cons_succ] at r0 r1; have k0 := kat HR.out.lw.kinds hum; rw [← HZ.out] at k0; have kz := kat_lt HR.out.lw.kinds hum))
  have HQ := hid (LQ.start HR.out hx9 HX.out HYR.out)
  clear HX HYR HR hx9 k0 kz c0 c1 c2 c3 c4 hz rz r0 r1 f0 f1
  generalize World.alloc wn _ = wq at HQ ⊢
  generalize wn.heap.size = B at HQ ⊢
  have c0 := HQ.out.lr.lw.c0
  have c1 := HQ.out.lr.lw.c1
  have c2 := HQ.out.lr.lw.c2
  have c3 := HQ.out.lr.lw.c3
  have c4 := HQ.out.lr.lw.c4
  have hz := HQ.out.lr.lw.size
  have rz := heap_lt HQ.out.lr.res
  have r0 := cell_of_row _ _ 0 _ _ _ HQ.out.lr.res
  have r1 := cell_of_row _ _ 1 _ _ _ HQ.out.lr.res
  have f0 := frozen_of_row _ _ 0 _ _ HQ.out.lr.res
  have f1 := frozen_of_row _ _ 1 _ _ HQ.out.lr.res
  simp only [List.getElem?_toArray, List.getElem?_cons_zero, List.getElem?_cons_succ] at r0 r1
  have b0 := cell_of_row _ _ 0 _ _ _ HQ.out.bx
  have b1 := cell_of_row _ _ 1 _ _ _ HQ.out.bx
  have bz := heap_lt HQ.out.bx
  simp only [List.getElem?_toArray, List.getElem?_cons_zero, List.getElem?_cons_succ] at b0 b1
  go_wp2_with (first | (go_at_call 52; (with_reducible refine (marked_any (some ⟨kb, koff, none⟩) m kcap bo q bcap Y hq u false HBB.out _ HQ.out.lr.lw.buoys).mono ?_); rintro r wn ⟨rfl, hb⟩; have HQn := hid (HQ.out.stays hb); clear hb c0 c1 c2 c3 c4 hz rz r0 r1 f0 f1 b0 b1 bz HQ; have HQ := HQn; clear HQn; have c0 := HQ.out.lr.lw.c0; have c1 := HQ.out.lr.lw.c1; have c2 := HQ.out.lr.lw.c2; have c3 := HQ.out.lr.lw.c3; have c4 := HQ.out.lr.lw.c4; have hz := HQ.out.lr.lw.size; have rz := heap_lt HQ.out.lr.res; have r0 := cell_of_row _ _ 0 _ _ _ HQ.out.lr.res; have r1 := cell_of_row _ _ 1 _ _ _ HQ.out.lr.res; have f0 := frozen_of_row _ _ 0 _ _ HQ.out.lr.res; have f1 := frozen_of_row _ _ 1 _ _ HQ.out.lr.res; simp only [List.getElem?_toArray, List.getElem?_cons_zero, List.getElem?_cons_succ] at r0 r1; have b0 := cell_of_row _ _ 0 _ _ _ HQ.out.bx; have b1 := cell_of_row _ _ 1 _ _ _ HQ.out.bx; have bz := heap_lt HQ.out.bx; simp only [List.getElem?_toArray, List.getElem?_cons_zero, List.getElem?_cons_succ] at b0 b1) | fail)
  have RX := hid HQ.out.rx
  have RY := hid HQ.out.ry
  have hx9 : w.heap.size + 2 < w.heap.size + 3 := Nat.lt_succ_self _
  have k3 := set2 HQ.out.lr.res (.slice xo m xc) (.slice yo q yc)
  have k4 := set2_below (g := w.heap.size + 2) HQ.out.lr.lw.below (by omega) (.slice xo m xc) (.slice yo q yc)
  have k5 := set2_row (g := w.heap.size + 2) RX.out (own_ne RX.out (a := ⟨w.heap.size + 2, 0, none⟩) hx9) (.slice xo m xc) (.slice yo q yc)
  have k6 := set2_row (g := w.heap.size + 2) RY.out (own_ne RY.out (a := ⟨w.heap.size + 2, 0, none⟩) hx9) (.slice xo m xc) (.slice yo q yc)
  clear c0 c1 c2 c3 c4 hz rz r0 r1 f0 f1 b0 b1 bz
  generalize World.setCell _ _ _ = w5 at k3 k4 k5 k6 ⊢
  have q0 := cell_of_row w5 _ 0 _ _ _ k3
  have q1 := cell_of_row w5 _ 1 _ _ _ k3
  simp only [List.getElem?_toArray, List.getElem?_cons_zero, List.getElem?_cons_succ] at q0 q1
  exact bodyPost_ret (v := .tuple #[.agg #[.slice xo m xc, .slice yo q yc], .int .i64 250, .int .i64 0]) (by simp [results, Try.results22, go_sem, q0, q1]) rfl ⟨xo, xc, yo, yc, rfl, ints_of_vals k5, ints_of_vals k6, k4⟩

set_option maxRecDepth 20000 in
set_option maxHeartbeats 1600000 in
theorem reffill_ok1 (W' H' : Nat) (ao ko bo : Option Addr) (n cap m kcap q bcap : Nat) (Z K Y : Nat → Int) (hn : n ≤ 4000) (hq : q ≤ 4000) (hg : Good W' H' n Z) (hf : Fine W' H' m q Z K Y) (u : Nat) (hu : u < W' * H') (h : K u ≠ 0) (hm : memK q Y u = true) (hs : sea W' Z u = true) (w : World) (hI : Ints w ao n Z) (hK : Ints w ko m K) (hY : Ints w bo q Y) :
    Calls Try.prog 22 #[lv W' H' (.slice ao n cap), .agg #[.slice ko m kcap, .slice bo q bcap], .int .i64 u] w (WtO m q (upK K u 0) Y 250 0 w) := by
  have hsd := hg.side
  have hsm := mul_small hsd.2.1 hsd.2.2.2
  have hlen := hf.len
  have hm2 : m ≤ 1024 := by omega
  have hW32 : W' ≤ 32 := hsd.2.1
  have hH32 : H' ≤ 32 := hsd.2.2.2
  have HE := hid (hg.werr hf.err)
  have HUM := hid (fun (u : Nat) (h : u < W' * H') => show u < m by omega)
  have HLEN := hid hlen
  have HG := hid hg
  have HF := hid hf
  clear hg hf hsd hsm hlen
  have HTI := hid (refIs_to W' H' hW32 hH32 (.slice ao n cap) u true (tile_yes hu))
  have hum : u < m := HUM.out u hu
  have hut : (u : Int) < (m : Int) := by omega
  obtain ⟨z, hz0⟩ : ∃ z, z = K u := ⟨_, rfl⟩
  have HZ := hid hz0
  obtain ⟨kb, koff, rfl, _, _⟩ := hK u hum
  have HR := hid (LR.start (W := W') (H := H') (cap := cap) (kcap := kcap) (bcap := bcap) hI hK hY)
  have g2 : (z == 0) = false := by rw [hz0]; simpa using h
  obtain ⟨bb, hbb⟩ : ∃ b, b = memK q Y u := ⟨_, rfl⟩
  have HBB := hid hbb
  obtain rfl : bb = true := hbb.trans hm
  have HWT := hid (fun xo xc w hI hK => rWet_any W' H' ao xo n cap m xc Z (upK K u 0) HG.out HLEN.out u hu true (by rw [upK_same, hs]; rfl) w hI hK)
  clear hz0 h hu hW32 hH32 hI hK hY hm hs hbb
  go_enter Try.func22, Try.ntmps22
  go_upto_region 1 with fail
  generalize World.alloc _ _ = wl at HR ⊢
  have c0 := HR.out.lw.c0
  have c1 := HR.out.lw.c1
  have c2 := HR.out.lw.c2
  have c3 := HR.out.lw.c3
  have c4 := HR.out.lw.c4
  have hz := HR.out.lw.size
  have rz := heap_lt HR.out.res
  have r0 := cell_of_row _ _ 0 _ _ _ HR.out.res
  have r1 := cell_of_row _ _ 1 _ _ _ HR.out.res
  have f0 := frozen_of_row _ _ 0 _ _ HR.out.res
  have f1 := frozen_of_row _ _ 1 _ _ HR.out.res
  simp only [List.getElem?_toArray, List.getElem?_cons_zero, List.getElem?_cons_succ] at r0 r1
  have k0 := kat HR.out.lw.kinds hum
  rw [← HZ.out] at k0
  have kz := kat_lt HR.out.lw.kinds hum
  go_upto_region 7 with (first | (go_at_call 17; (with_reducible refine (wrefvalidate_to W' H' ao (some ⟨kb, koff, none⟩) bo n cap m kcap q bcap Z K Y hn hq 0 HE.out _ HR.out.lw.land HR.out.lw.kinds HR.out.lw.buoys).mono ?_); rintro r wn ⟨rfl, hb⟩; have HRn := hid (HR.out.stays hb); clear hb c0 c1 c2 c3 c4 hz rz r0 r1 f0 f1 k0 kz HR; have HR := HRn; clear HRn; have c0 := HR.out.lw.c0; have c1 := HR.out.lw.c1; have c2 := HR.out.lw.c2; have c3 := HR.out.lw.c3; have c4 := HR.out.lw.c4; have hz := HR.out.lw.size; have rz := heap_lt HR.out.res; have r0 := cell_of_row _ _ 0 _ _ _ HR.out.res; have r1 := cell_of_row _ _ 1 _ _ _ HR.out.res; have f0 := frozen_of_row _ _ 0 _ _ HR.out.res; have f1 := frozen_of_row _ _ 1 _ _ HR.out.res; simp only [List.getElem?_toArray, List.getElem?_cons_zero, List.getElem?_cons_succ] at r0 r1; have k0 := kat HR.out.lw.kinds hum; rw [← HZ.out] at k0; have kz := kat_lt HR.out.lw.kinds hum) | (go_at_call 37; (with_reducible refine (HTI.out _).mono ?_); rintro r wn ⟨rfl, hb⟩; have HRn := hid (HR.out.stays hb); clear hb c0 c1 c2 c3 c4 hz rz r0 r1 f0 f1 k0 kz HR; have HR := HRn; clear HRn; have c0 := HR.out.lw.c0; have c1 := HR.out.lw.c1; have c2 := HR.out.lw.c2; have c3 := HR.out.lw.c3; have c4 := HR.out.lw.c4; have hz := HR.out.lw.size; have rz := heap_lt HR.out.res; have r0 := cell_of_row _ _ 0 _ _ _ HR.out.res; have r1 := cell_of_row _ _ 1 _ _ _ HR.out.res; have f0 := frozen_of_row _ _ 0 _ _ HR.out.res; have f1 := frozen_of_row _ _ 1 _ _ HR.out.res; simp only [List.getElem?_toArray, List.getElem?_cons_zero, List.getElem?_cons_succ] at r0 r1; have k0 := kat HR.out.lw.kinds hum; rw [← HZ.out] at k0; have kz := kat_lt HR.out.lw.kinds hum) | (go_at_call 49; (with_reducible refine (with_any (some ⟨kb, koff, none⟩) m kcap K bo q bcap Y (by omega) hq u hum 0 _ HR.out.lw.kinds HR.out.lw.buoys).mono ?_); rintro r wn ⟨xo, xc, yo, yc, rfl, hx, hy, hb⟩; have hx9 : w.heap.size + 2 < _ := rz; have HX := hid hx; have HYR := hid hy; clear hx hy; have HRn := hid (HR.out.stays hb); clear hb c0 c1 c2 c3 c4 hz rz r0 r1 f0 f1 k0 kz HR; have HR := HRn; clear HRn; have c0 := HR.out.lw.c0; have c1 := HR.out.lw.c1; have c2 := HR.out.lw.c2; have c3 := HR.out.lw.c3; have c4 := HR.out.lw.c4; have hz := HR.out.lw.size; have rz := heap_lt HR.out.res; have r0 := cell_of_row _ _ 0 _ _ _ HR.out.res; have r1 := cell_of_row _ _ 1 _ _ _ HR.out.res; have f0 := frozen_of_row _ _ 0 _ _ HR.out.res; have f1 := frozen_of_row _ _ 1 _ _ HR.out.res; simp only [List.getElem?_toArray, List.getElem?_cons_zero, List.getElem?_cons_succ] at r0 r1; have k0 := kat HR.out.lw.kinds hum; rw [← HZ.out] at k0; have kz := kat_lt HR.out.lw.kinds hum))
  have HQ := hid (LQ.start HR.out hx9 HX.out HYR.out)
  clear HX HYR HR hx9 k0 kz c0 c1 c2 c3 c4 hz rz r0 r1 f0 f1
  generalize World.alloc wn _ = wq at HQ ⊢
  generalize wn.heap.size = B at HQ ⊢
  have c0 := HQ.out.lr.lw.c0
  have c1 := HQ.out.lr.lw.c1
  have c2 := HQ.out.lr.lw.c2
  have c3 := HQ.out.lr.lw.c3
  have c4 := HQ.out.lr.lw.c4
  have hz := HQ.out.lr.lw.size
  have rz := heap_lt HQ.out.lr.res
  have r0 := cell_of_row _ _ 0 _ _ _ HQ.out.lr.res
  have r1 := cell_of_row _ _ 1 _ _ _ HQ.out.lr.res
  have f0 := frozen_of_row _ _ 0 _ _ HQ.out.lr.res
  have f1 := frozen_of_row _ _ 1 _ _ HQ.out.lr.res
  simp only [List.getElem?_toArray, List.getElem?_cons_zero, List.getElem?_cons_succ] at r0 r1
  have b0 := cell_of_row _ _ 0 _ _ _ HQ.out.bx
  have b1 := cell_of_row _ _ 1 _ _ _ HQ.out.bx
  have bz := heap_lt HQ.out.bx
  simp only [List.getElem?_toArray, List.getElem?_cons_zero, List.getElem?_cons_succ] at b0 b1
  go_wp2_with (first | (go_at_call 52; (with_reducible refine (marked_any (some ⟨kb, koff, none⟩) m kcap bo q bcap Y hq u true HBB.out _ HQ.out.lr.lw.buoys).mono ?_); rintro r wn ⟨rfl, hb⟩; have HQn := hid (HQ.out.stays hb); clear hb c0 c1 c2 c3 c4 hz rz r0 r1 f0 f1 b0 b1 bz HQ; have HQ := HQn; clear HQn; have c0 := HQ.out.lr.lw.c0; have c1 := HQ.out.lr.lw.c1; have c2 := HQ.out.lr.lw.c2; have c3 := HQ.out.lr.lw.c3; have c4 := HQ.out.lr.lw.c4; have hz := HQ.out.lr.lw.size; have rz := heap_lt HQ.out.lr.res; have r0 := cell_of_row _ _ 0 _ _ _ HQ.out.lr.res; have r1 := cell_of_row _ _ 1 _ _ _ HQ.out.lr.res; have f0 := frozen_of_row _ _ 0 _ _ HQ.out.lr.res; have f1 := frozen_of_row _ _ 1 _ _ HQ.out.lr.res; simp only [List.getElem?_toArray, List.getElem?_cons_zero, List.getElem?_cons_succ] at r0 r1; have b0 := cell_of_row _ _ 0 _ _ _ HQ.out.bx; have b1 := cell_of_row _ _ 1 _ _ _ HQ.out.bx; have bz := heap_lt HQ.out.bx; simp only [List.getElem?_toArray, List.getElem?_cons_zero, List.getElem?_cons_succ] at b0 b1) | (go_at_call 43; (with_reducible refine (HWT.out xo xc _ HQ.out.lr.lw.land (ints_of_vals HQ.out.rx)).mono ?_); rintro r wn ⟨rfl, hb⟩; have HQn := hid (HQ.out.stays hb); clear hb c0 c1 c2 c3 c4 hz rz r0 r1 f0 f1 b0 b1 bz HQ; have HQ := HQn; clear HQn; have c0 := HQ.out.lr.lw.c0; have c1 := HQ.out.lr.lw.c1; have c2 := HQ.out.lr.lw.c2; have c3 := HQ.out.lr.lw.c3; have c4 := HQ.out.lr.lw.c4; have hz := HQ.out.lr.lw.size; have rz := heap_lt HQ.out.lr.res; have r0 := cell_of_row _ _ 0 _ _ _ HQ.out.lr.res; have r1 := cell_of_row _ _ 1 _ _ _ HQ.out.lr.res; have f0 := frozen_of_row _ _ 0 _ _ HQ.out.lr.res; have f1 := frozen_of_row _ _ 1 _ _ HQ.out.lr.res; simp only [List.getElem?_toArray, List.getElem?_cons_zero, List.getElem?_cons_succ] at r0 r1; have b0 := cell_of_row _ _ 0 _ _ _ HQ.out.bx; have b1 := cell_of_row _ _ 1 _ _ _ HQ.out.bx; have bz := heap_lt HQ.out.bx; simp only [List.getElem?_toArray, List.getElem?_cons_zero, List.getElem?_cons_succ] at b0 b1))
  have RX := hid HQ.out.rx
  have RY := hid HQ.out.ry
  have hx9 : w.heap.size + 2 < w.heap.size + 3 := Nat.lt_succ_self _
  have k3 := set2 HQ.out.lr.res (.slice xo m xc) (.slice yo q yc)
  have k4 := set2_below (g := w.heap.size + 2) HQ.out.lr.lw.below (by omega) (.slice xo m xc) (.slice yo q yc)
  have k5 := set2_row (g := w.heap.size + 2) RX.out (own_ne RX.out (a := ⟨w.heap.size + 2, 0, none⟩) hx9) (.slice xo m xc) (.slice yo q yc)
  have k6 := set2_row (g := w.heap.size + 2) RY.out (own_ne RY.out (a := ⟨w.heap.size + 2, 0, none⟩) hx9) (.slice xo m xc) (.slice yo q yc)
  clear c0 c1 c2 c3 c4 hz rz r0 r1 f0 f1 b0 b1 bz
  generalize World.setCell _ _ _ = w5 at k3 k4 k5 k6 ⊢
  have q0 := cell_of_row w5 _ 0 _ _ _ k3
  have q1 := cell_of_row w5 _ 1 _ _ _ k3
  simp only [List.getElem?_toArray, List.getElem?_cons_zero, List.getElem?_cons_succ] at q0 q1
  exact bodyPost_ret (v := .tuple #[.agg #[.slice xo m xc, .slice yo q yc], .int .i64 250, .int .i64 0]) (by simp [results, Try.results22, go_sem, q0, q1]) rfl ⟨xo, xc, yo, yc, rfl, ints_of_vals k5, ints_of_vals k6, k4⟩

theorem reffill_to (W H : Int) (ao ko bo : Option Addr) (n cap m kcap q bcap : Nat) (Z K Y : Nat → Int) (hn : n ≤ 4000) (hq : q ≤ 4000) (t : Int) {m' q' : Nat} {K' Y' : Nat → Int} {c e : Int} (h : LOut W H n m q Z K Y t m' q' K' Y' c e) (w : World) (hI : Ints w ao n Z) (hK : Ints w ko m K) (hY : Ints w bo q Y) :
    Calls Try.prog 22 #[lv W H (.slice ao n cap), .agg #[.slice ko m kcap, .slice bo q bcap], .int .i64 t] w (WtO m' q' K' Y' c e w) := by
  rcases h with ⟨h0, ⟨rfl, rfl, rfl, rfl, rfl⟩, h | ⟨W', H', rfl, rfl, hg, hf, h⟩⟩ | ⟨rfl, W', H', u, rfl, rfl, hg, hf, rfl, h, rfl, rfl, rfl, rfl, rfl⟩
  · exact reffill_no W H ao ko bo n cap m kcap q bcap Z K Y hn hq t e h h0 w hI hK hY
  · exact reffill_err W' H' ao ko bo n cap m kcap q bcap Z K Y hn hq hg hf t e h h0 w hI hK hY
  · obtain ⟨v, e, hu, h0, hn0⟩ := h.ok
    obtain rfl : u = v := by omega
    cases hm : memK q' Y' u
    · exact reffill_ok0 W' H' ao ko bo n cap m' kcap q' bcap Z K Y' hn hq hg hf u hu h0 hm w hI hK hY
    · exact reffill_ok1 W' H' ao ko bo n cap m' kcap q' bcap Z K Y' hn hq hg hf u hu h0 hm (by cases hs : sea W' Z u with | true => rfl | false => exact absurd ⟨hm, hs⟩ hn0) w hI hK hY
end Go.Proofs.Ytkpnngpnjimogaa
