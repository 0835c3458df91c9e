/-
  The walk of Dig of the reference.
-/
import Derived.Test.YtkpnngpnjimogaaWFil
namespace Go.Proofs.Ytkpnngpnjimogaa
open Go.RowKit

theorem kat {w : World} {kb koff m u : Nat} {K : Nat → Int} (h : Ints w (some ⟨kb, koff, none⟩) m K) (hu : u < m) : w.cell? ⟨kb, koff + u, none⟩ = some (.int .i64 (K u)) := by
  obtain ⟨b, o, e, _, hc⟩ := h u hu
  cases e
  exact hc
theorem kat_lt {w : World} {kb koff m u : Nat} {K : Nat → Int} (h : Ints w (some ⟨kb, koff, none⟩) m K) (hu : u < m) : kb < w.heap.size := by
  obtain ⟨b, o, e, hz, _⟩ := h u hu
  cases e
  exact hz
theorem refIs_to (W H : Nat) (hW : W ≤ 32) (hH : H ≤ 32) (s : Value) (t : Int) (r : Bool) (hr : tileB W H t = r) (w : World) : Calls Try.prog 37 #[lv W H s, .int .i64 t] w fun e w' => e = .returned (.bool r) ∧ Below w.heap.size w w' :=
  (is_any W H hW hH s t w).mono fun e w' ⟨he, hw⟩ => ⟨by rw [he, hr], by rw [← hw]; exact Joins.below_alloc1 _ _⟩

set_option maxRecDepth 20000 in
set_option maxHeartbeats 1600000 in
theorem refdig_no (W H : Int) (ao ko bo : Option Addr) (n cap m kcap q bcap : Nat) (Z K Y : Nat → Int) (hn : n ≤ 4000) (hq : q ≤ 4000) (t k : Int) (e : Int) (h : WErr W H n m q Z K Y e) (h0 : e ≠ 0) (w : World) (hI : Ints w ao n Z) (hK : Ints w ko m K) (hY : Ints w bo q Y) :
    Calls Try.prog 19 #[lv W H (.slice ao n cap), .agg #[.slice ko m kcap, .slice bo q bcap], .int .i64 t, .int .i64 k] w (WtO 0 0 (fun _ => 0) (fun _ => 0) 0 e w) := by
  have HR := hid (LR.start (W := W) (H := H) (cap := cap) (kcap := kcap) (bcap := bcap) hI hK hY)
  have HE := hid h
  have g1 : (e == 0) = false := by rw [beq_eq_false_iff_ne]; exact h0
  have g2 : (e != 0) = true := by simp [h0]
  clear hI hK hY h h0
  go_enter Try.func19, Try.ntmps19
  go_upto_region 1 with fail
  generalize World.alloc _ _ = wl at HR ⊢
  have c0 := HR.out.lw.c0
  have c1 := HR.out.lw.c1
  have c2 := HR.out.lw.c2
  have c3 := HR.out.lw.c3
  have c4 := HR.out.lw.c4
  have hz := HR.out.lw.size
  have rz := heap_lt HR.out.res
  have r0 := cell_of_row _ _ 0 _ _ _ HR.out.res
  have r1 := cell_of_row _ _ 1 _ _ _ HR.out.res
  have f0 := frozen_of_row _ _ 0 _ _ HR.out.res
  have f1 := frozen_of_row _ _ 1 _ _ HR.out.res
  simp only [List.getElem?_toArray, List.getElem?_cons_zero, List.getElem?_cons_succ] at r0 r1
  go_wp2_with (go_at_call 17; (with_reducible refine (wrefvalidate_to W H ao ko bo n cap m kcap q bcap Z K Y hn hq e HE.out _ HR.out.lw.land HR.out.lw.kinds HR.out.lw.buoys).mono ?_); rintro r wn ⟨rfl, hb⟩; have HRn := hid (HR.out.stays hb); clear hb c0 c1 c2 c3 c4 hz rz r0 r1 f0 f1 HR; have HR := HRn; clear HRn; have c0 := HR.out.lw.c0; have c1 := HR.out.lw.c1; have c2 := HR.out.lw.c2; have c3 := HR.out.lw.c3; have c4 := HR.out.lw.c4; have hz := HR.out.lw.size; have rz := heap_lt HR.out.res; have r0 := cell_of_row _ _ 0 _ _ _ HR.out.res; have r1 := cell_of_row _ _ 1 _ _ _ HR.out.res; have f0 := frozen_of_row _ _ 0 _ _ HR.out.res; have f1 := frozen_of_row _ _ 1 _ _ HR.out.res; simp only [List.getElem?_toArray, List.getElem?_cons_zero, List.getElem?_cons_succ] at r0 r1)
  have k3 := set2 HR.out.res (.slice none 0 0) (.slice none 0 0)
  have k4 := set2_below (g := w.heap.size + 2) HR.out.lw.below (by omega) (.slice none 0 0) (.slice none 0 0)
  clear c0 c1 c2 c3 c4 hz rz r0 r1 f0 f1
  generalize World.setCell _ _ _ = w5 at k3 k4 ⊢
  have q0 := cell_of_row w5 _ 0 _ _ _ k3
  have q1 := cell_of_row w5 _ 1 _ _ _ k3
  simp only [List.getElem?_toArray, List.getElem?_cons_zero, List.getElem?_cons_succ] at q0 q1
  exact bodyPost_ret (v := .tuple #[.agg #[.slice none 0 0, .slice none 0 0], .int .i64 0, .int .i64 e]) (by simp [results, Try.results19, go_sem, q0, q1]) rfl (wto_zero k4)

set_option maxRecDepth 20000 in
set_option maxHeartbeats 1600000 in
theorem refdig_err (W' H' : Nat) (ao ko bo : Option Addr) (n cap m kcap q bcap : Nat) (Z K Y : Nat → Int) (hn : n ≤ 4000) (hq : q ≤ 4000) (hg : Good W' H' n Z) (hf : Fine W' H' m q Z K Y) (t k e : Int) (h : DErr W' H' Z K t k e) (h0 : e ≠ 0) (w : World) (hI : Ints w ao n Z) (hK : Ints w ko m K) (hY : Ints w bo q Y) :
    Calls Try.prog 19 #[lv W' H' (.slice ao n cap), .agg #[.slice ko m kcap, .slice bo q bcap], .int .i64 t, .int .i64 k] w (WtO 0 0 (fun _ => 0) (fun _ => 0) 0 e w) := by
  have hsd := hg.side
  have hsm := mul_small hsd.2.1 hsd.2.2.2
  have hlen := hf.len
  have hm2 : m ≤ 1024 := by omega
  have hW32 : W' ≤ 32 := hsd.2.1
  have hH32 : H' ≤ 32 := hsd.2.2.2
  have HE := hid (hg.werr hf.err)
  have HUM := hid (fun (u : Nat) (h : u < W' * H') => show u < m by omega)
  have HLEN := hid hlen
  have HG := hid hg
  have HF := hid hf
  clear hg hf hsd hsm hlen
  rcases h with ⟨rfl, h⟩ | ⟨rfl, ht, hk⟩ | ⟨u, rfl, hu, hk, h⟩
  · have HTI := hid (refIs_to W' H' hW32 hH32 (.slice ao n cap) t false h)
    have HR := hid (LR.start (W := W') (H := H') (cap := cap) (kcap := kcap) (bcap := bcap) hI hK hY)
    clear h0 h hW32 hH32 hI hK hY
    go_enter Try.func19, Try.ntmps19
    go_upto_region 1 with fail
    generalize World.alloc _ _ = wl at HR ⊢
    have c0 := HR.out.lw.c0
    have c1 := HR.out.lw.c1
    have c2 := HR.out.lw.c2
    have c3 := HR.out.lw.c3
    have c4 := HR.out.lw.c4
    have hz := HR.out.lw.size
    have rz := heap_lt HR.out.res
    have r0 := cell_of_row _ _ 0 _ _ _ HR.out.res
    have r1 := cell_of_row _ _ 1 _ _ _ HR.out.res
    have f0 := frozen_of_row _ _ 0 _ _ HR.out.res
    have f1 := frozen_of_row _ _ 1 _ _ HR.out.res
    simp only [List.getElem?_toArray, List.getElem?_cons_zero, List.getElem?_cons_succ] at r0 r1
    go_wp2_with (first | (go_at_call 17; (with_reducible refine (wrefvalidate_to W' H' ao ko bo n cap m kcap q bcap Z K Y hn hq 0 HE.out _ HR.out.lw.land HR.out.lw.kinds HR.out.lw.buoys).mono ?_); rintro r wn ⟨rfl, hb⟩; have HRn := hid (HR.out.stays hb); clear hb c0 c1 c2 c3 c4 hz rz r0 r1 f0 f1 HR; have HR := HRn; clear HRn; have c0 := HR.out.lw.c0; have c1 := HR.out.lw.c1; have c2 := HR.out.lw.c2; have c3 := HR.out.lw.c3; have c4 := HR.out.lw.c4; have hz := HR.out.lw.size; have rz := heap_lt HR.out.res; have r0 := cell_of_row _ _ 0 _ _ _ HR.out.res; have r1 := cell_of_row _ _ 1 _ _ _ HR.out.res; have f0 := frozen_of_row _ _ 0 _ _ HR.out.res; have f1 := frozen_of_row _ _ 1 _ _ HR.out.res; simp only [List.getElem?_toArray, List.getElem?_cons_zero, List.getElem?_cons_succ] at r0 r1) | (go_at_call 37; (with_reducible refine (HTI.out _).mono ?_); rintro r wn ⟨rfl, hb⟩; have HRn := hid (HR.out.stays hb); clear hb c0 c1 c2 c3 c4 hz rz r0 r1 f0 f1 HR; have HR := HRn; clear HRn; have c0 := HR.out.lw.c0; have c1 := HR.out.lw.c1; have c2 := HR.out.lw.c2; have c3 := HR.out.lw.c3; have c4 := HR.out.lw.c4; have hz := HR.out.lw.size; have rz := heap_lt HR.out.res; have r0 := cell_of_row _ _ 0 _ _ _ HR.out.res; have r1 := cell_of_row _ _ 1 _ _ _ HR.out.res; have f0 := frozen_of_row _ _ 0 _ _ HR.out.res; have f1 := frozen_of_row _ _ 1 _ _ HR.out.res; simp only [List.getElem?_toArray, List.getElem?_cons_zero, List.getElem?_cons_succ] at r0 r1))
    have k3 := set2 HR.out.res (.slice none 0 0) (.slice none 0 0)
    have k4 := set2_below (g := w.heap.size + 2) HR.out.lw.below (by omega) (.slice none 0 0) (.slice none 0 0)
    clear c0 c1 c2 c3 c4 hz rz r0 r1 f0 f1
    generalize World.setCell _ _ _ = w5 at k3 k4 ⊢
    have q0 := cell_of_row w5 _ 0 _ _ _ k3
    have q1 := cell_of_row w5 _ 1 _ _ _ k3
    simp only [List.getElem?_toArray, List.getElem?_cons_zero, List.getElem?_cons_succ] at q0 q1
    exact bodyPost_ret (v := .tuple #[.agg #[.slice none 0 0, .slice none 0 0], .int .i64 0, .int .i64 2]) (by simp [results, Try.results19, go_sem, q0, q1]) rfl (wto_zero k4)
  · have HTI := hid (refIs_to W' H' hW32 hH32 (.slice ao n cap) t true ht)
    have HR := hid (LR.start (W := W') (H := H') (cap := cap) (kcap := kcap) (bcap := bcap) hI hK hY)
    clear h0 ht hW32 hH32 hI hK hY
    by_cases hk1 : k < 1
    · clear hk
      go_enter Try.func19, Try.ntmps19
      go_upto_region 1 with fail
      generalize World.alloc _ _ = wl at HR ⊢
      have c0 := HR.out.lw.c0
      have c1 := HR.out.lw.c1
      have c2 := HR.out.lw.c2
      have c3 := HR.out.lw.c3
      have c4 := HR.out.lw.c4
      have hz := HR.out.lw.size
      have rz := heap_lt HR.out.res
      have r0 := cell_of_row _ _ 0 _ _ _ HR.out.res
      have r1 := cell_of_row _ _ 1 _ _ _ HR.out.res
      have f0 := frozen_of_row _ _ 0 _ _ HR.out.res
      have f1 := frozen_of_row _ _ 1 _ _ HR.out.res
      simp only [List.getElem?_toArray, List.getElem?_cons_zero, List.getElem?_cons_succ] at r0 r1
      go_wp2_with (first | (go_at_call 17; (with_reducible refine (wrefvalidate_to W' H' ao ko bo n cap m kcap q bcap Z K Y hn hq 0 HE.out _ HR.out.lw.land HR.out.lw.kinds HR.out.lw.buoys).mono ?_); rintro r wn ⟨rfl, hb⟩; have HRn := hid (HR.out.stays hb); clear hb c0 c1 c2 c3 c4 hz rz r0 r1 f0 f1 HR; have HR := HRn; clear HRn; have c0 := HR.out.lw.c0; have c1 := HR.out.lw.c1; have c2 := HR.out.lw.c2; have c3 := HR.out.lw.c3; have c4 := HR.out.lw.c4; have hz := HR.out.lw.size; have rz := heap_lt HR.out.res; have r0 := cell_of_row _ _ 0 _ _ _ HR.out.res; have r1 := cell_of_row _ _ 1 _ _ _ HR.out.res; have f0 := frozen_of_row _ _ 0 _ _ HR.out.res; have f1 := frozen_of_row _ _ 1 _ _ HR.out.res; simp only [List.getElem?_toArray, List.getElem?_cons_zero, List.getElem?_cons_succ] at r0 r1) | (go_at_call 37; (with_reducible refine (HTI.out _).mono ?_); rintro r wn ⟨rfl, hb⟩; have HRn := hid (HR.out.stays hb); clear hb c0 c1 c2 c3 c4 hz rz r0 r1 f0 f1 HR; have HR := HRn; clear HRn; have c0 := HR.out.lw.c0; have c1 := HR.out.lw.c1; have c2 := HR.out.lw.c2; have c3 := HR.out.lw.c3; have c4 := HR.out.lw.c4; have hz := HR.out.lw.size; have rz := heap_lt HR.out.res; have r0 := cell_of_row _ _ 0 _ _ _ HR.out.res; have r1 := cell_of_row _ _ 1 _ _ _ HR.out.res; have f0 := frozen_of_row _ _ 0 _ _ HR.out.res; have f1 := frozen_of_row _ _ 1 _ _ HR.out.res; simp only [List.getElem?_toArray, List.getElem?_cons_zero, List.getElem?_cons_succ] at r0 r1))
      have k3 := set2 HR.out.res (.slice none 0 0) (.slice none 0 0)
      have k4 := set2_below (g := w.heap.size + 2) HR.out.lw.below (by omega) (.slice none 0 0) (.slice none 0 0)
      clear c0 c1 c2 c3 c4 hz rz r0 r1 f0 f1
      generalize World.setCell _ _ _ = w5 at k3 k4 ⊢
      have q0 := cell_of_row w5 _ 0 _ _ _ k3
      have q1 := cell_of_row w5 _ 1 _ _ _ k3
      simp only [List.getElem?_toArray, List.getElem?_cons_zero, List.getElem?_cons_succ] at q0 q1
      exact bodyPost_ret (v := .tuple #[.agg #[.slice none 0 0, .slice none 0 0], .int .i64 0, .int .i64 1]) (by simp [results, Try.results19, go_sem, q0, q1]) rfl (wto_zero k4)
    · have hk3 : 3 < k := by omega
      clear hk
      go_enter Try.func19, Try.ntmps19
      go_upto_region 1 with fail
      generalize World.alloc _ _ = wl at HR ⊢
      have c0 := HR.out.lw.c0
      have c1 := HR.out.lw.c1
      have c2 := HR.out.lw.c2
      have c3 := HR.out.lw.c3
      have c4 := HR.out.lw.c4
      have hz := HR.out.lw.size
      have rz := heap_lt HR.out.res
      have r0 := cell_of_row _ _ 0 _ _ _ HR.out.res
      have r1 := cell_of_row _ _ 1 _ _ _ HR.out.res
      have f0 := frozen_of_row _ _ 0 _ _ HR.out.res
      have f1 := frozen_of_row _ _ 1 _ _ HR.out.res
      simp only [List.getElem?_toArray, List.getElem?_cons_zero, List.getElem?_cons_succ] at r0 r1
      go_wp2_with (first | (go_at_call 17; (with_reducible refine (wrefvalidate_to W' H' ao ko bo n cap m kcap q bcap Z K Y hn hq 0 HE.out _ HR.out.lw.land HR.out.lw.kinds HR.out.lw.buoys).mono ?_); rintro r wn ⟨rfl, hb⟩; have HRn := hid (HR.out.stays hb); clear hb c0 c1 c2 c3 c4 hz rz r0 r1 f0 f1 HR; have HR := HRn; clear HRn; have c0 := HR.out.lw.c0; have c1 := HR.out.lw.c1; have c2 := HR.out.lw.c2; have c3 := HR.out.lw.c3; have c4 := HR.out.lw.c4; have hz := HR.out.lw.size; have rz := heap_lt HR.out.res; have r0 := cell_of_row _ _ 0 _ _ _ HR.out.res; have r1 := cell_of_row _ _ 1 _ _ _ HR.out.res; have f0 := frozen_of_row _ _ 0 _ _ HR.out.res; have f1 := frozen_of_row _ _ 1 _ _ HR.out.res; simp only [List.getElem?_toArray, List.getElem?_cons_zero, List.getElem?_cons_succ] at r0 r1) | (go_at_call 37; (with_reducible refine (HTI.out _).mono ?_); rintro r wn ⟨rfl, hb⟩; have HRn := hid (HR.out.stays hb); clear hb c0 c1 c2 c3 c4 hz rz r0 r1 f0 f1 HR; have HR := HRn; clear HRn; have c0 := HR.out.lw.c0; have c1 := HR.out.lw.c1; have c2 := HR.out.lw.c2; have c3 := HR.out.lw.c3; have c4 := HR.out.lw.c4; have hz := HR.out.lw.size; have rz := heap_lt HR.out.res; have r0 := cell_of_row _ _ 0 _ _ _ HR.out.res; have r1 := cell_of_row _ _ 1 _ _ _ HR.out.res; have f0 := frozen_of_row _ _ 0 _ _ HR.out.res; have f1 := frozen_of_row _ _ 1 _ _ HR.out.res; simp only [List.getElem?_toArray, List.getElem?_cons_zero, List.getElem?_cons_succ] at r0 r1))
      have k3 := set2 HR.out.res (.slice none 0 0) (.slice none 0 0)
      have k4 := set2_below (g := w.heap.size + 2) HR.out.lw.below (by omega) (.slice none 0 0) (.slice none 0 0)
      clear c0 c1 c2 c3 c4 hz rz r0 r1 f0 f1
      generalize World.setCell _ _ _ = w5 at k3 k4 ⊢
      have q0 := cell_of_row w5 _ 0 _ _ _ k3
      have q1 := cell_of_row w5 _ 1 _ _ _ k3
      simp only [List.getElem?_toArray, List.getElem?_cons_zero, List.getElem?_cons_succ] at q0 q1
      exact bodyPost_ret (v := .tuple #[.agg #[.slice none 0 0, .slice none 0 0], .int .i64 0, .int .i64 1]) (by simp [results, Try.results19, go_sem, q0, q1]) rfl (wto_zero k4)
  · have HTI := hid (refIs_to W' H' hW32 hH32 (.slice ao n cap) u true (tile_yes hu))
    have hum : u < m := HUM.out u hu
    have hut : (u : Int) < (m : Int) := by omega
    obtain ⟨k1, k3⟩ := hk
    obtain ⟨z, hz0⟩ : ∃ z, z = K u := ⟨_, rfl⟩
    have HZ := hid hz0
    obtain ⟨kb, koff, rfl, _, _⟩ := hK u hum
    have HR := hid (LR.start (W := W') (H := H') (cap := cap) (kcap := kcap) (bcap := bcap) hI hK hY)
    rcases h with ⟨rfl, h⟩ | ⟨h, he⟩
    · have g3 : (z != 0) = true := by rw [hz0]; simpa using h
      clear h0 hz0 h hu hW32 hH32 hI hK hY
      go_enter Try.func19, Try.ntmps19
      go_upto_region 1 with fail
      generalize World.alloc _ _ = wl at HR ⊢
      have c0 := HR.out.lw.c0
      have c1 := HR.out.lw.c1
      have c2 := HR.out.lw.c2
      have c3 := HR.out.lw.c3
      have c4 := HR.out.lw.c4
      have hz := HR.out.lw.size
      have rz := heap_lt HR.out.res
      have r0 := cell_of_row _ _ 0 _ _ _ HR.out.res
      have r1 := cell_of_row _ _ 1 _ _ _ HR.out.res
      have f0 := frozen_of_row _ _ 0 _ _ HR.out.res
      have f1 := frozen_of_row _ _ 1 _ _ HR.out.res
      simp only [List.getElem?_toArray, List.getElem?_cons_zero, List.getElem?_cons_succ] at r0 r1
      have k0 := kat HR.out.lw.kinds hum
      rw [← HZ.out] at k0
      have kz := kat_lt HR.out.lw.kinds hum
      go_wp2_with (first | (go_at_call 17; (with_reducible refine (wrefvalidate_to W' H' ao (some ⟨kb, koff, none⟩) bo n cap m kcap q bcap Z K Y hn hq 0 HE.out _ HR.out.lw.land HR.out.lw.kinds HR.out.lw.buoys).mono ?_); rintro r wn ⟨rfl, hb⟩; have HRn := hid (HR.out.stays hb); clear hb c0 c1 c2 c3 c4 hz rz r0 r1 f0 f1 k0 kz HR; have HR := HRn; clear HRn; have c0 := HR.out.lw.c0; have c1 := HR.out.lw.c1; have c2 := HR.out.lw.c2; have c3 := HR.out.lw.c3; have c4 := HR.out.lw.c4; have hz := HR.out.lw.size; have rz := heap_lt HR.out.res; have r0 := cell_of_row _ _ 0 _ _ _ HR.out.res; have r1 := cell_of_row _ _ 1 _ _ _ HR.out.res; have f0 := frozen_of_row _ _ 0 _ _ HR.out.res; have f1 := frozen_of_row _ _ 1 _ _ HR.out.res; simp only [List.getElem?_toArray, List.getElem?_cons_zero, List.getElem?_cons_succ] at r0 r1; have k0 := kat HR.out.lw.kinds hum; rw [← HZ.out] at k0; have kz := kat_lt HR.out.lw.kinds hum) | (go_at_call 37; (with_reducible refine (HTI.out _).mono ?_); rintro r wn ⟨rfl, hb⟩; have HRn := hid (HR.out.stays hb); clear hb c0 c1 c2 c3 c4 hz rz r0 r1 f0 f1 k0 kz HR; have HR := HRn; clear HRn; have c0 := HR.out.lw.c0; have c1 := HR.out.lw.c1; have c2 := HR.out.lw.c2; have c3 := HR.out.lw.c3; have c4 := HR.out.lw.c4; have hz := HR.out.lw.size; have rz := heap_lt HR.out.res; have r0 := cell_of_row _ _ 0 _ _ _ HR.out.res; have r1 := cell_of_row _ _ 1 _ _ _ HR.out.res; have f0 := frozen_of_row _ _ 0 _ _ HR.out.res; have f1 := frozen_of_row _ _ 1 _ _ HR.out.res; simp only [List.getElem?_toArray, List.getElem?_cons_zero, List.getElem?_cons_succ] at r0 r1; have k0 := kat HR.out.lw.kinds hum; rw [← HZ.out] at k0; have kz := kat_lt HR.out.lw.kinds hum))
      have k3 := set2 HR.out.res (.slice none 0 0) (.slice none 0 0)
      have k4 := set2_below (g := w.heap.size + 2) HR.out.lw.below (by omega) (.slice none 0 0) (.slice none 0 0)
      clear c0 c1 c2 c3 c4 hz rz r0 r1 f0 f1
      generalize World.setCell _ _ _ = w5 at k3 k4 ⊢
      have q0 := cell_of_row w5 _ 0 _ _ _ k3
      have q1 := cell_of_row w5 _ 1 _ _ _ k3
      simp only [List.getElem?_toArray, List.getElem?_cons_zero, List.getElem?_cons_succ] at q0 q1
      exact bodyPost_ret (v := .tuple #[.agg #[.slice none 0 0, .slice none 0 0], .int .i64 0, .int .i64 7]) (by simp [results, Try.results19, go_sem, q0, q1]) rfl (wto_zero k4)
    · have HLI := hid (fun w hI => lies_any W' H' ao n cap Z HG.out u hu k e (he.trans (rflt_flt (by omega)).symm) w hI)
      have hzz : z = 0 := hz0.trans h
      subst hzz
      have g2 : (e == 0) = false := by simpa using h0
      have g3 : (e != 0) = true := by simpa using h0
      clear h0 hz0 h he hu hW32 hH32 hI hK hY
      go_enter Try.func19, Try.ntmps19
      go_upto_region 1 with fail
      generalize World.alloc _ _ = wl at HR ⊢
      have c0 := HR.out.lw.c0
      have c1 := HR.out.lw.c1
      have c2 := HR.out.lw.c2
      have c3 := HR.out.lw.c3
      have c4 := HR.out.lw.c4
      have hz := HR.out.lw.size
      have rz := heap_lt HR.out.res
      have r0 := cell_of_row _ _ 0 _ _ _ HR.out.res
      have r1 := cell_of_row _ _ 1 _ _ _ HR.out.res
      have f0 := frozen_of_row _ _ 0 _ _ HR.out.res
      have f1 := frozen_of_row _ _ 1 _ _ HR.out.res
      simp only [List.getElem?_toArray, List.getElem?_cons_zero, List.getElem?_cons_succ] at r0 r1
      have k0 := kat HR.out.lw.kinds hum
      rw [← HZ.out] at k0
      have kz := kat_lt HR.out.lw.kinds hum
      go_wp2_with (first | (go_at_call 17; (with_reducible refine (wrefvalidate_to W' H' ao (some ⟨kb, koff, none⟩) bo n cap m kcap q bcap Z K Y hn hq 0 HE.out _ HR.out.lw.land HR.out.lw.kinds HR.out.lw.buoys).mono ?_); rintro r wn ⟨rfl, hb⟩; have HRn := hid (HR.out.stays hb); clear hb c0 c1 c2 c3 c4 hz rz r0 r1 f0 f1 k0 kz HR; have HR := HRn; clear HRn; have c0 := HR.out.lw.c0; have c1 := HR.out.lw.c1; have c2 := HR.out.lw.c2; have c3 := HR.out.lw.c3; have c4 := HR.out.lw.c4; have hz := HR.out.lw.size; have rz := heap_lt HR.out.res; have r0 := cell_of_row _ _ 0 _ _ _ HR.out.res; have r1 := cell_of_row _ _ 1 _ _ _ HR.out.res; have f0 := frozen_of_row _ _ 0 _ _ HR.out.res; have f1 := frozen_of_row _ _ 1 _ _ HR.out.res; simp only [List.getElem?_toArray, List.getElem?_cons_zero, List.getElem?_cons_succ] at r0 r1; have k0 := kat HR.out.lw.kinds hum; rw [← HZ.out] at k0; have kz := kat_lt HR.out.lw.kinds hum) | (go_at_call 37; (with_reducible refine (HTI.out _).mono ?_); rintro r wn ⟨rfl, hb⟩; have HRn := hid (HR.out.stays hb); clear hb c0 c1 c2 c3 c4 hz rz r0 r1 f0 f1 k0 kz HR; have HR := HRn; clear HRn; have c0 := HR.out.lw.c0; have c1 := HR.out.lw.c1; have c2 := HR.out.lw.c2; have c3 := HR.out.lw.c3; have c4 := HR.out.lw.c4; have hz := HR.out.lw.size; have rz := heap_lt HR.out.res; have r0 := cell_of_row _ _ 0 _ _ _ HR.out.res; have r1 := cell_of_row _ _ 1 _ _ _ HR.out.res; have f0 := frozen_of_row _ _ 0 _ _ HR.out.res; have f1 := frozen_of_row _ _ 1 _ _ HR.out.res; simp only [List.getElem?_toArray, List.getElem?_cons_zero, List.getElem?_cons_succ] at r0 r1; have k0 := kat HR.out.lw.kinds hum; rw [← HZ.out] at k0; have kz := kat_lt HR.out.lw.kinds hum) | (go_at_call 42; (with_reducible refine (HLI.out _ HR.out.lw.land).mono ?_); rintro r wn ⟨rfl, hb⟩; have HRn := hid (HR.out.stays hb); clear hb c0 c1 c2 c3 c4 hz rz r0 r1 f0 f1 k0 kz HR; have HR := HRn; clear HRn; have c0 := HR.out.lw.c0; have c1 := HR.out.lw.c1; have c2 := HR.out.lw.c2; have c3 := HR.out.lw.c3; have c4 := HR.out.lw.c4; have hz := HR.out.lw.size; have rz := heap_lt HR.out.res; have r0 := cell_of_row _ _ 0 _ _ _ HR.out.res; have r1 := cell_of_row _ _ 1 _ _ _ HR.out.res; have f0 := frozen_of_row _ _ 0 _ _ HR.out.res; have f1 := frozen_of_row _ _ 1 _ _ HR.out.res; simp only [List.getElem?_toArray, List.getElem?_cons_zero, List.getElem?_cons_succ] at r0 r1; have k0 := kat HR.out.lw.kinds hum; rw [← HZ.out] at k0; have kz := kat_lt HR.out.lw.kinds hum))
      have k3 := set2 HR.out.res (.slice none 0 0) (.slice none 0 0)
      have k4 := set2_below (g := w.heap.size + 2) HR.out.lw.below (by omega) (.slice none 0 0) (.slice none 0 0)
      clear c0 c1 c2 c3 c4 hz rz r0 r1 f0 f1
      generalize World.setCell _ _ _ = w5 at k3 k4 ⊢
      have q0 := cell_of_row w5 _ 0 _ _ _ k3
      have q1 := cell_of_row w5 _ 1 _ _ _ k3
      simp only [List.getElem?_toArray, List.getElem?_cons_zero, List.getElem?_cons_succ] at q0 q1
      exact bodyPost_ret (v := .tuple #[.agg #[.slice none 0 0, .slice none 0 0], .int .i64 0, .int .i64 e]) (by simp [results, Try.results19, go_sem, q0, q1]) rfl (wto_zero k4)

set_option maxRecDepth 20000 in
set_option maxHeartbeats 1600000 in
theorem refdig_ok (W' H' : Nat) (ao ko bo : Option Addr) (n cap m kcap q bcap : Nat) (Z K Y : Nat → Int) (hn : n ≤ 4000) (hq : q ≤ 4000) (hg : Good W' H' n Z) (hf : Fine W' H' m q Z K Y) (u : Nat) (k : Int) (h : DErr W' H' Z K u k 0) (w : World) (hI : Ints w ao n Z) (hK : Ints w ko m K) (hY : Ints w bo q Y) :
    Calls Try.prog 19 #[lv W' H' (.slice ao n cap), .agg #[.slice ko m kcap, .slice bo q bcap], .int .i64 u, .int .i64 k] w (WtO m q (upK K u k) Y (costK k) 0 w) := by
  have hsd := hg.side
  have hsm := mul_small hsd.2.1 hsd.2.2.2
  have hlen := hf.len
  have hm2 : m ≤ 1024 := by omega
  have hW32 : W' ≤ 32 := hsd.2.1
  have hH32 : H' ≤ 32 := hsd.2.2.2
  have HE := hid (hg.werr hf.err)
  have HUM := hid (fun (u : Nat) (h : u < W' * H') => show u < m by omega)
  have HLEN := hid hlen
  have HG := hid hg
  have HF := hid hf
  clear hg hf hsd hsm hlen
  obtain ⟨v, e, hu, hk, h, he⟩ := h.ok
  obtain rfl : u = v := by omega
  have HTI := hid (refIs_to W' H' hW32 hH32 (.slice ao n cap) u true (tile_yes hu))
  have hum : u < m := HUM.out u hu
  have hut : (u : Int) < (m : Int) := by omega
  obtain ⟨z, hz0⟩ : ∃ z, z = K u := ⟨_, rfl⟩
  have HZ := hid hz0
  obtain ⟨kb, koff, rfl, _, _⟩ := hK u hum
  have HR := hid (LR.start (W := W') (H := H') (cap := cap) (kcap := kcap) (bcap := bcap) hI hK hY)
  have HLI := hid (fun w hI => lies_any W' H' ao n cap Z HG.out u hu k 0 (he.symm.trans (rflt_flt (by omega)).symm) w hI)
  have hzz : z = 0 := hz0.trans h
  subst hzz
  clear hz0 h he hu hW32 hH32 hI hK hY e
  rcases (show k = 1 ∨ k = 2 ∨ k = 3 by omega) with rfl | rfl | rfl
  · rw [show costK 1 = 500 from rfl]
    clear hk
    go_enter Try.func19, Try.ntmps19
    go_upto_region 1 with fail
    generalize World.alloc _ _ = wl at HR ⊢
    have c0 := HR.out.lw.c0
    have c1 := HR.out.lw.c1
    have c2 := HR.out.lw.c2
    have c3 := HR.out.lw.c3
    have c4 := HR.out.lw.c4
    have hz := HR.out.lw.size
    have rz := heap_lt HR.out.res
    have r0 := cell_of_row _ _ 0 _ _ _ HR.out.res
    have r1 := cell_of_row _ _ 1 _ _ _ HR.out.res
    have f0 := frozen_of_row _ _ 0 _ _ HR.out.res
    have f1 := frozen_of_row _ _ 1 _ _ HR.out.res
    simp only [List.getElem?_toArray, List.getElem?_cons_zero, List.getElem?_cons_succ] at r0 r1
    have k0 := kat HR.out.lw.kinds hum
    rw [← HZ.out] at k0
    have kz := kat_lt HR.out.lw.kinds hum
    go_wp2_with (first | (go_at_call 17; (with_reducible refine (wrefvalidate_to W' H' ao (some ⟨kb, koff, none⟩) bo n cap m kcap q bcap Z K Y hn hq 0 HE.out _ HR.out.lw.land HR.out.lw.kinds HR.out.lw.buoys).mono ?_); rintro r wn ⟨rfl, hb⟩; have HRn := hid (HR.out.stays hb); clear hb c0 c1 c2 c3 c4 hz rz r0 r1 f0 f1 k0 kz HR; have HR := HRn; clear HRn; have c0 := HR.out.lw.c0; have c1 := HR.out.lw.c1; have c2 := HR.out.lw.c2; have c3 := HR.out.lw.c3; have c4 := HR.out.lw.c4; have hz := HR.out.lw.size; have rz := heap_lt HR.out.res; have r0 := cell_of_row _ _ 0 _ _ _ HR.out.res; have r1 := cell_of_row _ _ 1 _ _ _ HR.out.res; have f0 := frozen_of_row _ _ 0 _ _ HR.out.res; have f1 := frozen_of_row _ _ 1 _ _ HR.out.res; simp only [List.getElem?_toArray, List.getElem?_cons_zero, List.getElem?_cons_succ] at r0 r1; have k0 := kat HR.out.lw.kinds hum; rw [← HZ.out] at k0; have kz := kat_lt HR.out.lw.kinds hum) | (go_at_call 37; (with_reducible refine (HTI.out _).mono ?_); rintro r wn ⟨rfl, hb⟩; have HRn := hid (HR.out.stays hb); clear hb c0 c1 c2 c3 c4 hz rz r0 r1 f0 f1 k0 kz HR; have HR := HRn; clear HRn; have c0 := HR.out.lw.c0; have c1 := HR.out.lw.c1; have c2 := HR.out.lw.c2; have c3 := HR.out.lw.c3; have c4 := HR.out.lw.c4; have hz := HR.out.lw.size; have rz := heap_lt HR.out.res; have r0 := cell_of_row _ _ 0 _ _ _ HR.out.res; have r1 := cell_of_row _ _ 1 _ _ _ HR.out.res; have f0 := frozen_of_row _ _ 0 _ _ HR.out.res; have f1 := frozen_of_row _ _ 1 _ _ HR.out.res; simp only [List.getElem?_toArray, List.getElem?_cons_zero, List.getElem?_cons_succ] at r0 r1; have k0 := kat HR.out.lw.kinds hum; rw [← HZ.out] at k0; have kz := kat_lt HR.out.lw.kinds hum) | (go_at_call 42; (with_reducible refine (HLI.out _ HR.out.lw.land).mono ?_); rintro r wn ⟨rfl, hb⟩; have HRn := hid (HR.out.stays hb); clear hb c0 c1 c2 c3 c4 hz rz r0 r1 f0 f1 k0 kz HR; have HR := HRn; clear HRn; have c0 := HR.out.lw.c0; have c1 := HR.out.lw.c1; have c2 := HR.out.lw.c2; have c3 := HR.out.lw.c3; have c4 := HR.out.lw.c4; have hz := HR.out.lw.size; have rz := heap_lt HR.out.res; have r0 := cell_of_row _ _ 0 _ _ _ HR.out.res; have r1 := cell_of_row _ _ 1 _ _ _ HR.out.res; have f0 := frozen_of_row _ _ 0 _ _ HR.out.res; have f1 := frozen_of_row _ _ 1 _ _ HR.out.res; simp only [List.getElem?_toArray, List.getElem?_cons_zero, List.getElem?_cons_succ] at r0 r1; have k0 := kat HR.out.lw.kinds hum; rw [← HZ.out] at k0; have kz := kat_lt HR.out.lw.kinds hum) | (go_at_call 49; (with_reducible refine (with_any (some ⟨kb, koff, none⟩) m kcap K bo q bcap Y (by omega) hq u hum 1 _ HR.out.lw.kinds HR.out.lw.buoys).mono ?_); rintro r wn ⟨xo, xc, yo, yc, rfl, hx, hy, hb⟩; have hx9 : w.heap.size + 2 < _ := rz; have HX := hid hx; have HYR := hid hy; clear hx hy; have HRn := hid (HR.out.stays hb); clear hb c0 c1 c2 c3 c4 hz rz r0 r1 f0 f1 k0 kz HR; have HR := HRn; clear HRn; have c0 := HR.out.lw.c0; have c1 := HR.out.lw.c1; have c2 := HR.out.lw.c2; have c3 := HR.out.lw.c3; have c4 := HR.out.lw.c4; have hz := HR.out.lw.size; have rz := heap_lt HR.out.res; have r0 := cell_of_row _ _ 0 _ _ _ HR.out.res; have r1 := cell_of_row _ _ 1 _ _ _ HR.out.res; have f0 := frozen_of_row _ _ 0 _ _ HR.out.res; have f1 := frozen_of_row _ _ 1 _ _ HR.out.res; simp only [List.getElem?_toArray, List.getElem?_cons_zero, List.getElem?_cons_succ] at r0 r1; have k0 := kat HR.out.lw.kinds hum; rw [← HZ.out] at k0; have kz := kat_lt HR.out.lw.kinds hum))
    have k3 := set2 HR.out.res (.slice xo m xc) (.slice yo q yc)
    have k4 := set2_below (g := w.heap.size + 2) HR.out.lw.below (by omega) (.slice xo m xc) (.slice yo q yc)
    have k5 := set2_row (g := w.heap.size + 2) HX.out (own_ne HX.out (a := ⟨w.heap.size + 2, 0, none⟩) hx9) (.slice xo m xc) (.slice yo q yc)
    have k6 := set2_row (g := w.heap.size + 2) HYR.out (own_ne HYR.out (a := ⟨w.heap.size + 2, 0, none⟩) hx9) (.slice xo m xc) (.slice yo q yc)
    clear c0 c1 c2 c3 c4 hz rz r0 r1 f0 f1
    generalize World.setCell _ _ _ = w5 at k3 k4 k5 k6 ⊢
    have q0 := cell_of_row w5 _ 0 _ _ _ k3
    have q1 := cell_of_row w5 _ 1 _ _ _ k3
    simp only [List.getElem?_toArray, List.getElem?_cons_zero, List.getElem?_cons_succ] at q0 q1
    exact bodyPost_ret (v := .tuple #[.agg #[.slice xo m xc, .slice yo q yc], .int .i64 500, .int .i64 0]) (by simp [results, Try.results19, go_sem, q0, q1]) rfl ⟨xo, xc, yo, yc, rfl, ints_of_vals k5, ints_of_vals k6, k4⟩
  · rw [show costK 2 = 2000 from rfl]
    clear hk
    go_enter Try.func19, Try.ntmps19
    go_upto_region 1 with fail
    generalize World.alloc _ _ = wl at HR ⊢
    have c0 := HR.out.lw.c0
    have c1 := HR.out.lw.c1
    have c2 := HR.out.lw.c2
    have c3 := HR.out.lw.c3
    have c4 := HR.out.lw.c4
    have hz := HR.out.lw.size
    have rz := heap_lt HR.out.res
    have r0 := cell_of_row _ _ 0 _ _ _ HR.out.res
    have r1 := cell_of_row _ _ 1 _ _ _ HR.out.res
    have f0 := frozen_of_row _ _ 0 _ _ HR.out.res
    have f1 := frozen_of_row _ _ 1 _ _ HR.out.res
    simp only [List.getElem?_toArray, List.getElem?_cons_zero, List.getElem?_cons_succ] at r0 r1
    have k0 := kat HR.out.lw.kinds hum
    rw [← HZ.out] at k0
    have kz := kat_lt HR.out.lw.kinds hum
    go_wp2_with (first | (go_at_call 17; (with_reducible refine (wrefvalidate_to W' H' ao (some ⟨kb, koff, none⟩) bo n cap m kcap q bcap Z K Y hn hq 0 HE.out _ HR.out.lw.land HR.out.lw.kinds HR.out.lw.buoys).mono ?_); rintro r wn ⟨rfl, hb⟩; have HRn := hid (HR.out.stays hb); clear hb c0 c1 c2 c3 c4 hz rz r0 r1 f0 f1 k0 kz HR; have HR := HRn; clear HRn; have c0 := HR.out.lw.c0; have c1 := HR.out.lw.c1; have c2 := HR.out.lw.c2; have c3 := HR.out.lw.c3; have c4 := HR.out.lw.c4; have hz := HR.out.lw.size; have rz := heap_lt HR.out.res; have r0 := cell_of_row _ _ 0 _ _ _ HR.out.res; have r1 := cell_of_row _ _ 1 _ _ _ HR.out.res; have f0 := frozen_of_row _ _ 0 _ _ HR.out.res; have f1 := frozen_of_row _ _ 1 _ _ HR.out.res; simp only [List.getElem?_toArray, List.getElem?_cons_zero, List.getElem?_cons_succ] at r0 r1; have k0 := kat HR.out.lw.kinds hum; rw [← HZ.out] at k0; have kz := kat_lt HR.out.lw.kinds hum) | (go_at_call 37; (with_reducible refine (HTI.out _).mono ?_); rintro r wn ⟨rfl, hb⟩; have HRn := hid (HR.out.stays hb); clear hb c0 c1 c2 c3 c4 hz rz r0 r1 f0 f1 k0 kz HR; have HR := HRn; clear HRn; have c0 := HR.out.lw.c0; have c1 := HR.out.lw.c1; have c2 := HR.out.lw.c2; have c3 := HR.out.lw.c3; have c4 := HR.out.lw.c4; have hz := HR.out.lw.size; have rz := heap_lt HR.out.res; have r0 := cell_of_row _ _ 0 _ _ _ HR.out.res; have r1 := cell_of_row _ _ 1 _ _ _ HR.out.res; have f0 := frozen_of_row _ _ 0 _ _ HR.out.res; have f1 := frozen_of_row _ _ 1 _ _ HR.out.res; simp only [List.getElem?_toArray, List.getElem?_cons_zero, List.getElem?_cons_succ] at r0 r1; have k0 := kat HR.out.lw.kinds hum; rw [← HZ.out] at k0; have kz := kat_lt HR.out.lw.kinds hum) | (go_at_call 42; (with_reducible refine (HLI.out _ HR.out.lw.land).mono ?_); rintro r wn ⟨rfl, hb⟩; have HRn := hid (HR.out.stays hb); clear hb c0 c1 c2 c3 c4 hz rz r0 r1 f0 f1 k0 kz HR; have HR := HRn; clear HRn; have c0 := HR.out.lw.c0; have c1 := HR.out.lw.c1; have c2 := HR.out.lw.c2; have c3 := HR.out.lw.c3; have c4 := HR.out.lw.c4; have hz := HR.out.lw.size; have rz := heap_lt HR.out.res; have r0 := cell_of_row _ _ 0 _ _ _ HR.out.res; have r1 := cell_of_row _ _ 1 _ _ _ HR.out.res; have f0 := frozen_of_row _ _ 0 _ _ HR.out.res; have f1 := frozen_of_row _ _ 1 _ _ HR.out.res; simp only [List.getElem?_toArray, List.getElem?_cons_zero, List.getElem?_cons_succ] at r0 r1; have k0 := kat HR.out.lw.kinds hum; rw [← HZ.out] at k0; have kz := kat_lt HR.out.lw.kinds hum) | (go_at_call 49; (with_reducible refine (with_any (some ⟨kb, koff, none⟩) m kcap K bo q bcap Y (by omega) hq u hum 2 _ HR.out.lw.kinds HR.out.lw.buoys).mono ?_); rintro r wn ⟨xo, xc, yo, yc, rfl, hx, hy, hb⟩; have hx9 : w.heap.size + 2 < _ := rz; have HX := hid hx; have HYR := hid hy; clear hx hy; have HRn := hid (HR.out.stays hb); clear hb c0 c1 c2 c3 c4 hz rz r0 r1 f0 f1 k0 kz HR; have HR := HRn; clear HRn; have c0 := HR.out.lw.c0; have c1 := HR.out.lw.c1; have c2 := HR.out.lw.c2; have c3 := HR.out.lw.c3; have c4 := HR.out.lw.c4; have hz := HR.out.lw.size; have rz := heap_lt HR.out.res; have r0 := cell_of_row _ _ 0 _ _ _ HR.out.res; have r1 := cell_of_row _ _ 1 _ _ _ HR.out.res; have f0 := frozen_of_row _ _ 0 _ _ HR.out.res; have f1 := frozen_of_row _ _ 1 _ _ HR.out.res; simp only [List.getElem?_toArray, List.getElem?_cons_zero, List.getElem?_cons_succ] at r0 r1; have k0 := kat HR.out.lw.kinds hum; rw [← HZ.out] at k0; have kz := kat_lt HR.out.lw.kinds hum))
    have k3 := set2 HR.out.res (.slice xo m xc) (.slice yo q yc)
    have k4 := set2_below (g := w.heap.size + 2) HR.out.lw.below (by omega) (.slice xo m xc) (.slice yo q yc)
    have k5 := set2_row (g := w.heap.size + 2) HX.out (own_ne HX.out (a := ⟨w.heap.size + 2, 0, none⟩) hx9) (.slice xo m xc) (.slice yo q yc)
    have k6 := set2_row (g := w.heap.size + 2) HYR.out (own_ne HYR.out (a := ⟨w.heap.size + 2, 0, none⟩) hx9) (.slice xo m xc) (.slice yo q yc)
    clear c0 c1 c2 c3 c4 hz rz r0 r1 f0 f1
    generalize World.setCell _ _ _ = w5 at k3 k4 k5 k6 ⊢
    have q0 := cell_of_row w5 _ 0 _ _ _ k3
    have q1 := cell_of_row w5 _ 1 _ _ _ k3
    simp only [List.getElem?_toArray, List.getElem?_cons_zero, List.getElem?_cons_succ] at q0 q1
    exact bodyPost_ret (v := .tuple #[.agg #[.slice xo m xc, .slice yo q yc], .int .i64 2000, .int .i64 0]) (by simp [results, Try.results19, go_sem, q0, q1]) rfl ⟨xo, xc, yo, yc, rfl, ints_of_vals k5, ints_of_vals k6, k4⟩
  · rw [show costK 3 = 1000 from rfl]
    clear hk
    go_enter Try.func19, Try.ntmps19
    go_upto_region 1 with fail
    generalize World.alloc _ _ = wl at HR ⊢
    have c0 := HR.out.lw.c0
    have c1 := HR.out.lw.c1
    have c2 := HR.out.lw.c2
    have c3 := HR.out.lw.c3
    have c4 := HR.out.lw.c4
    have hz := HR.out.lw.size
    have rz := heap_lt HR.out.res
    have r0 := cell_of_row _ _ 0 _ _ _ HR.out.res
    have r1 := cell_of_row _ _ 1 _ _ _ HR.out.res
    have f0 := frozen_of_row _ _ 0 _ _ HR.out.res
    have f1 := frozen_of_row _ _ 1 _ _ HR.out.res
    simp only [List.getElem?_toArray, List.getElem?_cons_zero, List.getElem?_cons_succ] at r0 r1
    have k0 := kat HR.out.lw.kinds hum
    rw [← HZ.out] at k0
    have kz := kat_lt HR.out.lw.kinds hum
    go_wp2_with (first | (go_at_call 17; (with_reducible refine (wrefvalidate_to W' H' ao (some ⟨kb, koff, none⟩) bo n cap m kcap q bcap Z K Y hn hq 0 HE.out _ HR.out.lw.land HR.out.lw.kinds HR.out.lw.buoys).mono ?_); rintro r wn ⟨rfl, hb⟩; have HRn := hid (HR.out.stays hb); clear hb c0 c1 c2 c3 c4 hz rz r0 r1 f0 f1 k0 kz HR; have HR := HRn; clear HRn; have c0 := HR.out.lw.c0; have c1 := HR.out.lw.c1; have c2 := HR.out.lw.c2; have c3 := HR.out.lw.c3; have c4 := HR.out.lw.c4; have hz := HR.out.lw.size; have rz := heap_lt HR.out.res; have r0 := cell_of_row _ _ 0 _ _ _ HR.out.res; have r1 := cell_of_row _ _ 1 _ _ _ HR.out.res; have f0 := frozen_of_row _ _ 0 _ _ HR.out.res; have f1 := frozen_of_row _ _ 1 _ _ HR.out.res; simp only [List.getElem?_toArray, List.getElem?_cons_zero, List.getElem?_cons_succ] at r0 r1; have k0 := kat HR.out.lw.kinds hum; rw [← HZ.out] at k0; have kz := kat_lt HR.out.lw.kinds hum) | (go_at_call 37; (with_reducible refine (HTI.out _).mono ?_); rintro r wn ⟨rfl, hb⟩; have HRn := hid (HR.out.stays hb); clear hb c0 c1 c2 c3 c4 hz rz r0 r1 f0 f1 k0 kz HR; have HR := HRn; clear HRn; have c0 := HR.out.lw.c0; have c1 := HR.out.lw.c1; have c2 := HR.out.lw.c2; have c3 := HR.out.lw.c3; have c4 := HR.out.lw.c4; have hz := HR.out.lw.size; have rz := heap_lt HR.out.res; have r0 := cell_of_row _ _ 0 _ _ _ HR.out.res; have r1 := cell_of_row _ _ 1 _ _ _ HR.out.res; have f0 := frozen_of_row _ _ 0 _ _ HR.out.res; have f1 := frozen_of_row _ _ 1 _ _ HR.out.res; simp only [List.getElem?_toArray, List.getElem?_cons_zero, List.getElem?_cons_succ] at r0 r1; have k0 := kat HR.out.lw.kinds hum; rw [← HZ.out] at k0; have kz := kat_lt HR.out.lw.kinds hum) | (go_at_call 42; (with_reducible refine (HLI.out _ HR.out.lw.land).mono ?_); rintro r wn ⟨rfl, hb⟩; have HRn := hid (HR.out.stays hb); clear hb c0 c1 c2 c3 c4 hz rz r0 r1 f0 f1 k0 kz HR; have HR := HRn; clear HRn; have c0 := HR.out.lw.c0; have c1 := HR.out.lw.c1; have c2 := HR.out.lw.c2; have c3 := HR.out.lw.c3; have c4 := HR.out.lw.c4; have hz := HR.out.lw.size; have rz := heap_lt HR.out.res; have r0 := cell_of_row _ _ 0 _ _ _ HR.out.res; have r1 := cell_of_row _ _ 1 _ _ _ HR.out.res; have f0 := frozen_of_row _ _ 0 _ _ HR.out.res; have f1 := frozen_of_row _ _ 1 _ _ HR.out.res; simp only [List.getElem?_toArray, List.getElem?_cons_zero, List.getElem?_cons_succ] at r0 r1; have k0 := kat HR.out.lw.kinds hum; rw [← HZ.out] at k0; have kz := kat_lt HR.out.lw.kinds hum) | (go_at_call 49; (with_reducible refine (with_any (some ⟨kb, koff, none⟩) m kcap K bo q bcap Y (by omega) hq u hum 3 _ HR.out.lw.kinds HR.out.lw.buoys).mono ?_); rintro r wn ⟨xo, xc, yo, yc, rfl, hx, hy, hb⟩; have hx9 : w.heap.size + 2 < _ := rz; have HX := hid hx; have HYR := hid hy; clear hx hy; have HRn := hid (HR.out.stays hb); clear hb c0 c1 c2 c3 c4 hz rz r0 r1 f0 f1 k0 kz HR; have HR := HRn; clear HRn; have c0 := HR.out.lw.c0; have c1 := HR.out.lw.c1; have c2 := HR.out.lw.c2; have c3 := HR.out.lw.c3; have c4 := HR.out.lw.c4; have hz := HR.out.lw.size; have rz := heap_lt HR.out.res; have r0 := cell_of_row _ _ 0 _ _ _ HR.out.res; have r1 := cell_of_row _ _ 1 _ _ _ HR.out.res; have f0 := frozen_of_row _ _ 0 _ _ HR.out.res; have f1 := frozen_of_row _ _ 1 _ _ HR.out.res; simp only [List.getElem?_toArray, List.getElem?_cons_zero, List.getElem?_cons_succ] at r0 r1; have k0 := kat HR.out.lw.kinds hum; rw [← HZ.out] at k0; have kz := kat_lt HR.out.lw.kinds hum))
    have k3 := set2 HR.out.res (.slice xo m xc) (.slice yo q yc)
    have k4 := set2_below (g := w.heap.size + 2) HR.out.lw.below (by omega) (.slice xo m xc) (.slice yo q yc)
    have k5 := set2_row (g := w.heap.size + 2) HX.out (own_ne HX.out (a := ⟨w.heap.size + 2, 0, none⟩) hx9) (.slice xo m xc) (.slice yo q yc)
    have k6 := set2_row (g := w.heap.size + 2) HYR.out (own_ne HYR.out (a := ⟨w.heap.size + 2, 0, none⟩) hx9) (.slice xo m xc) (.slice yo q yc)
    clear c0 c1 c2 c3 c4 hz rz r0 r1 f0 f1
    generalize World.setCell _ _ _ = w5 at k3 k4 k5 k6 ⊢
    have q0 := cell_of_row w5 _ 0 _ _ _ k3
    have q1 := cell_of_row w5 _ 1 _ _ _ k3
    simp only [List.getElem?_toArray, List.getElem?_cons_zero, List.getElem?_cons_succ] at q0 q1
    exact bodyPost_ret (v := .tuple #[.agg #[.slice xo m xc, .slice yo q yc], .int .i64 1000, .int .i64 0]) (by simp [results, Try.results19, go_sem, q0, q1]) rfl ⟨xo, xc, yo, yc, rfl, ints_of_vals k5, ints_of_vals k6, k4⟩

theorem refdig_to (W H : Int) (ao ko bo : Option Addr) (n cap m kcap q bcap : Nat) (Z K Y : Nat → Int) (hn : n ≤ 4000) (hq : q ≤ 4000) (t k : Int) {m' q' : Nat} {K' Y' : Nat → Int} {c e : Int} (h : DOut W H n m q Z K Y t k m' q' K' Y' c e) (w : World) (hI : Ints w ao n Z) (hK : Ints w ko m K) (hY : Ints w bo q Y) :
    Calls Try.prog 19 #[lv W H (.slice ao n cap), .agg #[.slice ko m kcap, .slice bo q bcap], .int .i64 t, .int .i64 k] w (WtO m' q' K' Y' c e w) := by
  rcases h with ⟨h0, ⟨rfl, rfl, rfl, rfl, rfl⟩, h | ⟨W', H', rfl, rfl, hg, hf, h⟩⟩ | ⟨rfl, W', H', u, rfl, rfl, hg, hf, rfl, h, rfl, rfl, rfl, rfl, rfl⟩
  · exact refdig_no W H ao ko bo n cap m kcap q bcap Z K Y hn hq t k e h h0 w hI hK hY
  · exact refdig_err W' H' ao ko bo n cap m kcap q bcap Z K Y hn hq hg hf t k e h h0 w hI hK hY
  · exact refdig_ok W' H' ao ko bo n cap m' kcap q' bcap Z K Y' hn hq hg hf u k h w hI hK hY
end Go.Proofs.Ytkpnngpnjimogaa
