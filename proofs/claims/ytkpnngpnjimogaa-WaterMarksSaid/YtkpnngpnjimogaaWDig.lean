/-
  The walk of Dig of the program.
-/
import Derived.Test.YtkpnngpnjimogaaWDigM
namespace Go.Proofs.Ytkpnngpnjimogaa
open Go.RowKit

set_option maxRecDepth 20000 in
set_option maxHeartbeats 1600000 in
theorem dig_no (W H : Int) (ao ko bo : Option Addr) (n cap m kcap q bcap : Nat) (Z K Y : Nat → Int) (hn : n ≤ 4000) (hq : q ≤ 4000) (t k : Int) (e : Int) (h : WErr W H n m q Z K Y e) (h0 : e ≠ 0) (w : World) (hI : Ints w ao n Z) (hK : Ints w ko m K) (hY : Ints w bo q Y) :
    Calls Try.prog 18 #[lv W H (.slice ao n cap), .agg #[.slice ko m kcap, .slice bo q bcap], .int .i64 t, .int .i64 k] w (WtO 0 0 (fun _ => 0) (fun _ => 0) 0 e w) := by
  have HR := hid (LR.start (W := W) (H := H) (cap := cap) (kcap := kcap) (bcap := bcap) hI hK hY)
  have HE := hid h
  have H0 := hid h0
  have g1 : (e == 0) = false := by rw [beq_eq_false_iff_ne]; exact h0
  have g2 : (e != 0) = true := by simp [h0]
  clear hI hK hY h h0
  go_enter Try.func18, Try.ntmps18
  go_upto_region 2 with (go_at_call 40; (refine (survey_no W H ao ko bo n cap m kcap q bcap Z K Y hn hq e HE.out H0.out _ HR.out.lw.land HR.out.lw.kinds HR.out.lw.buoys).mono ?_); rintro r w1 ⟨rfl, hb⟩; have HB1 := hid (HR.out.stays hb); have HB := hid (HB1.out.stays (Joins.below_alloc1 w1 (.cells #[.int .i64 0, .int .i64 0, .slice none 0 0, .slice none 0 0, .slice none 0 0, .map none] 52))); clear hb)
  clear HB1
  generalize World.alloc w1 _ = wx at HB ⊢
  have rz := heap_lt HB.out.res
  have r0 := cell_of_row _ _ 0 _ _ _ HB.out.res
  have r1 := cell_of_row _ _ 1 _ _ _ HB.out.res
  have f0 := frozen_of_row _ _ 0 _ _ HB.out.res
  have f1 := frozen_of_row _ _ 1 _ _ HB.out.res
  simp only [List.getElem?_toArray, List.getElem?_cons_zero, List.getElem?_cons_succ] at r0 r1
  go_wp2_with fail
  have k3 := set2 HB.out.res (.slice none 0 0) (.slice none 0 0)
  have k4 := set2_below (g := w.heap.size + 2) HB.out.lw.below (by omega) (.slice none 0 0) (.slice none 0 0)
  clear r0 r1 f0 f1 rz
  generalize World.setCell _ _ _ = w5 at k3 k4 ⊢
  have q0 := cell_of_row w5 _ 0 _ _ _ k3
  have q1 := cell_of_row w5 _ 1 _ _ _ k3
  simp only [List.getElem?_toArray, List.getElem?_cons_zero, List.getElem?_cons_succ] at q0 q1
  exact bodyPost_ret (v := .tuple #[.agg #[.slice none 0 0, .slice none 0 0], .int .i64 0, .int .i64 e]) (by simp [results, Try.results18, go_sem, q0, q1]) rfl (wto_zero k4)

set_option maxRecDepth 20000 in
set_option maxHeartbeats 1600000 in
theorem dig_err (d : Wat) (hg : Good d.W d.H d.n d.Z) (hf : Fine d.W d.H d.m d.q d.Z d.K d.Y) (hq : d.q ≤ 4000) (t k e : Int) (h : DErr d.W d.H d.Z d.K t k e) (h0 : e ≠ 0) (w : World) (hl : Ints w (some ⟨d.ab, d.aoff, none⟩) d.n d.Z) (hk : Ints w (some ⟨d.kb, d.koff, none⟩) d.m d.K) (hb : Ints w d.bo d.q d.Y) :
    Calls Try.prog 18 #[d.lnd, d.wts, .int .i64 t, .int .i64 k] w (WtO 0 0 (fun _ => 0) (fun _ => 0) 0 e w) := by
  have HR := hid (LR.start (W := d.W) (H := d.H) (cap := d.cap) (kcap := d.kcap) (bcap := d.bcap) hl hk hb)
  have hsd := hg.side
  have hsm := mul_small hsd.2.1 hsd.2.2.2
  have hlen := hf.len
  have hm2 : d.m ≤ 1024 := by omega
  have hW32 : d.W ≤ 32 := hsd.2.1
  have hH32 : d.H ≤ 32 := hsd.2.2.2
  have HG := hid hg
  have HF := hid hf
  have HUM := hid (fun (u : Nat) (h : u < d.W * d.H) => show u < d.m by omega)
  clear hl hk hb hg hf hsd hsm hlen
  rcases h with ⟨rfl, h⟩ | ⟨rfl, ht, hk⟩ | ⟨u, rfl, hu, hk, h⟩
  · have HTI := hid (cisTile_to d hW32 hH32 t false h)
    clear h0 h hW32 hH32
    go_enter Try.func18, Try.ntmps18
    go_upto_region 2 with (go_at_call 40; (refine (survey_yes d HG.out HF.out hq _ HR.out.lw.land HR.out.lw.kinds HR.out.lw.buoys).mono ?_); rintro r w1 ⟨M, rfl, hb, hM, hC⟩; have HD := hid (DG.start HR.out hb hM hC); clear hb hM hC)
    generalize World.alloc _ _ = wt1 at HD ⊢
    have c0 := HD.out.tb.cb.c0
    have c1 := HD.out.tb.cb.c1
    have c2 := HD.out.tb.cb.c2
    have c3 := HD.out.tb.cb.c3
    have c4 := HD.out.tb.cb.c4
    have c5 := HD.out.tb.cb.c5
    have hz := HD.out.tb.cb.size
    have a3 : _ = some (Value.slice (some ⟨d.kb, d.koff, none⟩) d.m d.kcap) := HD.out.tb.a3
    have a4 : _ = some (Value.slice d.bo d.q d.bcap) := HD.out.tb.a4
    have rz := heap_lt HD.out.res
    have r0 := cell_of_row _ _ 0 _ _ _ HD.out.res
    have r1 := cell_of_row _ _ 1 _ _ _ HD.out.res
    have f0 := frozen_of_row _ _ 0 _ _ HD.out.res
    have f1 := frozen_of_row _ _ 1 _ _ HD.out.res
    simp only [List.getElem?_toArray, List.getElem?_cons_zero, List.getElem?_cons_succ] at r0 r1
    go_wp2_with (go_at_call 44; (with_reducible refine (HTI.out _ _).mono ?_); rintro r wn ⟨rfl, hb⟩; have HDn := hid (HD.out.go hb); clear hb c0 c1 c2 c3 c4 c5 hz a3 a4 rz r0 r1 f0 f1 HD; have HD := HDn; clear HDn; have c0 := HD.out.tb.cb.c0; have c1 := HD.out.tb.cb.c1; have c2 := HD.out.tb.cb.c2; have c3 := HD.out.tb.cb.c3; have c4 := HD.out.tb.cb.c4; have c5 := HD.out.tb.cb.c5; have hz := HD.out.tb.cb.size; have a3 : _ = some (Value.slice (some ⟨d.kb, d.koff, none⟩) d.m d.kcap) := HD.out.tb.a3; have a4 : _ = some (Value.slice d.bo d.q d.bcap) := HD.out.tb.a4; have rz := heap_lt HD.out.res; have r0 := cell_of_row _ _ 0 _ _ _ HD.out.res; have r1 := cell_of_row _ _ 1 _ _ _ HD.out.res; have f0 := frozen_of_row _ _ 0 _ _ HD.out.res; have f1 := frozen_of_row _ _ 1 _ _ HD.out.res; simp only [List.getElem?_toArray, List.getElem?_cons_zero, List.getElem?_cons_succ] at r0 r1)
    have k3 := set2 HD.out.res (.slice none 0 0) (.slice none 0 0)
    have k4 := set2_below (g := w.heap.size + 2) HD.out.tb.below (by omega) (.slice none 0 0) (.slice none 0 0)
    clear c0 c1 c2 c3 c4 c5 hz a3 a4 rz r0 r1 f0 f1
    generalize World.setCell _ _ _ = w5 at k3 k4 ⊢
    have q0 := cell_of_row w5 _ 0 _ _ _ k3
    have q1 := cell_of_row w5 _ 1 _ _ _ k3
    simp only [List.getElem?_toArray, List.getElem?_cons_zero, List.getElem?_cons_succ] at q0 q1
    exact bodyPost_ret (v := .tuple #[.agg #[.slice none 0 0, .slice none 0 0], .int .i64 0, .int .i64 2]) (by simp [results, Try.results18, go_sem, q0, q1]) rfl (wto_zero k4)
  · have HTI := hid (cisTile_to d hW32 hH32 t true ht)
    clear h0 ht hW32 hH32
    by_cases hk0 : k = 0
    · subst hk0
      clear hk
      go_enter Try.func18, Try.ntmps18
      go_upto_region 2 with (go_at_call 40; (refine (survey_yes d HG.out HF.out hq _ HR.out.lw.land HR.out.lw.kinds HR.out.lw.buoys).mono ?_); rintro r w1 ⟨M, rfl, hb, hM, hC⟩; have HD := hid (DG.start HR.out hb hM hC); clear hb hM hC)
      generalize World.alloc _ _ = wt1 at HD ⊢
      have c0 := HD.out.tb.cb.c0
      have c1 := HD.out.tb.cb.c1
      have c2 := HD.out.tb.cb.c2
      have c3 := HD.out.tb.cb.c3
      have c4 := HD.out.tb.cb.c4
      have c5 := HD.out.tb.cb.c5
      have hz := HD.out.tb.cb.size
      have a3 : _ = some (Value.slice (some ⟨d.kb, d.koff, none⟩) d.m d.kcap) := HD.out.tb.a3
      have a4 : _ = some (Value.slice d.bo d.q d.bcap) := HD.out.tb.a4
      have rz := heap_lt HD.out.res
      have r0 := cell_of_row _ _ 0 _ _ _ HD.out.res
      have r1 := cell_of_row _ _ 1 _ _ _ HD.out.res
      have f0 := frozen_of_row _ _ 0 _ _ HD.out.res
      have f1 := frozen_of_row _ _ 1 _ _ HD.out.res
      simp only [List.getElem?_toArray, List.getElem?_cons_zero, List.getElem?_cons_succ] at r0 r1
      go_wp2_with (go_at_call 44; (with_reducible refine (HTI.out _ _).mono ?_); rintro r wn ⟨rfl, hb⟩; have HDn := hid (HD.out.go hb); clear hb c0 c1 c2 c3 c4 c5 hz a3 a4 rz r0 r1 f0 f1 HD; have HD := HDn; clear HDn; have c0 := HD.out.tb.cb.c0; have c1 := HD.out.tb.cb.c1; have c2 := HD.out.tb.cb.c2; have c3 := HD.out.tb.cb.c3; have c4 := HD.out.tb.cb.c4; have c5 := HD.out.tb.cb.c5; have hz := HD.out.tb.cb.size; have a3 : _ = some (Value.slice (some ⟨d.kb, d.koff, none⟩) d.m d.kcap) := HD.out.tb.a3; have a4 : _ = some (Value.slice d.bo d.q d.bcap) := HD.out.tb.a4; have rz := heap_lt HD.out.res; have r0 := cell_of_row _ _ 0 _ _ _ HD.out.res; have r1 := cell_of_row _ _ 1 _ _ _ HD.out.res; have f0 := frozen_of_row _ _ 0 _ _ HD.out.res; have f1 := frozen_of_row _ _ 1 _ _ HD.out.res; simp only [List.getElem?_toArray, List.getElem?_cons_zero, List.getElem?_cons_succ] at r0 r1)
      have k3 := set2 HD.out.res (.slice none 0 0) (.slice none 0 0)
      have k4 := set2_below (g := w.heap.size + 2) HD.out.tb.below (by omega) (.slice none 0 0) (.slice none 0 0)
      clear c0 c1 c2 c3 c4 c5 hz a3 a4 rz r0 r1 f0 f1
      generalize World.setCell _ _ _ = w5 at k3 k4 ⊢
      have q0 := cell_of_row w5 _ 0 _ _ _ k3
      have q1 := cell_of_row w5 _ 1 _ _ _ k3
      simp only [List.getElem?_toArray, List.getElem?_cons_zero, List.getElem?_cons_succ] at q0 q1
      exact bodyPost_ret (v := .tuple #[.agg #[.slice none 0 0, .slice none 0 0], .int .i64 0, .int .i64 1]) (by simp [results, Try.results18, go_sem, q0, q1]) rfl (wto_zero k4)
    · have HKI := hid (fun w => isKind_any k false ⟨fun h => (by cases h), fun h => absurd h (by omega)⟩ w)
      have g1 : (k == 0) = false := by simpa using hk0
      clear hk
      go_enter Try.func18, Try.ntmps18
      go_upto_region 2 with (go_at_call 40; (refine (survey_yes d HG.out HF.out hq _ HR.out.lw.land HR.out.lw.kinds HR.out.lw.buoys).mono ?_); rintro r w1 ⟨M, rfl, hb, hM, hC⟩; have HD := hid (DG.start HR.out hb hM hC); clear hb hM hC)
      generalize World.alloc _ _ = wt1 at HD ⊢
      have c0 := HD.out.tb.cb.c0
      have c1 := HD.out.tb.cb.c1
      have c2 := HD.out.tb.cb.c2
      have c3 := HD.out.tb.cb.c3
      have c4 := HD.out.tb.cb.c4
      have c5 := HD.out.tb.cb.c5
      have hz := HD.out.tb.cb.size
      have a3 : _ = some (Value.slice (some ⟨d.kb, d.koff, none⟩) d.m d.kcap) := HD.out.tb.a3
      have a4 : _ = some (Value.slice d.bo d.q d.bcap) := HD.out.tb.a4
      have rz := heap_lt HD.out.res
      have r0 := cell_of_row _ _ 0 _ _ _ HD.out.res
      have r1 := cell_of_row _ _ 1 _ _ _ HD.out.res
      have f0 := frozen_of_row _ _ 0 _ _ HD.out.res
      have f1 := frozen_of_row _ _ 1 _ _ HD.out.res
      simp only [List.getElem?_toArray, List.getElem?_cons_zero, List.getElem?_cons_succ] at r0 r1
      go_wp2_with (first | (go_at_call 44; (with_reducible refine (HTI.out _ _).mono ?_); rintro r wn ⟨rfl, hb⟩; have HDn := hid (HD.out.go hb); clear hb c0 c1 c2 c3 c4 c5 hz a3 a4 rz r0 r1 f0 f1 HD; have HD := HDn; clear HDn; have c0 := HD.out.tb.cb.c0; have c1 := HD.out.tb.cb.c1; have c2 := HD.out.tb.cb.c2; have c3 := HD.out.tb.cb.c3; have c4 := HD.out.tb.cb.c4; have c5 := HD.out.tb.cb.c5; have hz := HD.out.tb.cb.size; have a3 : _ = some (Value.slice (some ⟨d.kb, d.koff, none⟩) d.m d.kcap) := HD.out.tb.a3; have a4 : _ = some (Value.slice d.bo d.q d.bcap) := HD.out.tb.a4; have rz := heap_lt HD.out.res; have r0 := cell_of_row _ _ 0 _ _ _ HD.out.res; have r1 := cell_of_row _ _ 1 _ _ _ HD.out.res; have f0 := frozen_of_row _ _ 0 _ _ HD.out.res; have f1 := frozen_of_row _ _ 1 _ _ HD.out.res; simp only [List.getElem?_toArray, List.getElem?_cons_zero, List.getElem?_cons_succ] at r0 r1) | (go_at_call 45; (with_reducible refine (HKI.out _).mono ?_); rintro r wn ⟨rfl, rfl⟩))
      have k3 := set2 HD.out.res (.slice none 0 0) (.slice none 0 0)
      have k4 := set2_below (g := w.heap.size + 2) HD.out.tb.below (by omega) (.slice none 0 0) (.slice none 0 0)
      clear c0 c1 c2 c3 c4 c5 hz a3 a4 rz r0 r1 f0 f1
      generalize World.setCell _ _ _ = w5 at k3 k4 ⊢
      have q0 := cell_of_row w5 _ 0 _ _ _ k3
      have q1 := cell_of_row w5 _ 1 _ _ _ k3
      simp only [List.getElem?_toArray, List.getElem?_cons_zero, List.getElem?_cons_succ] at q0 q1
      exact bodyPost_ret (v := .tuple #[.agg #[.slice none 0 0, .slice none 0 0], .int .i64 0, .int .i64 1]) (by simp [results, Try.results18, go_sem, q0, q1]) rfl (wto_zero k4)
  · have HTI := hid (cisTile_to d hW32 hH32 u true (tile_yes hu))
    have hum : u < d.m := HUM.out u hu
    have hut : (u : Int) < (d.m : Int) := by omega
    have hk0 : k ≠ 0 := by omega
    have g1 : (k == 0) = false := by simpa using hk0
    have HKI := hid (fun w => isKind_any k true ⟨fun _ => by omega, fun _ => rfl⟩ w)
    obtain ⟨z, hz0⟩ : ∃ z, z = d.K u := ⟨_, rfl⟩
    have HZ := hid hz0
    rcases h with ⟨rfl, h⟩ | ⟨h, he⟩
    · have g2 : (z == 0) = false := by rw [hz0]; simpa using h
      have g3 : (z != 0) = true := by rw [hz0]; simpa using h
      clear h0 hz0 h hk hk0 hu hW32 hH32
      go_enter Try.func18, Try.ntmps18
      go_upto_region 2 with (go_at_call 40; (refine (survey_yes d HG.out HF.out hq _ HR.out.lw.land HR.out.lw.kinds HR.out.lw.buoys).mono ?_); rintro r w1 ⟨M, rfl, hb, hM, hC⟩; have HD := hid (DG.start HR.out hb hM hC); clear hb hM hC)
      generalize World.alloc _ _ = wt1 at HD ⊢
      have c0 := HD.out.tb.cb.c0
      have c1 := HD.out.tb.cb.c1
      have c2 := HD.out.tb.cb.c2
      have c3 := HD.out.tb.cb.c3
      have c4 := HD.out.tb.cb.c4
      have c5 := HD.out.tb.cb.c5
      have hz := HD.out.tb.cb.size
      have a3 : _ = some (Value.slice (some ⟨d.kb, d.koff, none⟩) d.m d.kcap) := HD.out.tb.a3
      have a4 : _ = some (Value.slice d.bo d.q d.bcap) := HD.out.tb.a4
      have rz := heap_lt HD.out.res
      have r0 := cell_of_row _ _ 0 _ _ _ HD.out.res
      have r1 := cell_of_row _ _ 1 _ _ _ HD.out.res
      have f0 := frozen_of_row _ _ 0 _ _ HD.out.res
      have f1 := frozen_of_row _ _ 1 _ _ HD.out.res
      simp only [List.getElem?_toArray, List.getElem?_cons_zero, List.getElem?_cons_succ] at r0 r1
      obtain ⟨kb, koff, hke, hkz, k0⟩ := HD.out.tb.cb.cx.kinds u hum
      have hke' := Option.some.inj hke
      injection hke' with hk1 hk2
      subst hk1
      subst hk2
      clear hke
      rw [← HZ.out] at k0
      go_wp2_with (first | (go_at_call 44; (with_reducible refine (HTI.out _ _).mono ?_); rintro r wn ⟨rfl, hb⟩; have hkz0 := hkz; clear hkz; have hkz := Nat.lt_of_lt_of_le hkz0 hb.size; have k0n := (hb.cell (p := ⟨d.kb, d.koff + u, none⟩) hkz0).trans k0; clear k0 hkz0; have k0 := k0n; clear k0n; have HDn := hid (HD.out.go hb); clear hb c0 c1 c2 c3 c4 c5 hz a3 a4 rz r0 r1 f0 f1 HD; have HD := HDn; clear HDn; have c0 := HD.out.tb.cb.c0; have c1 := HD.out.tb.cb.c1; have c2 := HD.out.tb.cb.c2; have c3 := HD.out.tb.cb.c3; have c4 := HD.out.tb.cb.c4; have c5 := HD.out.tb.cb.c5; have hz := HD.out.tb.cb.size; have a3 : _ = some (Value.slice (some ⟨d.kb, d.koff, none⟩) d.m d.kcap) := HD.out.tb.a3; have a4 : _ = some (Value.slice d.bo d.q d.bcap) := HD.out.tb.a4; have rz := heap_lt HD.out.res; have r0 := cell_of_row _ _ 0 _ _ _ HD.out.res; have r1 := cell_of_row _ _ 1 _ _ _ HD.out.res; have f0 := frozen_of_row _ _ 0 _ _ HD.out.res; have f1 := frozen_of_row _ _ 1 _ _ HD.out.res; simp only [List.getElem?_toArray, List.getElem?_cons_zero, List.getElem?_cons_succ] at r0 r1) | (go_at_call 45; (with_reducible refine (HKI.out _).mono ?_); rintro r wn ⟨rfl, rfl⟩))
      have k3 := set2 HD.out.res (.slice none 0 0) (.slice none 0 0)
      have k4 := set2_below (g := w.heap.size + 2) HD.out.tb.below (by omega) (.slice none 0 0) (.slice none 0 0)
      clear c0 c1 c2 c3 c4 c5 hz a3 a4 rz r0 r1 f0 f1
      generalize World.setCell _ _ _ = w5 at k3 k4 ⊢
      have q0 := cell_of_row w5 _ 0 _ _ _ k3
      have q1 := cell_of_row w5 _ 1 _ _ _ k3
      simp only [List.getElem?_toArray, List.getElem?_cons_zero, List.getElem?_cons_succ] at q0 q1
      exact bodyPost_ret (v := .tuple #[.agg #[.slice none 0 0, .slice none 0 0], .int .i64 0, .int .i64 7]) (by simp [results, Try.results18, go_sem, q0, q1]) rfl (wto_zero k4)
    · have HFA := hid (fun M w hC => fault_any d HG.out M u hu k e he w hC)
      have hzz : z = 0 := hz0.trans h
      subst hzz
      have g2 : (e == 0) = false := by simpa using h0
      have g3 : (e != 0) = true := by simpa using h0
      clear h0 hz0 h hk hk0 he hu hW32 hH32
      go_enter Try.func18, Try.ntmps18
      go_upto_region 2 with (go_at_call 40; (refine (survey_yes d HG.out HF.out hq _ HR.out.lw.land HR.out.lw.kinds HR.out.lw.buoys).mono ?_); rintro r w1 ⟨M, rfl, hb, hM, hC⟩; have HD := hid (DG.start HR.out hb hM hC); clear hb hM hC)
      generalize World.alloc _ _ = wt1 at HD ⊢
      have c0 := HD.out.tb.cb.c0
      have c1 := HD.out.tb.cb.c1
      have c2 := HD.out.tb.cb.c2
      have c3 := HD.out.tb.cb.c3
      have c4 := HD.out.tb.cb.c4
      have c5 := HD.out.tb.cb.c5
      have hz := HD.out.tb.cb.size
      have a3 : _ = some (Value.slice (some ⟨d.kb, d.koff, none⟩) d.m d.kcap) := HD.out.tb.a3
      have a4 : _ = some (Value.slice d.bo d.q d.bcap) := HD.out.tb.a4
      have rz := heap_lt HD.out.res
      have r0 := cell_of_row _ _ 0 _ _ _ HD.out.res
      have r1 := cell_of_row _ _ 1 _ _ _ HD.out.res
      have f0 := frozen_of_row _ _ 0 _ _ HD.out.res
      have f1 := frozen_of_row _ _ 1 _ _ HD.out.res
      simp only [List.getElem?_toArray, List.getElem?_cons_zero, List.getElem?_cons_succ] at r0 r1
      obtain ⟨kb, koff, hke, hkz, k0⟩ := HD.out.tb.cb.cx.kinds u hum
      have hke' := Option.some.inj hke
      injection hke' with hk1 hk2
      subst hk1
      subst hk2
      clear hke
      rw [← HZ.out] at k0
      go_wp2_with (first | (go_at_call 44; (with_reducible refine (HTI.out _ _).mono ?_); rintro r wn ⟨rfl, hb⟩; have hkz0 := hkz; clear hkz; have hkz := Nat.lt_of_lt_of_le hkz0 hb.size; have k0n := (hb.cell (p := ⟨d.kb, d.koff + u, none⟩) hkz0).trans k0; clear k0 hkz0; have k0 := k0n; clear k0n; have HDn := hid (HD.out.go hb); clear hb c0 c1 c2 c3 c4 c5 hz a3 a4 rz r0 r1 f0 f1 HD; have HD := HDn; clear HDn; have c0 := HD.out.tb.cb.c0; have c1 := HD.out.tb.cb.c1; have c2 := HD.out.tb.cb.c2; have c3 := HD.out.tb.cb.c3; have c4 := HD.out.tb.cb.c4; have c5 := HD.out.tb.cb.c5; have hz := HD.out.tb.cb.size; have a3 : _ = some (Value.slice (some ⟨d.kb, d.koff, none⟩) d.m d.kcap) := HD.out.tb.a3; have a4 : _ = some (Value.slice d.bo d.q d.bcap) := HD.out.tb.a4; have rz := heap_lt HD.out.res; have r0 := cell_of_row _ _ 0 _ _ _ HD.out.res; have r1 := cell_of_row _ _ 1 _ _ _ HD.out.res; have f0 := frozen_of_row _ _ 0 _ _ HD.out.res; have f1 := frozen_of_row _ _ 1 _ _ HD.out.res; simp only [List.getElem?_toArray, List.getElem?_cons_zero, List.getElem?_cons_succ] at r0 r1) | (go_at_call 45; (with_reducible refine (HKI.out _).mono ?_); rintro r wn ⟨rfl, rfl⟩) | (go_at_call 46; (with_reducible refine (HFA.out _ _ HD.out.tb.cb.cx).mono ?_); rintro r wn ⟨rfl, hn⟩; have HDn := hid (HD.out.on hn); clear hn c0 c1 c2 c3 c4 c5 hz a3 a4 rz r0 r1 f0 f1 HD; have HD := HDn; clear HDn; have c0 := HD.out.tb.cb.c0; have c1 := HD.out.tb.cb.c1; have c2 := HD.out.tb.cb.c2; have c3 := HD.out.tb.cb.c3; have c4 := HD.out.tb.cb.c4; have c5 := HD.out.tb.cb.c5; have hz := HD.out.tb.cb.size; have a3 : _ = some (Value.slice (some ⟨d.kb, d.koff, none⟩) d.m d.kcap) := HD.out.tb.a3; have a4 : _ = some (Value.slice d.bo d.q d.bcap) := HD.out.tb.a4; have rz := heap_lt HD.out.res; have r0 := cell_of_row _ _ 0 _ _ _ HD.out.res; have r1 := cell_of_row _ _ 1 _ _ _ HD.out.res; have f0 := frozen_of_row _ _ 0 _ _ HD.out.res; have f1 := frozen_of_row _ _ 1 _ _ HD.out.res; simp only [List.getElem?_toArray, List.getElem?_cons_zero, List.getElem?_cons_succ] at r0 r1))
      have k3 := set2 HD.out.res (.slice none 0 0) (.slice none 0 0)
      have k4 := set2_below (g := w.heap.size + 2) HD.out.tb.below (by omega) (.slice none 0 0) (.slice none 0 0)
      clear c0 c1 c2 c3 c4 c5 hz a3 a4 rz r0 r1 f0 f1
      generalize World.setCell _ _ _ = w5 at k3 k4 ⊢
      have q0 := cell_of_row w5 _ 0 _ _ _ k3
      have q1 := cell_of_row w5 _ 1 _ _ _ k3
      simp only [List.getElem?_toArray, List.getElem?_cons_zero, List.getElem?_cons_succ] at q0 q1
      exact bodyPost_ret (v := .tuple #[.agg #[.slice none 0 0, .slice none 0 0], .int .i64 0, .int .i64 e]) (by simp [results, Try.results18, go_sem, q0, q1]) rfl (wto_zero k4)

set_option maxRecDepth 20000 in
set_option maxHeartbeats 1600000 in
theorem dig_ok (d : Wat) (hg : Good d.W d.H d.n d.Z) (hf : Fine d.W d.H d.m d.q d.Z d.K d.Y) (hq : d.q ≤ 4000) (u : Nat) (k : Int) (h : DErr d.W d.H d.Z d.K u k 0) (w : World) (hl : Ints w (some ⟨d.ab, d.aoff, none⟩) d.n d.Z) (hk : Ints w (some ⟨d.kb, d.koff, none⟩) d.m d.K) (hb : Ints w d.bo d.q d.Y) :
    Calls Try.prog 18 #[d.lnd, d.wts, .int .i64 u, .int .i64 k] w (WtO d.m d.q (upK d.K u k) d.Y (costK k) 0 w) := by
  have HR := hid (LR.start (W := d.W) (H := d.H) (cap := d.cap) (kcap := d.kcap) (bcap := d.bcap) hl hk hb)
  have hsd := hg.side
  have hsm := mul_small hsd.2.1 hsd.2.2.2
  have hlen := hf.len
  have hm2 : d.m ≤ 1024 := by omega
  have hW32 : d.W ≤ 32 := hsd.2.1
  have hH32 : d.H ≤ 32 := hsd.2.2.2
  have HG := hid hg
  have HF := hid hf
  have HUM := hid (fun (u : Nat) (h : u < d.W * d.H) => show u < d.m by omega)
  clear hl hk hb hg hf hsd hsm hlen
  obtain ⟨v, e, hu, hk, h, he⟩ := h.ok
  obtain rfl : u = v := by omega
  have HTI := hid (cisTile_to d hW32 hH32 u true (tile_yes hu))
  have hum : u < d.m := HUM.out u hu
  have hut : (u : Int) < (d.m : Int) := by omega
  have hk0 : k ≠ 0 := by omega
  have g1 : (k == 0) = false := by simpa using hk0
  have HKI := hid (fun w => isKind_any k true ⟨fun _ => by omega, fun _ => rfl⟩ w)
  obtain ⟨z, hz0⟩ : ∃ z, z = d.K u := ⟨_, rfl⟩
  have HZ := hid hz0
  have HFA := hid (fun M w hC => fault_any d HG.out M u hu k 0 he.symm w hC)
  have hzz : z = 0 := hz0.trans h
  subst hzz
  obtain ⟨cc, hcc⟩ : ∃ c, c = costK k := ⟨_, rfl⟩
  have HCC := hid (fun w => cost_any k w)
  rw [← hcc] at HCC ⊢
  clear hz0 h hk hk0 he e hcc hu hW32 hH32
  go_enter Try.func18, Try.ntmps18
  go_upto_region 2 with (go_at_call 40; (refine (survey_yes d HG.out HF.out hq _ HR.out.lw.land HR.out.lw.kinds HR.out.lw.buoys).mono ?_); rintro r w1 ⟨M, rfl, hb, hM, hC⟩; have HD := hid (DG.start HR.out hb hM hC); clear hb hM hC)
  generalize World.alloc _ _ = wt1 at HD ⊢
  have c0 := HD.out.tb.cb.c0
  have c1 := HD.out.tb.cb.c1
  have c2 := HD.out.tb.cb.c2
  have c3 := HD.out.tb.cb.c3
  have c4 := HD.out.tb.cb.c4
  have c5 := HD.out.tb.cb.c5
  have hz := HD.out.tb.cb.size
  have a3 : _ = some (Value.slice (some ⟨d.kb, d.koff, none⟩) d.m d.kcap) := HD.out.tb.a3
  have a4 : _ = some (Value.slice d.bo d.q d.bcap) := HD.out.tb.a4
  have rz := heap_lt HD.out.res
  have r0 := cell_of_row _ _ 0 _ _ _ HD.out.res
  have r1 := cell_of_row _ _ 1 _ _ _ HD.out.res
  have f0 := frozen_of_row _ _ 0 _ _ HD.out.res
  have f1 := frozen_of_row _ _ 1 _ _ HD.out.res
  simp only [List.getElem?_toArray, List.getElem?_cons_zero, List.getElem?_cons_succ] at r0 r1
  obtain ⟨kb, koff, hke, hkz, k0⟩ := HD.out.tb.cb.cx.kinds u hum
  have hke' := Option.some.inj hke
  injection hke' with hk1 hk2
  subst hk1
  subst hk2
  clear hke
  rw [← HZ.out] at k0
  go_wp2_with (first | (go_at_call 44; (with_reducible refine (HTI.out _ _).mono ?_); rintro r wn ⟨rfl, hb⟩; have hkz0 := hkz; clear hkz; have hkz := Nat.lt_of_lt_of_le hkz0 hb.size; have k0n := (hb.cell (p := ⟨d.kb, d.koff + u, none⟩) hkz0).trans k0; clear k0 hkz0; have k0 := k0n; clear k0n; have HDn := hid (HD.out.go hb); clear hb c0 c1 c2 c3 c4 c5 hz a3 a4 rz r0 r1 f0 f1 HD; have HD := HDn; clear HDn; have c0 := HD.out.tb.cb.c0; have c1 := HD.out.tb.cb.c1; have c2 := HD.out.tb.cb.c2; have c3 := HD.out.tb.cb.c3; have c4 := HD.out.tb.cb.c4; have c5 := HD.out.tb.cb.c5; have hz := HD.out.tb.cb.size; have a3 : _ = some (Value.slice (some ⟨d.kb, d.koff, none⟩) d.m d.kcap) := HD.out.tb.a3; have a4 : _ = some (Value.slice d.bo d.q d.bcap) := HD.out.tb.a4; have rz := heap_lt HD.out.res; have r0 := cell_of_row _ _ 0 _ _ _ HD.out.res; have r1 := cell_of_row _ _ 1 _ _ _ HD.out.res; have f0 := frozen_of_row _ _ 0 _ _ HD.out.res; have f1 := frozen_of_row _ _ 1 _ _ HD.out.res; simp only [List.getElem?_toArray, List.getElem?_cons_zero, List.getElem?_cons_succ] at r0 r1) | (go_at_call 45; (with_reducible refine (HKI.out _).mono ?_); rintro r wn ⟨rfl, rfl⟩) | (go_at_call 46; (with_reducible refine (HFA.out _ _ HD.out.tb.cb.cx).mono ?_); rintro r wn ⟨rfl, hn⟩; have HDn := hid (HD.out.on hn); clear hn c0 c1 c2 c3 c4 c5 hz a3 a4 rz r0 r1 f0 f1 HD; have HD := HDn; clear HDn; have c0 := HD.out.tb.cb.c0; have c1 := HD.out.tb.cb.c1; have c2 := HD.out.tb.cb.c2; have c3 := HD.out.tb.cb.c3; have c4 := HD.out.tb.cb.c4; have c5 := HD.out.tb.cb.c5; have hz := HD.out.tb.cb.size; have a3 : _ = some (Value.slice (some ⟨d.kb, d.koff, none⟩) d.m d.kcap) := HD.out.tb.a3; have a4 : _ = some (Value.slice d.bo d.q d.bcap) := HD.out.tb.a4; have rz := heap_lt HD.out.res; have r0 := cell_of_row _ _ 0 _ _ _ HD.out.res; have r1 := cell_of_row _ _ 1 _ _ _ HD.out.res; have f0 := frozen_of_row _ _ 0 _ _ HD.out.res; have f1 := frozen_of_row _ _ 1 _ _ HD.out.res; simp only [List.getElem?_toArray, List.getElem?_cons_zero, List.getElem?_cons_succ] at r0 r1) | (go_at_call 47; (with_reducible refine (rebuild_any (some ⟨d.kb, d.koff, none⟩) d.m d.kcap d.K d.bo d.q d.bcap d.Y (by omega) hq u hum k _ HD.out.tb.cb.cx.kinds HD.out.tb.cb.cx.buoys).mono ?_); rintro r wn ⟨xo, xc, yo, yc, rfl, hx, hy, hb⟩; have hx9 : w.heap.size + 2 < _ := rz; have HX := hid hx; have HY := hid hy; clear hx hy; have HDn := hid (HD.out.go hb); clear hb c0 c1 c2 c3 c4 c5 hz a3 a4 rz r0 r1 f0 f1 HD; have HD := HDn; clear HDn; have c0 := HD.out.tb.cb.c0; have c1 := HD.out.tb.cb.c1; have c2 := HD.out.tb.cb.c2; have c3 := HD.out.tb.cb.c3; have c4 := HD.out.tb.cb.c4; have c5 := HD.out.tb.cb.c5; have hz := HD.out.tb.cb.size; have a3 : _ = some (Value.slice (some ⟨d.kb, d.koff, none⟩) d.m d.kcap) := HD.out.tb.a3; have a4 : _ = some (Value.slice d.bo d.q d.bcap) := HD.out.tb.a4; have rz := heap_lt HD.out.res; have r0 := cell_of_row _ _ 0 _ _ _ HD.out.res; have r1 := cell_of_row _ _ 1 _ _ _ HD.out.res; have f0 := frozen_of_row _ _ 0 _ _ HD.out.res; have f1 := frozen_of_row _ _ 1 _ _ HD.out.res; simp only [List.getElem?_toArray, List.getElem?_cons_zero, List.getElem?_cons_succ] at r0 r1) | (go_at_call 48; (with_reducible refine (HCC.out _).mono ?_); rintro r wn ⟨rfl, rfl⟩))
  have k3 := set2 HD.out.res (.slice xo d.m xc) (.slice yo d.q yc)
  have k4 := set2_below (g := w.heap.size + 2) HD.out.tb.below (by omega) (.slice xo d.m xc) (.slice yo d.q yc)
  have k5 := set2_row (g := w.heap.size + 2) HX.out (own_ne HX.out (a := ⟨w.heap.size + 2, 0, none⟩) hx9) (.slice xo d.m xc) (.slice yo d.q yc)
  have k6 := set2_row (g := w.heap.size + 2) HY.out (own_ne HY.out (a := ⟨w.heap.size + 2, 0, none⟩) hx9) (.slice xo d.m xc) (.slice yo d.q yc)
  clear c0 c1 c2 c3 c4 c5 hz a3 a4 rz r0 r1 f0 f1
  generalize World.setCell _ _ _ = w5 at k3 k4 k5 k6 ⊢
  have q0 := cell_of_row w5 _ 0 _ _ _ k3
  have q1 := cell_of_row w5 _ 1 _ _ _ k3
  simp only [List.getElem?_toArray, List.getElem?_cons_zero, List.getElem?_cons_succ] at q0 q1
  exact bodyPost_ret (v := .tuple #[.agg #[.slice xo d.m xc, .slice yo d.q yc], .int .i64 cc, .int .i64 0]) (by simp [results, Try.results18, go_sem, q0, q1]) rfl ⟨xo, xc, yo, yc, rfl, ints_of_vals k5, ints_of_vals k6, k4⟩

theorem dig_to (W H : Int) (ao ko bo : Option Addr) (n cap m kcap q bcap : Nat) (Z K Y : Nat → Int) (hn : n ≤ 4000) (hq : q ≤ 4000) (t k : Int) {m' q' : Nat} {K' Y' : Nat → Int} {c e : Int} (h : DOut W H n m q Z K Y t k m' q' K' Y' c e) (w : World) (hI : Ints w ao n Z) (hK : Ints w ko m K) (hY : Ints w bo q Y) :
    Calls Try.prog 18 #[lv W H (.slice ao n cap), .agg #[.slice ko m kcap, .slice bo q bcap], .int .i64 t, .int .i64 k] w (WtO m' q' K' Y' c e w) := by
  rcases h with ⟨h0, ⟨rfl, rfl, rfl, rfl, rfl⟩, h | ⟨W', H', rfl, rfl, hg, hf, h⟩⟩ | ⟨rfl, W', H', u, rfl, rfl, hg, hf, rfl, h, rfl, rfl, rfl, rfl, rfl⟩
  · exact dig_no W H ao ko bo n cap m kcap q bcap Z K Y hn hq t k e h h0 w hI hK hY
  · obtain ⟨d, ⟨hW, hH, rfl, rfl, rfl⟩, ⟨rfl, rfl, rfl, rfl, rfl, rfl⟩, ⟨rfl, rfl, rfl⟩, hg', hf'⟩ := fine_wat cap kcap bcap (hg.werr hf.err) hI hK hY
    obtain rfl : W' = d.W := by omega
    obtain rfl : H' = d.H := by omega
    exact dig_err d hg' hf' hq t k e h h0 w hI hK hY
  · obtain ⟨d, ⟨hW, hH, rfl, rfl, rfl⟩, ⟨rfl, rfl, rfl, rfl, rfl, rfl⟩, ⟨rfl, rfl, rfl⟩, hg', hf'⟩ := fine_wat cap kcap bcap (hg.werr hf.err) hI hK hY
    obtain rfl : W' = d.W := by omega
    obtain rfl : H' = d.H := by omega
    exact dig_ok d hg' hf' hq u k h w hI hK hY
end Go.Proofs.Ytkpnngpnjimogaa
