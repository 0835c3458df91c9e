/-
  The walks of what a chart asks: look, level, wet, isTile, and their like.
-/
import Derived.Test.YtkpnngpnjimogaaWMap
import Derived.Test.YtkpnngpnjimogaaWLand
import Derived.Test.YtkpnngpnjimogaaWBey
import Derived.Deep.DeepCutAuto
namespace Go.Proofs.Ytkpnngpnjimogaa
open Go.RowKit

theorem gset0 {w : World} {g : Nat} {t : TypeId} {p q r : Value} (h : w.heap[g]? = some (.cells #[p, q, r] t (0, 0))) (a : Value) : (w.setCell ⟨g, 0, none⟩ a).heap[g]? = some (.cells #[a, q, r] t (0, 0)) := heap_setCell_same _ g 0 _ _ a h
theorem set_other {w : World} {g : Nat} {o : Obj} (h : w.heap[g]? = some o) {p : Addr} (hp : g ≠ p.block) (a : Value) : (w.setCell p a).heap[g]? = some o := (Below.heap_setCell _ _ _ _ hp).trans h
/-- What the memory of look is: the box of the chart, that of the result, that of the ground. -/
structure LB3 (d : Wat) (M : Nat) (rs gs : Array Value) (w wr : World) : Prop where
  nx : Nx d M w wr
  cx : Cx d M wr
  lt : M < w.heap.size
  b0 : wr.heap[w.heap.size]? = some (.cells #[.int .i64 d.W, .int .i64 d.H, d.as, d.ks, d.bs, .map (some M)] 52 (0, 0))
  b1 : wr.heap[w.heap.size + 1]? = some (.cells rs 64 (0, 0))
  b2 : wr.heap[w.heap.size + 2]? = some (.cells gs 64 (0, 0))
theorem LB3.on {d : Wat} {M : Nat} {rs gs : Array Value} {w wr w' : World} (h : LB3 d M rs gs w wr) (k : Nx d M wr w') : LB3 d M rs gs w w' :=
  ⟨h.nx.trans k, h.cx.nx k, h.lt, k.at h.lt (Nat.le_refl _) h.b0, k.at h.lt (by omega) h.b1, k.at h.lt (by omega) h.b2⟩
theorem LB3.start {d : Wat} {M : Nat} {w : World} (h : Cx d M w) (rs gs : Array Value) : LB3 d M rs gs w (((w.alloc (.cells #[.int .i64 d.W, .int .i64 d.H, d.as, d.ks, d.bs, .map (some M)] 52)).alloc (.cells rs 64)).alloc (.cells gs 64)) := by
  have k : Nx d M w (((w.alloc (.cells #[.int .i64 d.W, .int .i64 d.H, d.as, d.ks, d.bs, .map (some M)] 52)).alloc (.cells rs 64)).alloc (.cells gs 64)) :=
    h.go ((Joins.below_alloc2 _ _ _).alloc (by simp; omega) _)
  refine ⟨k, h.nx k, h.lt, ?_, ?_, ?_⟩
  · show (((w.heap.push _).push _).push _)[_]? = _
    rw [Array.getElem?_push, if_neg (by simp; omega), Array.getElem?_push, if_neg (by simp), Array.getElem?_push, if_pos rfl]
  · show (((w.heap.push _).push _).push _)[_]? = _
    rw [Array.getElem?_push, if_neg (by simp), Array.getElem?_push, if_pos (by simp)]
  · show (((w.heap.push _).push _).push _)[_]? = _
    rw [Array.getElem?_push, if_pos (by simp)]
theorem LB3.setg {d : Wat} {M : Nat} {rs gs : Array Value} {w wr : World} (h : LB3 d M rs gs w wr) (i : Nat) (v : Value) : LB3 d M rs (gs.setIfInBounds i v) w (wr.setCell ⟨w.heap.size + 2, i, none⟩ v) :=
  ⟨h.nx.set (by simp) (by have := h.lt; show M < w.heap.size + 2; omega) v, h.cx.set (by have := h.lt; show M < w.heap.size + 2; omega) v, h.lt, set_other h.b0 (by simp) v, set_other h.b1 (by simp) v, heap_setCell_same _ _ i _ _ v h.b2⟩

set_option maxHeartbeats 3200000 in
theorem look_any (d : Wat) (hg : Good d.W d.H d.n d.Z) (M u : Nat) (hu : u < d.W * d.H) (w : World) (hC : Cx d M w) :
    Calls Try.prog 51 #[d.cht M, .int .i64 u] w fun e w' => e = .returned (gnd d.W d.Z u) ∧ Nx d M w w' := by
  obtain ⟨hW1, hW2, hH1, hH2⟩ := hg.side
  have hs := mul_small hW2 hH2
  have hu2 : u ≤ 1024 := by omega
  have HC := hid hC
  have HG := hid hg
  have HU := hid hu
  have HS := hid hs
  obtain ⟨v, ok, hrun, hy, hn⟩ := (hC.gs.stays (Joins.below_alloc2 w (.cells #[.int .i64 d.W, .int .i64 d.H, d.as, d.ks, d.bs, .map (some M)] 52) (.cells #[.bool false, .int .i64 0, .int .i64 0] 64))).look (t := u) (by omega)
  clear hC hg hu hs
  cases ok with
  | true =>
    obtain rfl := hy rfl
    clear hy hn
    unfold gnd at hrun ⊢
    go_enter Try.func51, Try.ntmps51
    go_wp2_with fail
    exact bodyPost_ret (v := gv (sea d.W d.Z u) (gsl d.W d.Z u) (gba d.W d.Z u)) (by simp [results, Try.results51, go_sem]) rfl ⟨rfl, HC.out.go ((Joins.below_alloc2 _ _ _).alloc (by simp; omega) _)⟩
  | false =>
    obtain rfl := hn rfl
    clear hy hn
    obtain ⟨gr, hgr⟩ : ∃ g, g = gnd d.W d.Z u := ⟨_, rfl⟩
    rw [← hgr]
    have HGR := hid hgr
    clear hgr
    go_enter Try.func51, Try.ntmps51
    go_upto_region 4 with fail
    have H1 := hid (LB3.start HC.out #[.bool false, .int .i64 0, .int .i64 0] #[.bool false, .int .i64 0, .int .i64 0])
    clear hrun
    generalize World.alloc _ _ = w1 at H1 ⊢
    obtain ⟨A, hA⟩ : ∃ A, A = w.heap.size := ⟨_, rfl⟩
    have HA := hid hA
    simp only [← hA, Nat.add_assoc, Nat.reduceAdd] at H1 ⊢
    clear hA
    have c0 := cell_of_row w1 A 0 _ _ _ (by rw [HA.out]; exact H1.out.b0)
    have c1 := cell_of_row w1 A 1 _ _ _ (by rw [HA.out]; exact H1.out.b0)
    have c2 := cell_of_row w1 A 2 _ _ _ (by rw [HA.out]; exact H1.out.b0)
    have hz : A < w1.heap.size := by rw [HA.out]; exact heap_lt H1.out.b0
    simp only [List.getElem?_toArray, List.getElem?_cons_zero, List.getElem?_cons_succ] at c0 c1 c2
    obtain ⟨sq, hsq⟩ : ∃ s, s = sea d.W d.Z u := ⟨_, rfl⟩
    have HSQ := hid hsq
    clear hsq
    go_upto_region 5 with (go_at_call 77; (refine (water_ok d.W d.H _ d.n d.cap d.Z HG.out u HU.out _ H1.out.cx.land).mono ?_); (rw [show decide (top d.W d.Z u ≤ 2) = sq from HSQ.out.symm]); (rintro e w2 ⟨rfl, hb⟩); (have H2 := hid (H1.out.on (H1.out.cx.go hb))); (clear hb c0 c1 c2 hz); (have hz2 : A + 2 < w2.heap.size := by rw [HA.out]; exact heap_lt H2.out.b2); (have g2 := cell_of_row w2 (A + 2) 0 _ _ _ (by rw [HA.out]; exact H2.out.b2)); (have f2 := frozen_of_row w2 (A + 2) 0 _ _ (by rw [HA.out]; exact H2.out.b2)); simp only [List.getElem?_toArray, List.getElem?_cons_zero] at g2)
    have H3 := hid (H2.out.setg 0 (.bool sq))
    clear H1 g2 f2
    simp only [← HA.out] at H3
    generalize World.setCell _ _ _ = w3 at H3 ⊢
    have hz : A + 2 < w3.heap.size := by rw [HA.out]; exact heap_lt H3.out.b2
    have c0 := cell_of_row w3 A 0 _ _ _ (by rw [HA.out]; exact H3.out.b0)
    have c1 := cell_of_row w3 A 1 _ _ _ (by rw [HA.out]; exact H3.out.b0)
    have c2 := cell_of_row w3 A 2 _ _ _ (by rw [HA.out]; exact H3.out.b0)
    have c5 := cell_of_row w3 A 5 _ _ _ (by rw [HA.out]; exact H3.out.b0)
    have g0 := cell_of_row w3 (A + 2) 0 _ _ _ (by rw [HA.out]; exact H3.out.b2)
    have g1 := cell_of_row w3 (A + 2) 1 _ _ _ (by rw [HA.out]; exact H3.out.b2)
    have g2 := cell_of_row w3 (A + 2) 2 _ _ _ (by rw [HA.out]; exact H3.out.b2)
    simp only [List.setIfInBounds_toArray, List.set_cons_zero, List.getElem?_toArray, List.getElem?_cons_zero, List.getElem?_cons_succ] at c0 c1 c2 c5 g0 g1 g2
    have last : ∀ (w5 : World) (a b : Int), LB3 d M #[.bool false, .int .i64 0, .int .i64 0] #[.bool sq, .int .i64 a, .int .i64 b] w w5 → gr = gv sq a b →
        Hid (LB3 d M #[.bool sq, .int .i64 a, .int .i64 b] #[.bool sq, .int .i64 a, .int .i64 b] w (((w5.setCell ⟨A + 1, 0, none⟩ (.bool sq)).setCell ⟨A + 1, 1, none⟩ (.int .i64 a)).setCell ⟨A + 1, 2, none⟩ (.int .i64 b))) := fun w5 a b h5 _ => by
      rw [HA.out]
      have hM : ∀ i : Nat, M < (⟨w.heap.size + 1, i, none⟩ : Addr).block := fun i => by have := h5.lt; show M < w.heap.size + 1; omega
      have hw : ∀ i : Nat, w.heap.size ≤ (⟨w.heap.size + 1, i, none⟩ : Addr).block := fun i => by show w.heap.size ≤ w.heap.size + 1; omega
      exact ⟨((h5.nx.set (hw 0) (hM 0) _).set (hw 1) (hM 1) _).set (hw 2) (hM 2) _, ((h5.cx.set (hM 0) _).set (hM 1) _).set (hM 2) _, h5.lt,
        set_other (set_other (set_other h5.b0 (by simp) _) (by simp) _) (by simp) _, set3 h5.b1 _ _ _, set_other (set_other (set_other h5.b2 (by simp) _) (by simp) _) (by simp) _⟩
    have LAST := hid last
    clear last
    cases sq with
    | true =>
      have hgn : gr = gv true 0 0 := by rw [HGR.out]; unfold gnd gsl gba; rw [← HSQ.out]; rfl
      obtain ⟨w4, hrun, hgs, hkp⟩ := H3.out.cx.gs.put HS.out HU.out
      rw [← HGR.out, hgn] at hrun
      have H4 := hid (H3.out.on ⟨hkp, hgs⟩)
      have HGN := hid hgn
      clear hgs hkp hgn
      go_upto_region 8 with fail
      clear c0 c1 c2 c5 g0 g1 g2 hz hrun
      have g0 := cell_of_row w4 (A + 2) 0 _ _ _ (by rw [HA.out]; exact H4.out.b2)
      have g1 := cell_of_row w4 (A + 2) 1 _ _ _ (by rw [HA.out]; exact H4.out.b2)
      have g2 := cell_of_row w4 (A + 2) 2 _ _ _ (by rw [HA.out]; exact H4.out.b2)
      have r0 := cell_of_row w4 (A + 1) 0 _ _ _ (by rw [HA.out]; exact H4.out.b1)
      have r1 := cell_of_row w4 (A + 1) 1 _ _ _ (by rw [HA.out]; exact H4.out.b1)
      have r2 := cell_of_row w4 (A + 1) 2 _ _ _ (by rw [HA.out]; exact H4.out.b1)
      have f0 := frozen_of_row w4 (A + 1) 0 _ _ (by rw [HA.out]; exact H4.out.b1)
      have f1 := frozen_of_row w4 (A + 1) 1 _ _ (by rw [HA.out]; exact H4.out.b1)
      have f2 := frozen_of_row w4 (A + 1) 2 _ _ (by rw [HA.out]; exact H4.out.b1)
      have hz : A + 2 < w4.heap.size := by rw [HA.out]; exact heap_lt H4.out.b2
      simp only [List.setIfInBounds_toArray, List.set_cons_zero, List.getElem?_toArray, List.getElem?_cons_zero, List.getElem?_cons_succ] at g0 g1 g2 r0 r1 r2
      go_wp2_with fail
      have H5 := LAST.out w4 0 0 H4.out HGN.out
      generalize World.setCell _ _ _ = w5 at H5 ⊢
      have q0 := cell_of_row w5 (A + 1) 0 _ _ _ (by rw [HA.out]; exact H5.out.b1)
      have q1 := cell_of_row w5 (A + 1) 1 _ _ _ (by rw [HA.out]; exact H5.out.b1)
      have q2 := cell_of_row w5 (A + 1) 2 _ _ _ (by rw [HA.out]; exact H5.out.b1)
      simp at q0 q1 q2
      exact bodyPost_ret (v := gr) (by rw [HGN.out]; simp [results, Try.results51, go_sem, q0, q1, q2]) rfl ⟨rfl, H5.out.nx⟩
    | false =>
      have hgn : gr = gv false (slope d.W d.Z u) (base d.W d.Z u) := by rw [HGR.out]; unfold gnd gsl gba; rw [← HSQ.out]; rfl
      obtain ⟨p, hp⟩ : ∃ p, p = slope d.W d.Z u := ⟨_, rfl⟩
      obtain ⟨q, hq⟩ : ∃ p, p = base d.W d.Z u := ⟨_, rfl⟩
      rw [← hp, ← hq] at hgn
      have HPQ := hid (And.intro hp hq)
      have HGN := hid hgn
      clear hp hq hgn g1 g2
      go_upto_region 7 with (go_at_call 78; (refine (slope_ok d.W d.H _ d.n d.cap d.Z HG.out u HU.out _ H3.out.cx.land).mono ?_); (rw [← HPQ.out.1, ← HPQ.out.2]); (rintro e w4 ⟨rfl, hb⟩); (have H4 := hid (H3.out.on (H3.out.cx.go hb))); (clear hb c0 c1 c2 c5 g0 hz); (have hz : A + 2 < w4.heap.size := by rw [HA.out]; exact heap_lt H4.out.b2); (have g1 := cell_of_row w4 (A + 2) 1 _ _ _ (by rw [HA.out]; exact H4.out.b2)); (have g2 := cell_of_row w4 (A + 2) 2 _ _ _ (by rw [HA.out]; exact H4.out.b2)); (have f1 := frozen_of_row w4 (A + 2) 1 _ _ (by rw [HA.out]; exact H4.out.b2)); (have f2 := frozen_of_row w4 (A + 2) 2 _ _ (by rw [HA.out]; exact H4.out.b2)); simp only [List.setIfInBounds_toArray, List.set_cons_zero, List.getElem?_toArray, List.getElem?_cons_zero, List.getElem?_cons_succ] at g1 g2)
      have H5 := hid ((H4.out.setg 1 (.int .i64 p)).setg 2 (.int .i64 q))
      simp only [← HA.out] at H5
      clear g1 g2 f1 f2 hz
      generalize World.setCell _ _ _ = w5 at H5 ⊢
      have hz : A + 2 < w5.heap.size := by rw [HA.out]; exact heap_lt H5.out.b2
      have c5 := cell_of_row w5 A 5 _ _ _ (by rw [HA.out]; exact H5.out.b0)
      have g0 := cell_of_row w5 (A + 2) 0 _ _ _ (by rw [HA.out]; exact H5.out.b2)
      have g1 := cell_of_row w5 (A + 2) 1 _ _ _ (by rw [HA.out]; exact H5.out.b2)
      have g2 := cell_of_row w5 (A + 2) 2 _ _ _ (by rw [HA.out]; exact H5.out.b2)
      simp only [List.setIfInBounds_toArray, List.set_cons_zero, List.set_cons_succ, List.getElem?_toArray, List.getElem?_cons_zero, List.getElem?_cons_succ] at c5 g0 g1 g2
      obtain ⟨w6, hrun, hgs, hkp⟩ := H5.out.cx.gs.put HS.out HU.out
      rw [← HGR.out, HGN.out] at hrun
      have H6 := hid (H5.out.on ⟨hkp, hgs⟩)
      clear hgs hkp
      go_upto_region 8 with fail
      clear c5 g0 g1 g2 hz hrun
      have g0 := cell_of_row w6 (A + 2) 0 _ _ _ (by rw [HA.out]; exact H6.out.b2)
      have g1 := cell_of_row w6 (A + 2) 1 _ _ _ (by rw [HA.out]; exact H6.out.b2)
      have g2 := cell_of_row w6 (A + 2) 2 _ _ _ (by rw [HA.out]; exact H6.out.b2)
      have r0 := cell_of_row w6 (A + 1) 0 _ _ _ (by rw [HA.out]; exact H6.out.b1)
      have r1 := cell_of_row w6 (A + 1) 1 _ _ _ (by rw [HA.out]; exact H6.out.b1)
      have r2 := cell_of_row w6 (A + 1) 2 _ _ _ (by rw [HA.out]; exact H6.out.b1)
      have f0 := frozen_of_row w6 (A + 1) 0 _ _ (by rw [HA.out]; exact H6.out.b1)
      have f1 := frozen_of_row w6 (A + 1) 1 _ _ (by rw [HA.out]; exact H6.out.b1)
      have f2 := frozen_of_row w6 (A + 1) 2 _ _ (by rw [HA.out]; exact H6.out.b1)
      have hz : A + 2 < w6.heap.size := by rw [HA.out]; exact heap_lt H6.out.b2
      simp only [List.setIfInBounds_toArray, List.set_cons_zero, List.set_cons_succ, List.getElem?_toArray, List.getElem?_cons_zero, List.getElem?_cons_succ] at g0 g1 g2 r0 r1 r2
      go_wp2_with fail
      have H7 := LAST.out w6 p q H6.out HGN.out
      generalize World.setCell _ _ _ = w7 at H7 ⊢
      have q0 := cell_of_row w7 (A + 1) 0 _ _ _ (by rw [HA.out]; exact H7.out.b1)
      have q1 := cell_of_row w7 (A + 1) 1 _ _ _ (by rw [HA.out]; exact H7.out.b1)
      have q2 := cell_of_row w7 (A + 1) 2 _ _ _ (by rw [HA.out]; exact H7.out.b1)
      simp at q0 q1 q2
      exact bodyPost_ret (v := gr) (by rw [HGN.out]; simp [results, Try.results51, go_sem, q0, q1, q2]) rfl ⟨rfl, H7.out.nx⟩
end Go.Proofs.Ytkpnngpnjimogaa
