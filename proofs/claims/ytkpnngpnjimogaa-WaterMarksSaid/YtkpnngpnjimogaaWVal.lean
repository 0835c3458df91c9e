/-
  The walk of validate of a chart.
-/
import Derived.Test.YtkpnngpnjimogaaWSurv
namespace Go.Proofs.Ytkpnngpnjimogaa
open Go.RowKit

/-- The boxes of validate: the chart's, the waters'. -/
structure VB (d : Wat) (M : Nat) (w wr : World) : Prop where
  cb : CB d M w wr
  q0 : wr.cell? ⟨w.heap.size + 1, 0, none⟩ = some d.ks
  q1 : wr.cell? ⟨w.heap.size + 1, 1, none⟩ = some d.bs
  sz : w.heap.size + 1 < wr.heap.size
theorem VB.on {d : Wat} {M : Nat} {w wr w' : World} (h : VB d M w wr) (k : Nx d M wr w') : VB d M w w' :=
  have hM : w.heap.size + 1 ≠ M := by have := h.cb.lt; omega
  ⟨h.cb.on k, (k.kp.cell (p := ⟨w.heap.size + 1, 0, none⟩) h.sz hM).trans h.q0, (k.kp.cell (p := ⟨w.heap.size + 1, 1, none⟩) h.sz hM).trans h.q1, Nat.lt_of_lt_of_le h.sz k.kp.size⟩
theorem VB.start {d : Wat} {M : Nat} {w : World} (h : Cx d M w) : VB d M w ((w.alloc (.cells #[.int .i64 d.W, .int .i64 d.H, d.as, d.ks, d.bs, .map (some M)] 52)).alloc (.cells #[d.ks, d.bs] 26)) :=
  ⟨(CB.start h).below (Joins.below_alloc1 _ _), by simp, by simp, by simp⟩

set_option maxRecDepth 200000 in
set_option maxHeartbeats 6400000 in
theorem cvalidate_to (d : Wat) (hg : Good d.W d.H d.n d.Z) (hm : d.m = d.W * d.H) (hq : d.q ≤ 4000) (M : Nat) (e : Int) (h : CErr d.W d.H d.m d.q d.Z d.K d.Y e) (w : World) (hC : Cx d M w) :
    Calls Try.prog 71 #[d.cht M] w fun r w' => r = .returned (.int .i64 e) ∧ Nx d M w w' := by
  have hsd := hg.side
  have hs := mul_small hsd.2.1 hsd.2.2.2
  have hm4 : d.m ≤ 4000 := by omega
  have hWH : (d.W : Int) * (d.H : Int) = (d.m : Int) := by rw [hm]; simp
  obtain ⟨b1, hb1⟩ : ∃ b : Bool, b = true ↔ ∃ j, j < d.m ∧ (!decide (0 ≤ d.K j ∧ d.K j ≤ 3)) = true := ⟨decide (∃ j, j < d.m ∧ (!decide (0 ≤ d.K j ∧ d.K j ≤ 3)) = true), by simp⟩
  obtain ⟨b2, hb2⟩ : ∃ b : Bool, b = true ↔ Asc d.q d.Y := by
    by_cases k : Asc d.q d.Y
    · exact ⟨true, fun _ => k, fun _ => rfl⟩
    · exact ⟨false, fun h => (by cases h), fun h => absurd h k⟩
  obtain ⟨b3, hb3⟩ : ∃ b : Bool, b = true ↔ ∃ j, j < d.q ∧ (!tileB d.W d.H (d.Y j)) = true := ⟨decide (∃ j, j < d.q ∧ (!tileB d.W d.H (d.Y j)) = true), by simp⟩
  obtain ⟨b4, hb4⟩ : ∃ b : Bool, b = true ↔ Fits d.W d.H d.Z d.K := by
    by_cases k : Fits d.W d.H d.Z d.K
    · exact ⟨true, fun _ => k, fun _ => rfl⟩
    · exact ⟨false, fun h => (by cases h), fun h => absurd h k⟩
  obtain ⟨b5, hb5⟩ : ∃ b : Bool, b = true ↔ ∃ j, j < d.q ∧ (!wt d.W d.Z d.K (d.Y j).toNat) = true := ⟨decide (∃ j, j < d.q ∧ (!wt d.W d.Z d.K (d.Y j).toNat) = true), by simp⟩
  have n1 : b1 = false ↔ KOk d.m d.K := by
    rw [Bool.eq_false_iff, ne_eq, hb1]
    constructor
    · intro h j hj
      by_cases k : 0 ≤ d.K j ∧ d.K j ≤ 3
      · exact k
      · exact absurd ⟨j, hj, by rw [decide_eq_false k]; rfl⟩ h
    · rintro h ⟨j, hj, k⟩
      rw [decide_eq_true (h j hj)] at k; cases k
  have n3 : b3 = false ↔ BIn d.W d.H d.q d.Y := by
    rw [Bool.eq_false_iff, ne_eq, hb3]
    constructor
    · intro h j hj
      by_cases k : tileB d.W d.H (d.Y j) = true
      · exact k
      · exact absurd ⟨j, hj, by simpa using k⟩ h
    · rintro h ⟨j, hj, k⟩
      rw [h j hj] at k; cases k
  have n5 : b5 = false ↔ BWet d.W d.q d.Z d.K d.Y := by
    rw [Bool.eq_false_iff, ne_eq, hb5]
    constructor
    · intro h j hj
      by_cases k : wt d.W d.Z d.K (d.Y j).toNat = true
      · exact k
      · exact absurd ⟨j, hj, by simpa using k⟩ h
    · rintro h ⟨j, hj, k⟩
      rw [h j hj] at k; cases k
  have HC1 := hid (fun (wr : World) (hv : VB d M w wr) => contains_1 (some ⟨d.kb, d.koff, none⟩) d.m d.kcap d.K (fun j => !decide (0 ≤ d.K j ∧ d.K j ≤ 3)) (VB d M w) hm4 (fun _ h => h.cb.cx.kinds)
    (fun j _ wr hv => (wrong_any (d.K j) (!decide (0 ≤ d.K j ∧ d.K j ≤ 3)) (by rw [Bool.not_eq_true', decide_eq_false_iff_not]) wr).mono (by rintro e w' ⟨rfl, rfl⟩; exact ⟨rfl, hv⟩)) b1 hb1 wr hv)
  have HA := hid (fun (wr : World) (hv : VB d M w wr) => (wascends_any d.bo d.q d.bcap d.Y hq b2 hb2 wr hv.cb.cx.buoys).mono (R' := fun e w' => e = .returned (.bool b2) ∧ VB d M w w') (by rintro e w' ⟨rfl, hb⟩; exact ⟨rfl, hv.on (hv.cb.cx.go hb)⟩))
  have HC2 := hid (fun (wr : World) (hv : VB d M w wr) => contains_2 w.heap.size d.bo d.q d.bcap d.Y (fun j => !tileB d.W d.H (d.Y j)) (VB d M w) hq (fun _ h => h.cb.cx.buoys)
    (fun j _ wr hv => (off_any d hsd.2.1 hsd.2.2.2 M (d.Y j) _ rfl w wr hv.cb).mono (by rintro e w' ⟨rfl, hn⟩; exact ⟨rfl, hv.on hn⟩)) b3 hb3 wr hv)
  have HF := hid (fun (wr : World) (hv : VB d M w wr) => (fits_any d hg hm M b4 hb4 wr hv.cb.cx).mono (R' := fun e w' => e = .returned (.bool b4) ∧ VB d M w w') (by rintro e w' ⟨rfl, hn⟩; exact ⟨rfl, hv.on hn⟩))
  have HC3 := hid (fun (hin : BIn d.W d.H d.q d.Y) (wr : World) (hv : VB d M w wr) => contains_3 w.heap.size d.bo d.q d.bcap d.Y (fun j => !wt d.W d.Z d.K (d.Y j).toNat) (VB d M w) hq (fun _ h => h.cb.cx.buoys)
    (fun j hj wr hv => by
      have ht := hin j hj
      unfold tileB at ht
      simp only [Bool.and_eq_true, decide_eq_true_eq] at ht
      obtain ⟨u, hu⟩ : ∃ u : Nat, d.Y j = u := ⟨(d.Y j).toNat, by omega⟩
      rw [hu, Int.toNat_natCast]
      exact (dry_any d hg hm M u (by omega) _ rfl w wr hv.cb).mono (by rintro e w' ⟨rfl, hn⟩; exact ⟨rfl, hv.on hn⟩)) b5 hb5 wr hv)
  have HV0 := hid (VB.start hC)
  clear hC hb1 hb3 hb5 hg
  cases b1
  · have k1 := n1.1 rfl
    cases b2
    · have he : e = 1 := h.arg fun k => (by have := hb2.2 k.2.2; cases this)
      subst he
      clear h n1 n3 n5 hb2 hb4 k1 HC2 HF HC3 hm
      go_enter Try.func71, Try.ntmps71
      go_upto_region 2 with fail
      have HV := HV0
      clear HV0
      generalize World.alloc _ _ = wv at HV ⊢
      have c0 := HV.out.cb.c0
      have c1 := HV.out.cb.c1
      have c2 := HV.out.cb.c2
      have c3 := HV.out.cb.c3
      have c4 := HV.out.cb.c4
      have c5 := HV.out.cb.c5
      have q0 := HV.out.q0
      have q1 := HV.out.q1
      have hz := HV.out.cb.size
      have hz2 := HV.out.sz
      go_wp2_with (first | (go_at_call 99; (with_reducible refine (HC1.out _ HV.out).mono ?_); rintro r wn ⟨rfl, hn⟩; clear c0 c1 c2 c3 c4 c5 q0 q1 hz hz2 HV; have HV := hid hn; clear hn; have c0 := HV.out.cb.c0; have c1 := HV.out.cb.c1; have c2 := HV.out.cb.c2; have c3 := HV.out.cb.c3; have c4 := HV.out.cb.c4; have c5 := HV.out.cb.c5; have q0 := HV.out.q0; have q1 := HV.out.q1; have hz := HV.out.cb.size; have hz2 := HV.out.sz) | (go_at_call 100; (refine (HA.out _ HV.out).mono ?_); rintro r wn ⟨rfl, hn⟩; clear c0 c1 c2 c3 c4 c5 q0 q1 hz hz2 HV; have HV := hid hn; clear hn; have c0 := HV.out.cb.c0; have c1 := HV.out.cb.c1; have c2 := HV.out.cb.c2; have c3 := HV.out.cb.c3; have c4 := HV.out.cb.c4; have c5 := HV.out.cb.c5; have q0 := HV.out.q0; have q1 := HV.out.q1; have hz := HV.out.cb.size; have hz2 := HV.out.sz))
      go_ret
      exact ⟨rfl, HV.out.cb.nx⟩
    · have k2 := hb2.1 rfl
      cases b3
      · have k3 := n3.1 rfl
        have HC3' := hid (HC3.out k3)
        clear HC3
        cases b4
        · have he : e = 9 := h.rule ⟨hm, k1, k2⟩ k3 fun k => (by have := hb4.2 k.1; cases this)
          subst he
          clear h n1 n3 n5 hb2 hb4 k1 k2 k3 HC3' hm
          go_enter Try.func71, Try.ntmps71
          go_upto_region 2 with fail
          have HV := HV0
          clear HV0
          generalize World.alloc _ _ = wv at HV ⊢
          have c0 := HV.out.cb.c0
          have c1 := HV.out.cb.c1
          have c2 := HV.out.cb.c2
          have c3 := HV.out.cb.c3
          have c4 := HV.out.cb.c4
          have c5 := HV.out.cb.c5
          have q0 := HV.out.q0
          have q1 := HV.out.q1
          have hz := HV.out.cb.size
          have hz2 := HV.out.sz
          go_wp2_with (first | (go_at_call 99; (with_reducible refine (HC1.out _ HV.out).mono ?_); rintro r wn ⟨rfl, hn⟩; clear c0 c1 c2 c3 c4 c5 q0 q1 hz hz2 HV; have HV := hid hn; clear hn; have c0 := HV.out.cb.c0; have c1 := HV.out.cb.c1; have c2 := HV.out.cb.c2; have c3 := HV.out.cb.c3; have c4 := HV.out.cb.c4; have c5 := HV.out.cb.c5; have q0 := HV.out.q0; have q1 := HV.out.q1; have hz := HV.out.cb.size; have hz2 := HV.out.sz) | (go_at_call 100; (refine (HA.out _ HV.out).mono ?_); rintro r wn ⟨rfl, hn⟩; clear c0 c1 c2 c3 c4 c5 q0 q1 hz hz2 HV; have HV := hid hn; clear hn; have c0 := HV.out.cb.c0; have c1 := HV.out.cb.c1; have c2 := HV.out.cb.c2; have c3 := HV.out.cb.c3; have c4 := HV.out.cb.c4; have c5 := HV.out.cb.c5; have q0 := HV.out.q0; have q1 := HV.out.q1; have hz := HV.out.cb.size; have hz2 := HV.out.sz) | (go_at_call 99; (with_reducible refine (HC2.out _ HV.out).mono ?_); rintro r wn ⟨rfl, hn⟩; clear c0 c1 c2 c3 c4 c5 q0 q1 hz hz2 HV; have HV := hid hn; clear hn; have c0 := HV.out.cb.c0; have c1 := HV.out.cb.c1; have c2 := HV.out.cb.c2; have c3 := HV.out.cb.c3; have c4 := HV.out.cb.c4; have c5 := HV.out.cb.c5; have q0 := HV.out.q0; have q1 := HV.out.q1; have hz := HV.out.cb.size; have hz2 := HV.out.sz) | (go_at_call 101; (refine (HF.out _ HV.out).mono ?_); rintro r wn ⟨rfl, hn⟩; clear c0 c1 c2 c3 c4 c5 q0 q1 hz hz2 HV; have HV := hid hn; clear hn; have c0 := HV.out.cb.c0; have c1 := HV.out.cb.c1; have c2 := HV.out.cb.c2; have c3 := HV.out.cb.c3; have c4 := HV.out.cb.c4; have c5 := HV.out.cb.c5; have q0 := HV.out.q0; have q1 := HV.out.q1; have hz := HV.out.cb.size; have hz2 := HV.out.sz))
          go_ret
          exact ⟨rfl, HV.out.cb.nx⟩
        · have k4 := hb4.1 rfl
          cases b5
          · have he : e = 0 := h.ok ⟨hm, k1, k2, k3, k4, n5.1 rfl⟩
            subst he
            clear h n1 n3 n5 hb2 hb4 k1 k2 k3 k4 hm
            go_enter Try.func71, Try.ntmps71
            go_upto_region 2 with fail
            have HV := HV0
            clear HV0
            generalize World.alloc _ _ = wv at HV ⊢
            have c0 := HV.out.cb.c0
            have c1 := HV.out.cb.c1
            have c2 := HV.out.cb.c2
            have c3 := HV.out.cb.c3
            have c4 := HV.out.cb.c4
            have c5 := HV.out.cb.c5
            have q0 := HV.out.q0
            have q1 := HV.out.q1
            have hz := HV.out.cb.size
            have hz2 := HV.out.sz
            go_wp2_with (first | (go_at_call 99; (with_reducible refine (HC1.out _ HV.out).mono ?_); rintro r wn ⟨rfl, hn⟩; clear c0 c1 c2 c3 c4 c5 q0 q1 hz hz2 HV; have HV := hid hn; clear hn; have c0 := HV.out.cb.c0; have c1 := HV.out.cb.c1; have c2 := HV.out.cb.c2; have c3 := HV.out.cb.c3; have c4 := HV.out.cb.c4; have c5 := HV.out.cb.c5; have q0 := HV.out.q0; have q1 := HV.out.q1; have hz := HV.out.cb.size; have hz2 := HV.out.sz) | (go_at_call 100; (refine (HA.out _ HV.out).mono ?_); rintro r wn ⟨rfl, hn⟩; clear c0 c1 c2 c3 c4 c5 q0 q1 hz hz2 HV; have HV := hid hn; clear hn; have c0 := HV.out.cb.c0; have c1 := HV.out.cb.c1; have c2 := HV.out.cb.c2; have c3 := HV.out.cb.c3; have c4 := HV.out.cb.c4; have c5 := HV.out.cb.c5; have q0 := HV.out.q0; have q1 := HV.out.q1; have hz := HV.out.cb.size; have hz2 := HV.out.sz) | (go_at_call 99; (with_reducible refine (HC2.out _ HV.out).mono ?_); rintro r wn ⟨rfl, hn⟩; clear c0 c1 c2 c3 c4 c5 q0 q1 hz hz2 HV; have HV := hid hn; clear hn; have c0 := HV.out.cb.c0; have c1 := HV.out.cb.c1; have c2 := HV.out.cb.c2; have c3 := HV.out.cb.c3; have c4 := HV.out.cb.c4; have c5 := HV.out.cb.c5; have q0 := HV.out.q0; have q1 := HV.out.q1; have hz := HV.out.cb.size; have hz2 := HV.out.sz) | (go_at_call 101; (refine (HF.out _ HV.out).mono ?_); rintro r wn ⟨rfl, hn⟩; clear c0 c1 c2 c3 c4 c5 q0 q1 hz hz2 HV; have HV := hid hn; clear hn; have c0 := HV.out.cb.c0; have c1 := HV.out.cb.c1; have c2 := HV.out.cb.c2; have c3 := HV.out.cb.c3; have c4 := HV.out.cb.c4; have c5 := HV.out.cb.c5; have q0 := HV.out.q0; have q1 := HV.out.q1; have hz := HV.out.cb.size; have hz2 := HV.out.sz) | (go_at_call 99; (with_reducible refine (HC3'.out _ HV.out).mono ?_); rintro r wn ⟨rfl, hn⟩; clear c0 c1 c2 c3 c4 c5 q0 q1 hz hz2 HV; have HV := hid hn; clear hn; have c0 := HV.out.cb.c0; have c1 := HV.out.cb.c1; have c2 := HV.out.cb.c2; have c3 := HV.out.cb.c3; have c4 := HV.out.cb.c4; have c5 := HV.out.cb.c5; have q0 := HV.out.q0; have q1 := HV.out.q1; have hz := HV.out.cb.size; have hz2 := HV.out.sz))
            go_ret
            exact ⟨rfl, HV.out.cb.nx⟩
          · have he : e = 9 := h.rule ⟨hm, k1, k2⟩ k3 fun k => (by have := n5.2 k.2; cases this)
            subst he
            clear h n1 n3 n5 hb2 hb4 k1 k2 k3 k4 hm
            go_enter Try.func71, Try.ntmps71
            go_upto_region 2 with fail
            have HV := HV0
            clear HV0
            generalize World.alloc _ _ = wv at HV ⊢
            have c0 := HV.out.cb.c0
            have c1 := HV.out.cb.c1
            have c2 := HV.out.cb.c2
            have c3 := HV.out.cb.c3
            have c4 := HV.out.cb.c4
            have c5 := HV.out.cb.c5
            have q0 := HV.out.q0
            have q1 := HV.out.q1
            have hz := HV.out.cb.size
            have hz2 := HV.out.sz
            go_wp2_with (first | (go_at_call 99; (with_reducible refine (HC1.out _ HV.out).mono ?_); rintro r wn ⟨rfl, hn⟩; clear c0 c1 c2 c3 c4 c5 q0 q1 hz hz2 HV; have HV := hid hn; clear hn; have c0 := HV.out.cb.c0; have c1 := HV.out.cb.c1; have c2 := HV.out.cb.c2; have c3 := HV.out.cb.c3; have c4 := HV.out.cb.c4; have c5 := HV.out.cb.c5; have q0 := HV.out.q0; have q1 := HV.out.q1; have hz := HV.out.cb.size; have hz2 := HV.out.sz) | (go_at_call 100; (refine (HA.out _ HV.out).mono ?_); rintro r wn ⟨rfl, hn⟩; clear c0 c1 c2 c3 c4 c5 q0 q1 hz hz2 HV; have HV := hid hn; clear hn; have c0 := HV.out.cb.c0; have c1 := HV.out.cb.c1; have c2 := HV.out.cb.c2; have c3 := HV.out.cb.c3; have c4 := HV.out.cb.c4; have c5 := HV.out.cb.c5; have q0 := HV.out.q0; have q1 := HV.out.q1; have hz := HV.out.cb.size; have hz2 := HV.out.sz) | (go_at_call 99; (with_reducible refine (HC2.out _ HV.out).mono ?_); rintro r wn ⟨rfl, hn⟩; clear c0 c1 c2 c3 c4 c5 q0 q1 hz hz2 HV; have HV := hid hn; clear hn; have c0 := HV.out.cb.c0; have c1 := HV.out.cb.c1; have c2 := HV.out.cb.c2; have c3 := HV.out.cb.c3; have c4 := HV.out.cb.c4; have c5 := HV.out.cb.c5; have q0 := HV.out.q0; have q1 := HV.out.q1; have hz := HV.out.cb.size; have hz2 := HV.out.sz) | (go_at_call 101; (refine (HF.out _ HV.out).mono ?_); rintro r wn ⟨rfl, hn⟩; clear c0 c1 c2 c3 c4 c5 q0 q1 hz hz2 HV; have HV := hid hn; clear hn; have c0 := HV.out.cb.c0; have c1 := HV.out.cb.c1; have c2 := HV.out.cb.c2; have c3 := HV.out.cb.c3; have c4 := HV.out.cb.c4; have c5 := HV.out.cb.c5; have q0 := HV.out.q0; have q1 := HV.out.q1; have hz := HV.out.cb.size; have hz2 := HV.out.sz) | (go_at_call 99; (with_reducible refine (HC3'.out _ HV.out).mono ?_); rintro r wn ⟨rfl, hn⟩; clear c0 c1 c2 c3 c4 c5 q0 q1 hz hz2 HV; have HV := hid hn; clear hn; have c0 := HV.out.cb.c0; have c1 := HV.out.cb.c1; have c2 := HV.out.cb.c2; have c3 := HV.out.cb.c3; have c4 := HV.out.cb.c4; have c5 := HV.out.cb.c5; have q0 := HV.out.q0; have q1 := HV.out.q1; have hz := HV.out.cb.size; have hz2 := HV.out.sz))
            go_ret
            exact ⟨rfl, HV.out.cb.nx⟩
      · have he : e = 2 := h.none ⟨hm, k1, k2⟩ fun k => (by have := n3.2 k; cases this)
        subst he
        clear h n1 n3 n5 hb2 hb4 k1 k2 HF HC3 hm
        go_enter Try.func71, Try.ntmps71
        go_upto_region 2 with fail
        have HV := HV0
        clear HV0
        generalize World.alloc _ _ = wv at HV ⊢
        have c0 := HV.out.cb.c0
        have c1 := HV.out.cb.c1
        have c2 := HV.out.cb.c2
        have c3 := HV.out.cb.c3
        have c4 := HV.out.cb.c4
        have c5 := HV.out.cb.c5
        have q0 := HV.out.q0
        have q1 := HV.out.q1
        have hz := HV.out.cb.size
        have hz2 := HV.out.sz
        go_wp2_with (first | (go_at_call 99; (with_reducible refine (HC1.out _ HV.out).mono ?_); rintro r wn ⟨rfl, hn⟩; clear c0 c1 c2 c3 c4 c5 q0 q1 hz hz2 HV; have HV := hid hn; clear hn; have c0 := HV.out.cb.c0; have c1 := HV.out.cb.c1; have c2 := HV.out.cb.c2; have c3 := HV.out.cb.c3; have c4 := HV.out.cb.c4; have c5 := HV.out.cb.c5; have q0 := HV.out.q0; have q1 := HV.out.q1; have hz := HV.out.cb.size; have hz2 := HV.out.sz) | (go_at_call 100; (refine (HA.out _ HV.out).mono ?_); rintro r wn ⟨rfl, hn⟩; clear c0 c1 c2 c3 c4 c5 q0 q1 hz hz2 HV; have HV := hid hn; clear hn; have c0 := HV.out.cb.c0; have c1 := HV.out.cb.c1; have c2 := HV.out.cb.c2; have c3 := HV.out.cb.c3; have c4 := HV.out.cb.c4; have c5 := HV.out.cb.c5; have q0 := HV.out.q0; have q1 := HV.out.q1; have hz := HV.out.cb.size; have hz2 := HV.out.sz) | (go_at_call 99; (with_reducible refine (HC2.out _ HV.out).mono ?_); rintro r wn ⟨rfl, hn⟩; clear c0 c1 c2 c3 c4 c5 q0 q1 hz hz2 HV; have HV := hid hn; clear hn; have c0 := HV.out.cb.c0; have c1 := HV.out.cb.c1; have c2 := HV.out.cb.c2; have c3 := HV.out.cb.c3; have c4 := HV.out.cb.c4; have c5 := HV.out.cb.c5; have q0 := HV.out.q0; have q1 := HV.out.q1; have hz := HV.out.cb.size; have hz2 := HV.out.sz))
        go_ret
        exact ⟨rfl, HV.out.cb.nx⟩
  · have he : e = 1 := h.arg fun k => (by have := n1.2 k.2.1; cases this)
    subst he
    clear h n1 n3 n5 hb2 hb4 HA HC2 HF HC3 hm
    go_enter Try.func71, Try.ntmps71
    go_upto_region 2 with fail
    have HV := HV0
    clear HV0
    generalize World.alloc _ _ = wv at HV ⊢
    have c0 := HV.out.cb.c0
    have c1 := HV.out.cb.c1
    have c2 := HV.out.cb.c2
    have c3 := HV.out.cb.c3
    have c4 := HV.out.cb.c4
    have c5 := HV.out.cb.c5
    have q0 := HV.out.q0
    have q1 := HV.out.q1
    have hz := HV.out.cb.size
    have hz2 := HV.out.sz
    go_wp2_with (first | (go_at_call 99; (with_reducible refine (HC1.out _ HV.out).mono ?_); rintro r wn ⟨rfl, hn⟩; clear c0 c1 c2 c3 c4 c5 q0 q1 hz hz2 HV; have HV := hid hn; clear hn; have c0 := HV.out.cb.c0; have c1 := HV.out.cb.c1; have c2 := HV.out.cb.c2; have c3 := HV.out.cb.c3; have c4 := HV.out.cb.c4; have c5 := HV.out.cb.c5; have q0 := HV.out.q0; have q1 := HV.out.q1; have hz := HV.out.cb.size; have hz2 := HV.out.sz))
    go_ret
    exact ⟨rfl, HV.out.cb.nx⟩

set_option maxHeartbeats 1600000 in
theorem cvalidate_len (W H m : Nat) (hW : W ≤ 32) (hH : H ≤ 32) (hm : m ≠ W * H) (ko bo ao : Option Addr) (kcap n cap q bcap : Nat) (mp : Value) (w : World) :
    Calls Try.prog 71 #[.agg #[.int .i64 W, .int .i64 H, .slice ao n cap, .slice ko m kcap, .slice bo q bcap, mp]] w fun r w' => r = .returned (.int .i64 1) ∧ Below w.heap.size w w' := by
  have hs := mul_small hW hH
  obtain ⟨p, hp⟩ : ∃ p, p = W * H := ⟨_, rfl⟩
  have hWH : (W : Int) * (H : Int) = (p : Int) := by rw [hp]; simp
  have hne : ((m : Int) == (p : Int)) = false := by rw [beq_eq_false_iff_ne]; omega
  have hne2 : ((m : Int) != (p : Int)) = true := by rw [bne_iff_ne]; omega
  have hps : p ≤ 1024 := by omega
  have HB := hid (Joins.below_alloc2 w (.cells #[.int .i64 W, .int .i64 H, .slice ao n cap, .slice ko m kcap, .slice bo q bcap, mp] 52) (.cells #[.slice ko m kcap, .slice bo q bcap] 26))
  clear hm hp hs
  go_enter Try.func71, Try.ntmps71
  go_wp2_with fail
  go_ret
  exact ⟨rfl, HB.out⟩
end Go.Proofs.Ytkpnngpnjimogaa
