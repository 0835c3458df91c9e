/-
  The walks of Lift of the reference.
-/
import Derived.Test.YtlpmahdplilbiaaDoorWalkLay
import Derived.Test.YtlpmahdplilbiaaDoorWalkRVal
import Derived.Deep.RegionHeld3
namespace Go.Proofs.YtlpmahdplilbiaaDoor
open Go.RowKit

set_option maxHeartbeats 1600000 in
theorem reflift_bad (W H : Int) (ao : Option Addr) (n cap : Nat) (Z : Nat → Int) (bo : Option Addr) (m bcap : Nat) (B : Nat → Bool) (hn : n ≤ 9223372036854775807) (hm : m ≤ 9223372036854775807) (t p : Int) (e : Int) (he : e ≠ 0) (h : LErr false 2 W H n m Z B t p e) (w : World) (hI : Ints w ao n Z) (hB : Bools w bo m B) :
    Calls Tryd.prog 28 #[rv W H (.slice ao n cap) (.slice bo m bcap), .int .i64 t, .int .i64 p] w fun r w' => r = .returned (.tuple #[rnil, .int .i64 e]) ∧ Below w.heap.size w w' := by
  have hst := bx2_start w 25 25 #[.int .i64 W, .int .i64 H, .slice ao n cap, .slice bo m bcap] #[.int .i64 0, .int .i64 0, .slice none 0 0, .slice none 0 0]
  have HI := hid (hI.stays hst.below)
  have HB := hid (hB.stays hst.below)
  have HST := hid hst
  obtain ⟨A, hA⟩ : ∃ A, A = w.heap.size := ⟨_, rfl⟩
  have HA := hid hA
  have h : (e = 1 ∧ ¬ Right W H n m Z B) ∨ (e = 1 ∧ Right W H n m Z B ∧ ¬ (0 ≤ p ∧ p ≤ 5)) ∨ (e = 2 ∧ Right W H n m Z B ∧ (0 ≤ p ∧ p ≤ 5) ∧ ¬ (0 ≤ t ∧ t < n)) ∨ (e = 2 ∧ Right W H n m Z B ∧ (0 ≤ p ∧ p ≤ 5) ∧ (0 ≤ t ∧ t < n) ∧ has (Z t.toNat) p = false) := by
    rcases h.place with (h | h | h | h) | ⟨h, h0, ht, hh⟩
    · exact .inl h
    · exact .inr (.inl h)
    · exact .inr (.inr (.inl h))
    · exact absurd h.1 he
    · exact .inr (.inr (.inr ⟨h, h0.right.1, h0.piece, ht, hh⟩))
  clear he hst hI hB
  rcases h with ⟨rfl, hr⟩ | ⟨rfl, hr, hp⟩ | ⟨rfl, hr, hp, ht⟩ | ⟨rfl, hr, hp, ht, hh⟩
  · have HV := hid (verr_no hr)
    clear hr
    go_enter Tryd.func28, Tryd.ntmps28
    go_wp2_with fail
    refine (refvalidate_any W H ao n cap Z bo m bcap B hn hm _ HI.out HB.out 1 HV.out).mono ?_
    rintro r w2 ⟨rfl, hb2⟩
    have H2 := hid (HST.out.stays hb2)
    have HI2 := hid (HI.out.stays hb2)
    have HB2 := hid (HB.out.stays hb2)
    simp only [← hA] at H2 ⊢
    clear hA hb2 HST HI HB
    clear HI2 HB2
    have hr := H2.out.hr
    have r0 := cell_of_row w2 (A + 1) 0 _ _ _ hr
    have r1 := cell_of_row w2 (A + 1) 1 _ _ _ hr
    have r2 := cell_of_row w2 (A + 1) 2 _ _ _ hr
    have r3 := cell_of_row w2 (A + 1) 3 _ _ _ hr
    simp only [List.getElem?_toArray, List.getElem?_cons_zero, List.getElem?_cons_succ] at r0 r1 r2 r3
    have f0 := frozen_of_row w2 (A + 1) 0 _ _ hr
    have f1 := frozen_of_row w2 (A + 1) 1 _ _ hr
    have f2 := frozen_of_row w2 (A + 1) 2 _ _ hr
    have f3 := frozen_of_row w2 (A + 1) 3 _ _ hr
    have hbz := heap_lt hr
    clear hr
    go_wp2_with fail
    have k3 := set4 H2.out.hr (.int .i64 0) (.int .i64 0) (.slice none 0 0) (.slice none 0 0)
    have k4 := set4_below (g := A + 1) H2.out.below (Nat.le_succ _) (.int .i64 0) (.int .i64 0) (.slice none 0 0) (.slice none 0 0)
    clear r0 r1 r2 r3 f0 f1 f2 f3
    generalize World.setCell _ _ _ = w5 at k3 k4 ⊢
    have q0 := cell_of_row w5 (A + 1) 0 _ _ _ k3
    have q1 := cell_of_row w5 (A + 1) 1 _ _ _ k3
    have q2 := cell_of_row w5 (A + 1) 2 _ _ _ k3
    have q3 := cell_of_row w5 (A + 1) 3 _ _ _ k3
    simp only [List.getElem?_toArray, List.getElem?_cons_zero, List.getElem?_cons_succ] at q0 q1 q2 q3
    refine bodyPost_ret (v := .tuple #[rnil, .int .i64 1]) (by simp [results, Tryd.results28, go_sem, q0, q1, q2, q3]) rfl ⟨rfl, ?_⟩
    rw [← HA.out]; exact k4
  · have HV := hid (verr_ok hr)
    have HF := hid (fst_out hp)
    clear hr hp
    go_enter Tryd.func28, Tryd.ntmps28
    go_wp2_with fail
    refine (refvalidate_any W H ao n cap Z bo m bcap B hn hm _ HI.out HB.out 0 HV.out).mono ?_
    rintro r w2 ⟨rfl, hb2⟩
    have H2 := hid (HST.out.stays hb2)
    have HI2 := hid (HI.out.stays hb2)
    have HB2 := hid (HB.out.stays hb2)
    simp only [← hA] at H2 ⊢
    clear hA hb2 HST HI HB
    clear HI2 HB2
    have hr := H2.out.hr
    have r0 := cell_of_row w2 (A + 1) 0 _ _ _ hr
    have r1 := cell_of_row w2 (A + 1) 1 _ _ _ hr
    have r2 := cell_of_row w2 (A + 1) 2 _ _ _ hr
    have r3 := cell_of_row w2 (A + 1) 3 _ _ _ hr
    simp only [List.getElem?_toArray, List.getElem?_cons_zero, List.getElem?_cons_succ] at r0 r1 r2 r3
    have f0 := frozen_of_row w2 (A + 1) 0 _ _ hr
    have f1 := frozen_of_row w2 (A + 1) 1 _ _ hr
    have f2 := frozen_of_row w2 (A + 1) 2 _ _ hr
    have f3 := frozen_of_row w2 (A + 1) 3 _ _ hr
    have hbz := heap_lt hr
    clear hr
    go_wp2_with (go_at_call 41; refine (first_any _ _).mono ?_; rintro e w' ⟨rfl, rfl⟩; rw [HF.out])
    have k3 := set4 H2.out.hr (.int .i64 0) (.int .i64 0) (.slice none 0 0) (.slice none 0 0)
    have k4 := set4_below (g := A + 1) H2.out.below (Nat.le_succ _) (.int .i64 0) (.int .i64 0) (.slice none 0 0) (.slice none 0 0)
    clear r0 r1 r2 r3 f0 f1 f2 f3
    generalize World.setCell _ _ _ = w5 at k3 k4 ⊢
    have q0 := cell_of_row w5 (A + 1) 0 _ _ _ k3
    have q1 := cell_of_row w5 (A + 1) 1 _ _ _ k3
    have q2 := cell_of_row w5 (A + 1) 2 _ _ _ k3
    have q3 := cell_of_row w5 (A + 1) 3 _ _ _ k3
    simp only [List.getElem?_toArray, List.getElem?_cons_zero, List.getElem?_cons_succ] at q0 q1 q2 q3
    refine bodyPost_ret (v := .tuple #[rnil, .int .i64 1]) (by simp [results, Tryd.results28, go_sem, q0, q1, q2, q3]) rfl ⟨rfl, ?_⟩
    rw [← HA.out]; exact k4
  · skip
    have HV := hid (verr_ok hr)
    have hf := (fst_in hp.1 hp.2).1
    obtain ⟨a, ha⟩ : ∃ a, a = fst p := ⟨_, rfl⟩
    rw [← ha] at hf
    have HF := hid ha
    have HZ := hid (fun i (hi : i < n) => And.intro (hr.fine i hi).1 (hr.fine i hi).2.1)
    have hn2 : n ≤ 1024 := by have := hr.sets; have := hr.sized.bound; omega
    have HL : Hid (Lie n Z t p = false) := hid (by unfold Lie; rw [decide_eq_false (by omega)]; rfl)
    clear hr hp ht ha
    go_enter Tryd.func28, Tryd.ntmps28
    go_wp2_with fail
    refine (refvalidate_any W H ao n cap Z bo m bcap B hn hm _ HI.out HB.out 0 HV.out).mono ?_
    rintro r w2 ⟨rfl, hb2⟩
    have H2 := hid (HST.out.stays hb2)
    have HI2 := hid (HI.out.stays hb2)
    have HB2 := hid (HB.out.stays hb2)
    simp only [← hA] at H2 ⊢
    clear hA hb2 HST HI HB
    have b0 := cell_of_row w2 A 0 _ _ _ H2.out.hb
    have b1 := cell_of_row w2 A 1 _ _ _ H2.out.hb
    have b2 := cell_of_row w2 A 2 _ _ _ H2.out.hb
    have b3 := cell_of_row w2 A 3 _ _ _ H2.out.hb
    simp only [List.getElem?_toArray, List.getElem?_cons_zero, List.getElem?_cons_succ] at b0 b1 b2 b3
    go_wp2_with (go_at_call 41; refine (first_any _ _).mono ?_; rintro e w' ⟨rfl, rfl⟩; rw [← HF.out])
    refine (reflies_any W H ao n cap Z _ t p (fun i hi => HZ.out i hi) false HL.out _ HI2.out).mono ?_
    rintro r w3 ⟨rfl, hb3⟩
    have H3 := hid (H2.out.stays hb3)
    clear hb3 H2 HI2 HB2 b0 b1 b2 b3
    have hr := H3.out.hr
    have r0 := cell_of_row w3 (A + 1) 0 _ _ _ hr
    have r1 := cell_of_row w3 (A + 1) 1 _ _ _ hr
    have r2 := cell_of_row w3 (A + 1) 2 _ _ _ hr
    have r3 := cell_of_row w3 (A + 1) 3 _ _ _ hr
    simp only [List.getElem?_toArray, List.getElem?_cons_zero, List.getElem?_cons_succ] at r0 r1 r2 r3
    have f0 := frozen_of_row w3 (A + 1) 0 _ _ hr
    have f1 := frozen_of_row w3 (A + 1) 1 _ _ hr
    have f2 := frozen_of_row w3 (A + 1) 2 _ _ hr
    have f3 := frozen_of_row w3 (A + 1) 3 _ _ hr
    have hbz := heap_lt hr
    clear hr
    go_wp2_with fail
    have k3 := set4 H3.out.hr (.int .i64 0) (.int .i64 0) (.slice none 0 0) (.slice none 0 0)
    have k4 := set4_below (g := A + 1) H3.out.below (Nat.le_succ _) (.int .i64 0) (.int .i64 0) (.slice none 0 0) (.slice none 0 0)
    clear r0 r1 r2 r3 f0 f1 f2 f3
    generalize World.setCell _ _ _ = w5 at k3 k4 ⊢
    have q0 := cell_of_row w5 (A + 1) 0 _ _ _ k3
    have q1 := cell_of_row w5 (A + 1) 1 _ _ _ k3
    have q2 := cell_of_row w5 (A + 1) 2 _ _ _ k3
    have q3 := cell_of_row w5 (A + 1) 3 _ _ _ k3
    simp only [List.getElem?_toArray, List.getElem?_cons_zero, List.getElem?_cons_succ] at q0 q1 q2 q3
    refine bodyPost_ret (v := .tuple #[rnil, .int .i64 2]) (by simp [results, Tryd.results28, go_sem, q0, q1, q2, q3]) rfl ⟨rfl, ?_⟩
    rw [← HA.out]; exact k4
  · skip
    have HV := hid (verr_ok hr)
    have hf := (fst_in hp.1 hp.2).1
    obtain ⟨a, ha⟩ : ∃ a, a = fst p := ⟨_, rfl⟩
    rw [← ha] at hf
    have HF := hid ha
    have HZ := hid (fun i (hi : i < n) => And.intro (hr.fine i hi).1 (hr.fine i hi).2.1)
    have hn2 : n ≤ 1024 := by have := hr.sets; have := hr.sized.bound; omega
    have HL : Hid (Lie n Z t p = false) := hid ((lie_of ⟨ht.1, ht.2, hp.1, hp.2⟩).trans hh)
    obtain ⟨ht1, ht2⟩ := ht
    clear hr hp hh ha
    go_enter Tryd.func28, Tryd.ntmps28
    go_wp2_with fail
    refine (refvalidate_any W H ao n cap Z bo m bcap B hn hm _ HI.out HB.out 0 HV.out).mono ?_
    rintro r w2 ⟨rfl, hb2⟩
    have H2 := hid (HST.out.stays hb2)
    have HI2 := hid (HI.out.stays hb2)
    have HB2 := hid (HB.out.stays hb2)
    simp only [← hA] at H2 ⊢
    clear hA hb2 HST HI HB
    have b0 := cell_of_row w2 A 0 _ _ _ H2.out.hb
    have b1 := cell_of_row w2 A 1 _ _ _ H2.out.hb
    have b2 := cell_of_row w2 A 2 _ _ _ H2.out.hb
    have b3 := cell_of_row w2 A 3 _ _ _ H2.out.hb
    simp only [List.getElem?_toArray, List.getElem?_cons_zero, List.getElem?_cons_succ] at b0 b1 b2 b3
    go_wp2_with (go_at_call 41; refine (first_any _ _).mono ?_; rintro e w' ⟨rfl, rfl⟩; rw [← HF.out])
    refine (reflies_any W H ao n cap Z _ t p (fun i hi => HZ.out i hi) false HL.out _ HI2.out).mono ?_
    rintro r w3 ⟨rfl, hb3⟩
    have H3 := hid (H2.out.stays hb3)
    clear hb3 H2 HI2 HB2 b0 b1 b2 b3
    have hr := H3.out.hr
    have r0 := cell_of_row w3 (A + 1) 0 _ _ _ hr
    have r1 := cell_of_row w3 (A + 1) 1 _ _ _ hr
    have r2 := cell_of_row w3 (A + 1) 2 _ _ _ hr
    have r3 := cell_of_row w3 (A + 1) 3 _ _ _ hr
    simp only [List.getElem?_toArray, List.getElem?_cons_zero, List.getElem?_cons_succ] at r0 r1 r2 r3
    have f0 := frozen_of_row w3 (A + 1) 0 _ _ hr
    have f1 := frozen_of_row w3 (A + 1) 1 _ _ hr
    have f2 := frozen_of_row w3 (A + 1) 2 _ _ hr
    have f3 := frozen_of_row w3 (A + 1) 3 _ _ hr
    have hbz := heap_lt hr
    clear hr
    go_wp2_with fail
    have k3 := set4 H3.out.hr (.int .i64 0) (.int .i64 0) (.slice none 0 0) (.slice none 0 0)
    have k4 := set4_below (g := A + 1) H3.out.below (Nat.le_succ _) (.int .i64 0) (.int .i64 0) (.slice none 0 0) (.slice none 0 0)
    clear r0 r1 r2 r3 f0 f1 f2 f3
    generalize World.setCell _ _ _ = w5 at k3 k4 ⊢
    have q0 := cell_of_row w5 (A + 1) 0 _ _ _ k3
    have q1 := cell_of_row w5 (A + 1) 1 _ _ _ k3
    have q2 := cell_of_row w5 (A + 1) 2 _ _ _ k3
    have q3 := cell_of_row w5 (A + 1) 3 _ _ _ k3
    simp only [List.getElem?_toArray, List.getElem?_cons_zero, List.getElem?_cons_succ] at q0 q1 q2 q3
    refine bodyPost_ret (v := .tuple #[rnil, .int .i64 2]) (by simp [results, Tryd.results28, go_sem, q0, q1, q2, q3]) rfl ⟨rfl, ?_⟩
    rw [← HA.out]; exact k4

set_option maxRecDepth 100000 in
set_option maxHeartbeats 3200000 in
theorem reflift_ok (W H : Int) (ao : Option Addr) (n cap : Nat) (Z : Nat → Int) (bo : Option Addr) (bcap : Nat) (B : Nat → Bool) (t : Nat) (p : Int) (hR : Right W H n n Z B) (hp : 0 ≤ p ∧ p ≤ 5) (ht : t < n) (hh : has (Z t) p = true) (w : World) (hI : Ints w ao n Z) (hB : Bools w bo n B) :
    Calls Tryd.prog 28 #[rv W H (.slice ao n cap) (.slice bo n bcap), .int .i64 t, .int .i64 p] w (Made W H n (upd Z t (Z t - 2 ^ p.toNat)) (upd B t (B t && decide (0 < Z t - 2 ^ p.toNat))) w) := by
  have hbd := hR.sized.bound
  have hn1 : 0 < n := by have := hR.sets; omega
  have hn2 : n ≤ 1024 := by have := hR.sets; omega
  have hn : n ≤ 9223372036854775807 := by omega
  have hm := hn
  have hst := bx2_start w 25 25 #[.int .i64 W, .int .i64 H, .slice ao n cap, .slice bo n bcap] #[.int .i64 0, .int .i64 0, .slice none 0 0, .slice none 0 0]
  have HI := hid (hI.stays hst.below)
  have HB := hid (hB.stays hst.below)
  have HST := hid hst
  obtain ⟨A, hA⟩ : ∃ A, A = w.heap.size := ⟨_, rfl⟩
  have HA := hid hA
  have HV := hid (verr_ok hR)
  have hf := (fst_in hp.1 hp.2).1
  obtain ⟨a, ha⟩ : ∃ a, a = fst p := ⟨_, rfl⟩
  rw [← ha] at hf
  have HF := hid ha
  have HZ := hid (fun i (hi : i < n) => And.intro (hR.fine i hi).1 (hR.fine i hi).2.1)
  have HL0 : Hid (Lie n Z t p = true) := hid ((lie_of ⟨by omega, by omega, hp.1, hp.2⟩).trans hh)
  have hz := hR.fine t ht
  obtain ⟨z, hzz⟩ : ∃ z, z = Z t := ⟨_, rfl⟩
  obtain ⟨x, hxx⟩ : ∃ x, x = B t := ⟨_, rfl⟩
  rw [← hzz] at hz hh ⊢
  rw [← hxx] at hz ⊢
  have HZZ := hid hzz
  have HXX := hid hxx
  obtain ⟨hz0, hz63, hzb⟩ := hz
  have hqb := clr_bd ⟨hz0, hz63⟩ hp hh
  obtain ⟨hp1, hp2⟩ := hp
  have t1 : (0 : Int) ≤ (t : Int) := by omega
  have t2 : (t : Int) < (n : Int) := by omega
  clear hI hB hst hzz hxx hh hR hzb hbd ha
  go_enter Tryd.func28, Tryd.ntmps28
  go_wp2_with fail
  refine (refvalidate_any W H ao n cap Z bo n bcap B hn hm _ HI.out HB.out 0 HV.out).mono ?_
  rintro r w2 ⟨rfl, hb2⟩
  have H2 := hid (HST.out.stays hb2)
  have HI2 := hid (HI.out.stays hb2)
  have HB2 := hid (HB.out.stays hb2)
  simp only [← hA] at H2 ⊢
  clear hA hb2 HST HI HB
  have b0 := cell_of_row w2 A 0 _ _ _ H2.out.hb
  have b1 := cell_of_row w2 A 1 _ _ _ H2.out.hb
  have b2 := cell_of_row w2 A 2 _ _ _ H2.out.hb
  have b3 := cell_of_row w2 A 3 _ _ _ H2.out.hb
  simp only [List.getElem?_toArray, List.getElem?_cons_zero, List.getElem?_cons_succ] at b0 b1 b2 b3
  go_wp2_with (go_at_call 41; refine (first_any _ _).mono ?_; rintro e w' ⟨rfl, rfl⟩; rw [← HF.out])
  refine (reflies_any W H ao n cap Z _ t p (fun i hi => HZ.out i hi) true HL0.out _ HI2.out).mono ?_
  rintro r w3 ⟨rfl, hb3⟩
  have H3 := hid (H2.out.stays hb3)
  have HI3 := hid (HI2.out.stays hb3)
  have HB3 := hid (HB2.out.stays hb3)
  clear hb3 b0 b1 b2 b3 H2 HI2 HB2
  have b0 := cell_of_row w3 A 0 _ _ _ H3.out.hb
  have b1 := cell_of_row w3 A 1 _ _ _ H3.out.hb
  have b2 := cell_of_row w3 A 2 _ _ _ H3.out.hb
  have b3 := cell_of_row w3 A 3 _ _ _ H3.out.hb
  simp only [List.getElem?_toArray, List.getElem?_cons_zero, List.getElem?_cons_succ] at b0 b1 b2 b3
  go_wp2_with fail
  refine (copy_any W H ao n cap Z bo bcap B hn1 (by omega) _ HI3.out HB3.out).mono ?_
  rintro r w4 ⟨g, c, k, d, rfl, hg, hk, hgk, hb4⟩
  have H4 := hid (H3.out.stays hb4)
  have hgz := hg.lt g rfl
  have hkz := hk.lt k rfl
  have hA4 := heap_lt H3.out.hr
  have HG4 := hid (row_mono (base' := A) hg (by omega))
  have HK4 := hid (row_mono (base' := A) hk (by omega))
  have HL : Hid (LS A w4.heap.size g c k d n W H Z B w (w4.alloc (.cells #[.int .i64 W, .int .i64 H, .slice (some ⟨g, 0, none⟩) n c, .slice (some ⟨k, 0, none⟩) n d] 25))) :=
    hid (ls_alloc H4.out HG4.out HK4.out (by omega) (by omega) hgk)
  clear hb4 hg hk b0 b1 b2 b3 H3 HI3 HB3
  obtain ⟨o, ho⟩ : ∃ o, o = w4.heap.size := ⟨_, rfl⟩
  rw [← ho] at HL
  go_wp2_with fail
  simp only [← ho]
  clear H4 HG4 HK4 hgz hkz ho
  generalize World.alloc _ _ = w5 at HL ⊢
  obtain ⟨c2, c3, cg, fg, sg⟩ := HL.out.g_at ht
  rw [← HZZ.out] at cg
  have hAz := heap_lt HL.out.hr
  obtain ⟨qb1, qb2, qb3, qb4⟩ := hqb
  have HQ2 : Hid (wrap64 (2 ^ p.toNat) = 2 ^ p.toNat) := hid (by unfold wrap64; omega)
  go_still_tail 9, (by kernel_rfl)
  change wpList _ _ _ _ _ w5.drew
  have HL1 := hid HL.out.drew
  clear c2 c3 cg fg sg HL
  generalize w5.drew = w6 at HL1 ⊢
  obtain ⟨c2, c3, cg, fg, sg⟩ := HL1.out.g_at ht
  go_wp2_with fail
  obtain ⟨y, hy⟩ : ∃ y, y = z - 2 ^ p.toNat := ⟨_, rfl⟩
  rw [← hy]
  rw [← hy] at qb3 qb4
  have HY := hid hy
  clear hy qb1 qb2
  have HL2 := hid (HL1.out.setG t y)
  clear c2 c3 cg fg sg HL1
  generalize w6.setCell _ _ = w7 at HL2 ⊢
  obtain ⟨c2, c3, ck, fk, sk⟩ := HL2.out.k_at ht
  rw [← HXX.out] at ck
  obtain ⟨_, _, cg, _, sg⟩ := HL2.out.g_at ht
  rw [show upd Z t y t = y by unfold upd; rw [if_pos rfl]] at cg
  generalize IntKind.i64.wrap (2 ^ p.toNat) = v1
  cases x
  · clear c2 c3 ck fk sk cg sg
    have hbt := HXX.out.symm
    have HBT := hid hbt
    clear hbt
    refine wp_region_held_drew (S := (fun w' => LS A o g c k d n W H (upd Z t y) B w w' ∧ w'.cell? ⟨o, 2, none⟩ = some (.slice (some ⟨g, 0, none⟩) n c) ∧ w'.cell? ⟨o, 3, none⟩ = some (.slice (some ⟨k, 0, none⟩) n d) ∧ w'.cell? ⟨k, t, none⟩ = some (.bool false))) (by kernel_rfl) (ls_keep HL2.out.drew ht HBT.out) (fun hHeld => ?_)
    refine wpAnyH_take (i := 0) (oi := { dst := some 37, op := Op.fieldAddr 25 (Operand.tmp 9) 3, type := 0, pos := "ref.go:168", after := #[], guard := none }) (v := ?_) rfl (by kernel_rfl) (by kernel_rfl) (by kernel_rfl) (fun _ _ _ h => h) (Or.inl ⟨by rfl, ?_⟩) (by assumption) ?_
    rotate_left
    · intro w hSw; (try dsimp only at hSw); go_simp; try (with_reducible rfl)
    try simp only [Act.put, List.setIfInBounds_toArray, List.set_cons_zero, List.set_cons_succ]
    refine wpAnyH_take (i := 1) (oi := { dst := some 38, op := Op.load 23 (Operand.tmp 37), type := 23, pos := "ref.go:168", after := #[{ on := 0, ground := Ground.data }], guard := none }) (v := ?_) rfl (by kernel_rfl) (by kernel_rfl) (by kernel_rfl) (fun _ _ _ h => h) (Or.inl ⟨by rfl, ?_⟩) (by assumption) ?_
    rotate_left
    · intro w hSw; (try dsimp only at hSw); go_simp; try (with_reducible rfl)
    try simp only [Act.put, List.setIfInBounds_toArray, List.set_cons_zero, List.set_cons_succ]
    refine wpAnyH_take (i := 2) (oi := { dst := some 39, op := Op.move (Operand.tmp 1), type := 3, pos := "ref.go:168", after := #[], guard := none }) (v := ?_) rfl (by kernel_rfl) (by kernel_rfl) (by kernel_rfl) (fun _ _ _ h => h) (Or.inl ⟨by rfl, ?_⟩) (by assumption) ?_
    rotate_left
    · intro w hSw; (try dsimp only at hSw); go_simp; try (with_reducible rfl)
    try simp only [Act.put, List.setIfInBounds_toArray, List.set_cons_zero, List.set_cons_succ]
    refine wpAnyH_take (i := 3) (oi := { dst := some 40, op := Op.fieldAddr 25 (Operand.tmp 9) 3, type := 0, pos := "ref.go:168", after := #[], guard := none }) (v := ?_) rfl (by kernel_rfl) (by kernel_rfl) (by kernel_rfl) (fun _ _ _ h => h) (Or.inl ⟨by rfl, ?_⟩) (by assumption) ?_
    rotate_left
    · intro w hSw; (try dsimp only at hSw); go_simp; try (with_reducible rfl)
    try simp only [Act.put, List.setIfInBounds_toArray, List.set_cons_zero, List.set_cons_succ]
    refine wpAnyH_take (i := 4) (oi := { dst := some 41, op := Op.load 23 (Operand.tmp 40), type := 23, pos := "ref.go:168", after := #[{ on := 3, ground := Ground.data }], guard := none }) (v := ?_) rfl (by kernel_rfl) (by kernel_rfl) (by kernel_rfl) (fun _ _ _ h => h) (Or.inl ⟨by rfl, ?_⟩) (by assumption) ?_
    rotate_left
    · intro w hSw; (try dsimp only at hSw); go_simp; try (with_reducible rfl)
    try simp only [Act.put, List.setIfInBounds_toArray, List.set_cons_zero, List.set_cons_succ]
    refine wpAnyH_take (i := 5) (oi := { dst := some 42, op := Op.move (Operand.tmp 1), type := 3, pos := "ref.go:168", after := #[], guard := none }) (v := ?_) rfl (by kernel_rfl) (by kernel_rfl) (by kernel_rfl) (fun _ _ _ h => h) (Or.inl ⟨by rfl, ?_⟩) (by assumption) ?_
    rotate_left
    · intro w hSw; (try dsimp only at hSw); go_simp; try (with_reducible rfl)
    try simp only [Act.put, List.setIfInBounds_toArray, List.set_cons_zero, List.set_cons_succ]
    refine wpAnyH_take (i := 6) (oi := { dst := some 43, op := Op.indexAddr 23 (Operand.tmp 41) (Operand.tmp 42), type := 0, pos := "ref.go:168", after := #[{ on := 4, ground := Ground.data }, { on := 5, ground := Ground.data }], guard := none }) (v := ?_) rfl (by kernel_rfl) (by kernel_rfl) (by kernel_rfl) (fun _ _ _ h => h) (Or.inl ⟨by rfl, ?_⟩) (by assumption) ?_
    rotate_left
    · intro w hSw; (try dsimp only at hSw); go_simp; try (with_reducible rfl)
    try simp only [Act.put, List.setIfInBounds_toArray, List.set_cons_zero, List.set_cons_succ]
    refine wpAnyH_take (i := 7) (oi := { dst := some 44, op := Op.load 4 (Operand.tmp 43), type := 4, pos := "ref.go:168", after := #[{ on := 6, ground := Ground.data }], guard := none }) (v := ?_) rfl (by kernel_rfl) (by kernel_rfl) (by kernel_rfl) (fun _ _ _ h => h) (Or.inl ⟨by rfl, ?_⟩) (by assumption) ?_
    rotate_left
    · intro w hSw; (try dsimp only at hSw); go_simp; try (with_reducible rfl)
    try simp only [Act.put, List.setIfInBounds_toArray, List.set_cons_zero, List.set_cons_succ]
    refine wpAnyH_take (i := 8) (oi := { dst := some 45, op := Op.move (Operand.tmp 44), type := 4, pos := "ref.go:168", after := #[{ on := 7, ground := Ground.data }], guard := none }) (v := ?_) rfl (by kernel_rfl) (by kernel_rfl) (by kernel_rfl) (fun _ _ _ h => h) (Or.inl ⟨by rfl, ?_⟩) (by assumption) ?_
    rotate_left
    · intro w hSw; (try dsimp only at hSw); go_simp; try (with_reducible rfl)
    try simp only [Act.put, List.setIfInBounds_toArray, List.set_cons_zero, List.set_cons_succ]
    refine wpAnyH_take (i := 9) (oi := { dst := some 46, op := Op.fieldAddr 25 (Operand.tmp 9) 2, type := 0, pos := "ref.go:168", after := #[{ on := 8, ground := Ground.guard }], guard := some (8, true) }) (v := undef) rfl (by kernel_rfl) (by kernel_rfl) (by kernel_rfl) (fun _ _ _ h => h) (Or.inr ⟨by rfl, rfl⟩) (by assumption) ?_
    try simp only [Act.put, List.setIfInBounds_toArray, List.set_cons_zero, List.set_cons_succ]
    refine wpAnyH_take (i := 10) (oi := { dst := some 47, op := Op.load 22 (Operand.tmp 46), type := 22, pos := "ref.go:168", after := #[{ on := 9, ground := Ground.data }, { on := 8, ground := Ground.guard }], guard := some (8, true) }) (v := undef) rfl (by kernel_rfl) (by kernel_rfl) (by kernel_rfl) (fun _ _ _ h => h) (Or.inr ⟨by rfl, rfl⟩) (by assumption) ?_
    try simp only [Act.put, List.setIfInBounds_toArray, List.set_cons_zero, List.set_cons_succ]
    refine wpAnyH_take (i := 11) (oi := { dst := some 48, op := Op.move (Operand.tmp 1), type := 3, pos := "ref.go:168", after := #[{ on := 8, ground := Ground.guard }], guard := some (8, true) }) (v := undef) rfl (by kernel_rfl) (by kernel_rfl) (by kernel_rfl) (fun _ _ _ h => h) (Or.inr ⟨by rfl, rfl⟩) (by assumption) ?_
    try simp only [Act.put, List.setIfInBounds_toArray, List.set_cons_zero, List.set_cons_succ]
    refine wpAnyH_take (i := 12) (oi := { dst := some 49, op := Op.indexAddr 22 (Operand.tmp 47) (Operand.tmp 48), type := 0, pos := "ref.go:168", after := #[{ on := 10, ground := Ground.data }, { on := 11, ground := Ground.data }, { on := 8, ground := Ground.guard }], guard := some (8, true) }) (v := undef) rfl (by kernel_rfl) (by kernel_rfl) (by kernel_rfl) (fun _ _ _ h => h) (Or.inr ⟨by rfl, rfl⟩) (by assumption) ?_
    try simp only [Act.put, List.setIfInBounds_toArray, List.set_cons_zero, List.set_cons_succ]
    refine wpAnyH_take (i := 13) (oi := { dst := some 50, op := Op.load 3 (Operand.tmp 49), type := 3, pos := "ref.go:168", after := #[{ on := 12, ground := Ground.data }, { on := 8, ground := Ground.guard }], guard := some (8, true) }) (v := undef) rfl (by kernel_rfl) (by kernel_rfl) (by kernel_rfl) (fun _ _ _ h => h) (Or.inr ⟨by rfl, rfl⟩) (by assumption) ?_
    try simp only [Act.put, List.setIfInBounds_toArray, List.set_cons_zero, List.set_cons_succ]
    refine wpAnyH_take (i := 14) (oi := { dst := some 51, op := Op.binOp BinOp.gtr 3 (Operand.tmp 50) (Operand.const (Value.int IntKind.i64 0)) 3, type := 4, pos := "ref.go:168", after := #[{ on := 13, ground := Ground.data }, { on := 8, ground := Ground.guard }], guard := some (8, true) }) (v := undef) rfl (by kernel_rfl) (by kernel_rfl) (by kernel_rfl) (fun _ _ _ h => h) (Or.inr ⟨by rfl, rfl⟩) (by assumption) ?_
    try simp only [Act.put, List.setIfInBounds_toArray, List.set_cons_zero, List.set_cons_succ]
    refine wpAnyH_take (i := 15) (oi := { dst := some 52, op := Op.pick (Operand.tmp 45) (Operand.tmp 51) (Operand.const (Value.bool false)), type := 4, pos := "ref.go:168", after := #[{ on := 8, ground := Ground.data }, { on := 14, ground := Ground.data }], guard := none }) (v := ?_) rfl (by kernel_rfl) (by kernel_rfl) (by kernel_rfl) (fun _ _ _ h => h) (Or.inl ⟨by rfl, ?_⟩) (by assumption) ?_
    rotate_left
    · intro w hSw; (try dsimp only at hSw); go_simp; try (with_reducible rfl)
    try simp only [Act.put, List.setIfInBounds_toArray, List.set_cons_zero, List.set_cons_succ]
    refine wpAnyH_take (i := 16) (oi := { dst := some 53, op := Op.indexAddr 23 (Operand.tmp 38) (Operand.tmp 39), type := 0, pos := "ref.go:168", after := #[{ on := 1, ground := Ground.data }, { on := 2, ground := Ground.data }, { on := 0, ground := Ground.phase }, { on := 1, ground := Ground.phase }, { on := 2, ground := Ground.phase }, { on := 3, ground := Ground.phase }, { on := 4, ground := Ground.phase }, { on := 5, ground := Ground.phase }, { on := 6, ground := Ground.phase }, { on := 7, ground := Ground.phase }, { on := 8, ground := Ground.phase }, { on := 9, ground := Ground.phase }, { on := 10, ground := Ground.phase }, { on := 11, ground := Ground.phase }, { on := 12, ground := Ground.phase }, { on := 13, ground := Ground.phase }, { on := 14, ground := Ground.phase }, { on := 15, ground := Ground.phase }], guard := none }) (v := ?_) rfl (by kernel_rfl) (by kernel_rfl) (by kernel_rfl) (fun _ _ _ h => h) (Or.inl ⟨by rfl, ?_⟩) (by assumption) ?_
    rotate_left
    · intro w hSw; (try dsimp only at hSw); go_simp; try (with_reducible rfl)
    try simp only [Act.put, List.setIfInBounds_toArray, List.set_cons_zero, List.set_cons_succ]
    refine wpAnyH_ready (rs := [17]) (by kernel_rfl) (by simp) ?_
    refine AllReadyH.cons (o := { dst := none, op := Op.store 4 (Operand.tmp 53) (Operand.tmp 52), type := 0, pos := "ref.go:168", after := #[{ on := 16, ground := Ground.data }, { on := 15, ground := Ground.data }, { on := 8, ground := Ground.chain }, { on := 0, ground := Ground.phase }, { on := 1, ground := Ground.phase }, { on := 2, ground := Ground.phase }, { on := 3, ground := Ground.phase }, { on := 4, ground := Ground.phase }, { on := 5, ground := Ground.phase }, { on := 6, ground := Ground.phase }, { on := 7, ground := Ground.phase }, { on := 8, ground := Ground.phase }, { on := 9, ground := Ground.phase }, { on := 10, ground := Ground.phase }, { on := 11, ground := Ground.phase }, { on := 12, ground := Ground.phase }, { on := 13, ground := Ground.phase }, { on := 14, ground := Ground.phase }, { on := 15, ground := Ground.phase }], guard := none }) rfl (fun K hK => ?_) AllReadyH.nil
    have hLS := ls_of (by assumption)
    obtain ⟨_, _, ck, fk, sk⟩ := hLS.k_at ht
    go_simp
    refine hK.out _ _ (ls_keep (ls_put hLS HBT.out) ht HBT.out) (fun hHeld2 => ?_)
    clear hK K
    try simp only [Act.put, List.setIfInBounds_toArray, List.set_cons_zero, List.set_cons_succ]
    refine wpAnyH_done (by kernel_rfl) ?_ _
    clear ck fk sk
    have HL4 := hid (HL2.out.setK t false).drew
    clear hLS HL2
    generalize World.drew _ = w9 at HL4 ⊢
    have b0 := cell_of_row w9 o 0 _ _ _ HL4.out.ho
    have b1 := cell_of_row w9 o 1 _ _ _ HL4.out.ho
    have b2 := cell_of_row w9 o 2 _ _ _ HL4.out.ho
    have b3 := cell_of_row w9 o 3 _ _ _ HL4.out.ho
    simp only [List.getElem?_toArray, List.getElem?_cons_zero, List.getElem?_cons_succ] at b0 b1 b2 b3
    have hr := HL4.out.hr
    have n1 := HL4.out.nk.1
    have n2 := HL4.out.nk.2
    have n3 := n1.symm
    have n4 := n2.symm
    have r0 := cell_of_row w9 (A + 1) 0 _ _ _ hr
    have r1 := cell_of_row w9 (A + 1) 1 _ _ _ hr
    have r2 := cell_of_row w9 (A + 1) 2 _ _ _ hr
    have r3 := cell_of_row w9 (A + 1) 3 _ _ _ hr
    simp only [List.getElem?_toArray, List.getElem?_cons_zero, List.getElem?_cons_succ] at r0 r1 r2 r3
    have f0 := frozen_of_row w9 (A + 1) 0 _ _ hr
    have f1 := frozen_of_row w9 (A + 1) 1 _ _ hr
    have f2 := frozen_of_row w9 (A + 1) 2 _ _ hr
    have f3 := frozen_of_row w9 (A + 1) 3 _ _ hr
    have hbz := heap_lt hr
    have hoz := heap_lt HL4.out.ho
    clear hr
    go_wp2_with fail
    have k3 := set4 HL4.out.hr (.int .i64 W) (.int .i64 H) (.slice (some ⟨g, 0, none⟩) n c) (.slice (some ⟨k, 0, none⟩) n d)
    have k4 := set4_below (g := A + 1) HL4.out.below (Nat.le_succ _) (.int .i64 W) (.int .i64 H) (.slice (some ⟨g, 0, none⟩) n c) (.slice (some ⟨k, 0, none⟩) n d)
    have k5 := set4_row (g := A + 1) HL4.out.rg (by simpa [Value.ownBlock] using HL4.out.ng.2) (.int .i64 W) (.int .i64 H) (.slice (some ⟨g, 0, none⟩) n c) (.slice (some ⟨k, 0, none⟩) n d)
    have k6 := set4_row (g := A + 1) HL4.out.rk (by simpa [Value.ownBlock] using HL4.out.nk.2) (.int .i64 W) (.int .i64 H) (.slice (some ⟨g, 0, none⟩) n c) (.slice (some ⟨k, 0, none⟩) n d)
    clear r0 r1 r2 r3 f0 f1 f2 f3 b0 b1 b2 b3 n1 n2 n3 n4
    generalize World.setCell _ _ _ = w10 at k3 k4 k5 k6 ⊢
    have q0 := cell_of_row w10 (A + 1) 0 _ _ _ k3
    have q1 := cell_of_row w10 (A + 1) 1 _ _ _ k3
    have q2 := cell_of_row w10 (A + 1) 2 _ _ _ k3
    have q3 := cell_of_row w10 (A + 1) 3 _ _ _ k3
    simp only [List.getElem?_toArray, List.getElem?_cons_zero, List.getElem?_cons_succ] at q0 q1 q2 q3
    refine bodyPost_ret (v := .tuple #[rv W H (.slice (some ⟨g, 0, none⟩) n c) (.slice (some ⟨k, 0, none⟩) n d), .int .i64 0]) (by simp [results, Tryd.results28, go_sem, q0, q1, q2, q3]) rfl ⟨g, c, k, d, rfl, by rw [← HA.out]; first | exact k5 | (rw [← HY.out]; exact k5), by rw [← HA.out]; first | exact k6 | (rw [← HY.out]; exact k6), by rw [← HA.out]; exact k4⟩
  · go_still_tail 17, (by kernel_rfl)
    change wpList _ _ _ _ _ w7.drew
    have HL3 := hid HL2.out.drew
    clear c2 c3 ck fk sk HL2 cg sg
    generalize w7.drew = w8 at HL3 ⊢
    obtain ⟨c2, c3, ck, fk, sk⟩ := HL3.out.k_at ht
    have HL4 := hid (HL3.out.setK t (decide (0 < y)))
    have b0 := cell_of_row w8 o 0 _ _ _ HL3.out.ho
    have b1 := cell_of_row w8 o 1 _ _ _ HL3.out.ho
    have b2 := cell_of_row w8 o 2 _ _ _ HL3.out.ho
    have b3 := cell_of_row w8 o 3 _ _ _ HL3.out.ho
    simp only [List.getElem?_toArray, List.getElem?_cons_zero, List.getElem?_cons_succ] at b0 b1 b2 b3
    have hr := HL3.out.hr
    have n1 := HL3.out.nk.1
    have n2 := HL3.out.nk.2
    have n3 := n1.symm
    have n4 := n2.symm
    have r0 := cell_of_row w8 (A + 1) 0 _ _ _ hr
    have r1 := cell_of_row w8 (A + 1) 1 _ _ _ hr
    have r2 := cell_of_row w8 (A + 1) 2 _ _ _ hr
    have r3 := cell_of_row w8 (A + 1) 3 _ _ _ hr
    simp only [List.getElem?_toArray, List.getElem?_cons_zero, List.getElem?_cons_succ] at r0 r1 r2 r3
    have f0 := frozen_of_row w8 (A + 1) 0 _ _ hr
    have f1 := frozen_of_row w8 (A + 1) 1 _ _ hr
    have f2 := frozen_of_row w8 (A + 1) 2 _ _ hr
    have f3 := frozen_of_row w8 (A + 1) 3 _ _ hr
    have hbz := heap_lt hr
    have hoz := heap_lt HL3.out.ho
    clear hr
    go_wp2_with fail
    have k3 := set4 HL4.out.hr (.int .i64 W) (.int .i64 H) (.slice (some ⟨g, 0, none⟩) n c) (.slice (some ⟨k, 0, none⟩) n d)
    have k4 := set4_below (g := A + 1) HL4.out.below (Nat.le_succ _) (.int .i64 W) (.int .i64 H) (.slice (some ⟨g, 0, none⟩) n c) (.slice (some ⟨k, 0, none⟩) n d)
    have k5 := set4_row (g := A + 1) HL4.out.rg (by simpa [Value.ownBlock] using HL4.out.ng.2) (.int .i64 W) (.int .i64 H) (.slice (some ⟨g, 0, none⟩) n c) (.slice (some ⟨k, 0, none⟩) n d)
    have k6 := set4_row (g := A + 1) HL4.out.rk (by simpa [Value.ownBlock] using HL4.out.nk.2) (.int .i64 W) (.int .i64 H) (.slice (some ⟨g, 0, none⟩) n c) (.slice (some ⟨k, 0, none⟩) n d)
    clear r0 r1 r2 r3 f0 f1 f2 f3 b0 b1 b2 b3 c2 c3 ck fk sk n1 n2 n3 n4
    generalize World.setCell _ _ _ = w10 at k3 k4 k5 k6 ⊢
    have q0 := cell_of_row w10 (A + 1) 0 _ _ _ k3
    have q1 := cell_of_row w10 (A + 1) 1 _ _ _ k3
    have q2 := cell_of_row w10 (A + 1) 2 _ _ _ k3
    have q3 := cell_of_row w10 (A + 1) 3 _ _ _ k3
    simp only [List.getElem?_toArray, List.getElem?_cons_zero, List.getElem?_cons_succ] at q0 q1 q2 q3
    refine bodyPost_ret (v := .tuple #[rv W H (.slice (some ⟨g, 0, none⟩) n c) (.slice (some ⟨k, 0, none⟩) n d), .int .i64 0]) (by simp [results, Tryd.results28, go_sem, q0, q1, q2, q3]) rfl ⟨g, c, k, d, rfl, by rw [← HA.out]; first | exact k5 | (rw [← HY.out]; exact k5), by rw [← HA.out]; first | exact k6 | (rw [← HY.out]; exact k6), by rw [← HA.out]; exact k4⟩
end Go.Proofs.YtlpmahdplilbiaaDoor
