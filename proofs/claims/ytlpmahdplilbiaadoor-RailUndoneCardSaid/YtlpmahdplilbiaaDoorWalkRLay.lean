/-
  The walks of Lay of the reference.
-/
import Derived.Test.YtlpmahdplilbiaaDoorWalkLay
import Derived.Test.YtlpmahdplilbiaaDoorWalkRVal
import Derived.Deep.RegionHeld3
namespace Go.Proofs.YtlpmahdplilbiaaDoor
open Go.RowKit

set_option maxHeartbeats 1600000 in
theorem reflay_bad (W H : Int) (ao : Option Addr) (n cap : Nat) (Z : Nat → Int) (bo : Option Addr) (m bcap : Nat) (B : Nat → Bool) (hn : n ≤ 9223372036854775807) (hm : m ≤ 9223372036854775807) (t p : Int) (wired : Bool) (e : Int) (he : e ≠ 0) (h : LErr true 3 W H n m Z B t p e) (w : World) (hI : Ints w ao n Z) (hB : Bools w bo m B) :
    Calls Tryd.prog 25 #[rv W H (.slice ao n cap) (.slice bo m bcap), .int .i64 t, .int .i64 p, .bool wired] w fun r w' => r = .returned (.tuple #[rnil, .int .i64 e]) ∧ Below w.heap.size w w' := by
  have hst := bx2_start w 25 25 #[.int .i64 W, .int .i64 H, .slice ao n cap, .slice bo m bcap] #[.int .i64 0, .int .i64 0, .slice none 0 0, .slice none 0 0]
  have HI := hid (hI.stays hst.below)
  have HB := hid (hB.stays hst.below)
  have HST := hid hst
  obtain ⟨A, hA⟩ : ∃ A, A = w.heap.size := ⟨_, rfl⟩
  have HA := hid hA
  have h : (e = 1 ∧ ¬ Right W H n m Z B) ∨ (e = 1 ∧ Right W H n m Z B ∧ ¬ (0 ≤ p ∧ p ≤ 5)) ∨ (e = 2 ∧ Right W H n m Z B ∧ (0 ≤ p ∧ p ≤ 5) ∧ ¬ (0 ≤ t ∧ t < n)) ∨ (e = 3 ∧ Right W H n m Z B ∧ (0 ≤ p ∧ p ≤ 5) ∧ (0 ≤ t ∧ t < n) ∧ has (Z t.toNat) p = true) := by
    rcases h.place with (h | h | h | h) | ⟨h, h0, ht, hh⟩
    · exact .inl h
    · exact .inr (.inl h)
    · exact .inr (.inr (.inl h))
    · exact absurd h.1 he
    · exact .inr (.inr (.inr ⟨h, h0.right.1, h0.piece, ht, hh⟩))
  clear he hst hI hB
  rcases h with ⟨rfl, hr⟩ | ⟨rfl, hr, hp⟩ | ⟨rfl, hr, hp, ht⟩ | ⟨rfl, hr, hp, ht, hh⟩
  · have HV := hid (verr_no hr)
    clear hr
    go_enter Tryd.func25, Tryd.ntmps25
    go_wp2_with fail
    refine (refvalidate_any W H ao n cap Z bo m bcap B hn hm _ HI.out HB.out 1 HV.out).mono ?_
    rintro r w2 ⟨rfl, hb2⟩
    have H2 := hid (HST.out.stays hb2)
    have HI2 := hid (HI.out.stays hb2)
    have HB2 := hid (HB.out.stays hb2)
    simp only [← hA] at H2 ⊢
    clear hA hb2 HST HI HB
    clear HI2 HB2
    have hr := H2.out.hr
    have r0 := cell_of_row w2 (A + 1) 0 _ _ _ hr
    have r1 := cell_of_row w2 (A + 1) 1 _ _ _ hr
    have r2 := cell_of_row w2 (A + 1) 2 _ _ _ hr
    have r3 := cell_of_row w2 (A + 1) 3 _ _ _ hr
    simp only [List.getElem?_toArray, List.getElem?_cons_zero, List.getElem?_cons_succ] at r0 r1 r2 r3
    have f0 := frozen_of_row w2 (A + 1) 0 _ _ hr
    have f1 := frozen_of_row w2 (A + 1) 1 _ _ hr
    have f2 := frozen_of_row w2 (A + 1) 2 _ _ hr
    have f3 := frozen_of_row w2 (A + 1) 3 _ _ hr
    have hbz := heap_lt hr
    clear hr
    go_wp2_with fail
    have k3 := set4 H2.out.hr (.int .i64 0) (.int .i64 0) (.slice none 0 0) (.slice none 0 0)
    have k4 := set4_below (g := A + 1) H2.out.below (Nat.le_succ _) (.int .i64 0) (.int .i64 0) (.slice none 0 0) (.slice none 0 0)
    clear r0 r1 r2 r3 f0 f1 f2 f3
    generalize World.setCell _ _ _ = w5 at k3 k4 ⊢
    have q0 := cell_of_row w5 (A + 1) 0 _ _ _ k3
    have q1 := cell_of_row w5 (A + 1) 1 _ _ _ k3
    have q2 := cell_of_row w5 (A + 1) 2 _ _ _ k3
    have q3 := cell_of_row w5 (A + 1) 3 _ _ _ k3
    simp only [List.getElem?_toArray, List.getElem?_cons_zero, List.getElem?_cons_succ] at q0 q1 q2 q3
    refine bodyPost_ret (v := .tuple #[rnil, .int .i64 1]) (by simp [results, Tryd.results25, go_sem, q0, q1, q2, q3]) rfl ⟨rfl, ?_⟩
    rw [← HA.out]; exact k4
  · have HV := hid (verr_ok hr)
    have HF := hid (fst_out hp)
    clear hr hp
    go_enter Tryd.func25, Tryd.ntmps25
    go_wp2_with fail
    refine (refvalidate_any W H ao n cap Z bo m bcap B hn hm _ HI.out HB.out 0 HV.out).mono ?_
    rintro r w2 ⟨rfl, hb2⟩
    have H2 := hid (HST.out.stays hb2)
    have HI2 := hid (HI.out.stays hb2)
    have HB2 := hid (HB.out.stays hb2)
    simp only [← hA] at H2 ⊢
    clear hA hb2 HST HI HB
    clear HI2 HB2
    have hr := H2.out.hr
    have r0 := cell_of_row w2 (A + 1) 0 _ _ _ hr
    have r1 := cell_of_row w2 (A + 1) 1 _ _ _ hr
    have r2 := cell_of_row w2 (A + 1) 2 _ _ _ hr
    have r3 := cell_of_row w2 (A + 1) 3 _ _ _ hr
    simp only [List.getElem?_toArray, List.getElem?_cons_zero, List.getElem?_cons_succ] at r0 r1 r2 r3
    have f0 := frozen_of_row w2 (A + 1) 0 _ _ hr
    have f1 := frozen_of_row w2 (A + 1) 1 _ _ hr
    have f2 := frozen_of_row w2 (A + 1) 2 _ _ hr
    have f3 := frozen_of_row w2 (A + 1) 3 _ _ hr
    have hbz := heap_lt hr
    clear hr
    go_wp2_with (go_at_call 41; refine (first_any _ _).mono ?_; rintro e w' ⟨rfl, rfl⟩; rw [HF.out])
    have k3 := set4 H2.out.hr (.int .i64 0) (.int .i64 0) (.slice none 0 0) (.slice none 0 0)
    have k4 := set4_below (g := A + 1) H2.out.below (Nat.le_succ _) (.int .i64 0) (.int .i64 0) (.slice none 0 0) (.slice none 0 0)
    clear r0 r1 r2 r3 f0 f1 f2 f3
    generalize World.setCell _ _ _ = w5 at k3 k4 ⊢
    have q0 := cell_of_row w5 (A + 1) 0 _ _ _ k3
    have q1 := cell_of_row w5 (A + 1) 1 _ _ _ k3
    have q2 := cell_of_row w5 (A + 1) 2 _ _ _ k3
    have q3 := cell_of_row w5 (A + 1) 3 _ _ _ k3
    simp only [List.getElem?_toArray, List.getElem?_cons_zero, List.getElem?_cons_succ] at q0 q1 q2 q3
    refine bodyPost_ret (v := .tuple #[rnil, .int .i64 1]) (by simp [results, Tryd.results25, go_sem, q0, q1, q2, q3]) rfl ⟨rfl, ?_⟩
    rw [← HA.out]; exact k4
  · by_cases ht0 : t < 0
    · have hz : t < 0 := ht0
      have HV := hid (verr_ok hr)
      have hf := (fst_in hp.1 hp.2).1
      obtain ⟨a, ha⟩ : ∃ a, a = fst p := ⟨_, rfl⟩
      rw [← ha] at hf
      have HF := hid ha
      have HZ := hid (fun i (hi : i < n) => And.intro (hr.fine i hi).1 (hr.fine i hi).2.1)
      have hn2 : n ≤ 1024 := by have := hr.sets; have := hr.sized.bound; omega
      clear hr hp ht ha ht0 HZ
      go_enter Tryd.func25, Tryd.ntmps25
      go_wp2_with fail
      refine (refvalidate_any W H ao n cap Z bo m bcap B hn hm _ HI.out HB.out 0 HV.out).mono ?_
      rintro r w2 ⟨rfl, hb2⟩
      have H2 := hid (HST.out.stays hb2)
      have HI2 := hid (HI.out.stays hb2)
      have HB2 := hid (HB.out.stays hb2)
      simp only [← hA] at H2 ⊢
      clear hA hb2 HST HI HB
      have b0 := cell_of_row w2 A 0 _ _ _ H2.out.hb
      have b1 := cell_of_row w2 A 1 _ _ _ H2.out.hb
      have b2 := cell_of_row w2 A 2 _ _ _ H2.out.hb
      have b3 := cell_of_row w2 A 3 _ _ _ H2.out.hb
      simp only [List.getElem?_toArray, List.getElem?_cons_zero, List.getElem?_cons_succ] at b0 b1 b2 b3
      clear HI2 HB2
      have hr := H2.out.hr
      have r0 := cell_of_row w2 (A + 1) 0 _ _ _ hr
      have r1 := cell_of_row w2 (A + 1) 1 _ _ _ hr
      have r2 := cell_of_row w2 (A + 1) 2 _ _ _ hr
      have r3 := cell_of_row w2 (A + 1) 3 _ _ _ hr
      simp only [List.getElem?_toArray, List.getElem?_cons_zero, List.getElem?_cons_succ] at r0 r1 r2 r3
      have f0 := frozen_of_row w2 (A + 1) 0 _ _ hr
      have f1 := frozen_of_row w2 (A + 1) 1 _ _ hr
      have f2 := frozen_of_row w2 (A + 1) 2 _ _ hr
      have f3 := frozen_of_row w2 (A + 1) 3 _ _ hr
      have hbz := heap_lt hr
      clear hr
      go_wp2_with (go_at_call 41; refine (first_any _ _).mono ?_; rintro e w' ⟨rfl, rfl⟩; rw [← HF.out])
      have k3 := set4 H2.out.hr (.int .i64 0) (.int .i64 0) (.slice none 0 0) (.slice none 0 0)
      have k4 := set4_below (g := A + 1) H2.out.below (Nat.le_succ _) (.int .i64 0) (.int .i64 0) (.slice none 0 0) (.slice none 0 0)
      clear r0 r1 r2 r3 f0 f1 f2 f3
      generalize World.setCell _ _ _ = w5 at k3 k4 ⊢
      have q0 := cell_of_row w5 (A + 1) 0 _ _ _ k3
      have q1 := cell_of_row w5 (A + 1) 1 _ _ _ k3
      have q2 := cell_of_row w5 (A + 1) 2 _ _ _ k3
      have q3 := cell_of_row w5 (A + 1) 3 _ _ _ k3
      simp only [List.getElem?_toArray, List.getElem?_cons_zero, List.getElem?_cons_succ] at q0 q1 q2 q3
      refine bodyPost_ret (v := .tuple #[rnil, .int .i64 2]) (by simp [results, Tryd.results25, go_sem, q0, q1, q2, q3]) rfl ⟨rfl, ?_⟩
      rw [← HA.out]; exact k4
    · have hz : (n : Int) ≤ t := by omega
      have ht1 : 0 ≤ t := by omega
      have HV := hid (verr_ok hr)
      have hf := (fst_in hp.1 hp.2).1
      obtain ⟨a, ha⟩ : ∃ a, a = fst p := ⟨_, rfl⟩
      rw [← ha] at hf
      have HF := hid ha
      have HZ := hid (fun i (hi : i < n) => And.intro (hr.fine i hi).1 (hr.fine i hi).2.1)
      have hn2 : n ≤ 1024 := by have := hr.sets; have := hr.sized.bound; omega
      clear hr hp ht ha ht0 HZ
      go_enter Tryd.func25, Tryd.ntmps25
      go_wp2_with fail
      refine (refvalidate_any W H ao n cap Z bo m bcap B hn hm _ HI.out HB.out 0 HV.out).mono ?_
      rintro r w2 ⟨rfl, hb2⟩
      have H2 := hid (HST.out.stays hb2)
      have HI2 := hid (HI.out.stays hb2)
      have HB2 := hid (HB.out.stays hb2)
      simp only [← hA] at H2 ⊢
      clear hA hb2 HST HI HB
      have b0 := cell_of_row w2 A 0 _ _ _ H2.out.hb
      have b1 := cell_of_row w2 A 1 _ _ _ H2.out.hb
      have b2 := cell_of_row w2 A 2 _ _ _ H2.out.hb
      have b3 := cell_of_row w2 A 3 _ _ _ H2.out.hb
      simp only [List.getElem?_toArray, List.getElem?_cons_zero, List.getElem?_cons_succ] at b0 b1 b2 b3
      clear HI2 HB2
      have hr := H2.out.hr
      have r0 := cell_of_row w2 (A + 1) 0 _ _ _ hr
      have r1 := cell_of_row w2 (A + 1) 1 _ _ _ hr
      have r2 := cell_of_row w2 (A + 1) 2 _ _ _ hr
      have r3 := cell_of_row w2 (A + 1) 3 _ _ _ hr
      simp only [List.getElem?_toArray, List.getElem?_cons_zero, List.getElem?_cons_succ] at r0 r1 r2 r3
      have f0 := frozen_of_row w2 (A + 1) 0 _ _ hr
      have f1 := frozen_of_row w2 (A + 1) 1 _ _ hr
      have f2 := frozen_of_row w2 (A + 1) 2 _ _ hr
      have f3 := frozen_of_row w2 (A + 1) 3 _ _ hr
      have hbz := heap_lt hr
      clear hr
      go_wp2_with (go_at_call 41; refine (first_any _ _).mono ?_; rintro e w' ⟨rfl, rfl⟩; rw [← HF.out])
      have k3 := set4 H2.out.hr (.int .i64 0) (.int .i64 0) (.slice none 0 0) (.slice none 0 0)
      have k4 := set4_below (g := A + 1) H2.out.below (Nat.le_succ _) (.int .i64 0) (.int .i64 0) (.slice none 0 0) (.slice none 0 0)
      clear r0 r1 r2 r3 f0 f1 f2 f3
      generalize World.setCell _ _ _ = w5 at k3 k4 ⊢
      have q0 := cell_of_row w5 (A + 1) 0 _ _ _ k3
      have q1 := cell_of_row w5 (A + 1) 1 _ _ _ k3
      have q2 := cell_of_row w5 (A + 1) 2 _ _ _ k3
      have q3 := cell_of_row w5 (A + 1) 3 _ _ _ k3
      simp only [List.getElem?_toArray, List.getElem?_cons_zero, List.getElem?_cons_succ] at q0 q1 q2 q3
      refine bodyPost_ret (v := .tuple #[rnil, .int .i64 2]) (by simp [results, Tryd.results25, go_sem, q0, q1, q2, q3]) rfl ⟨rfl, ?_⟩
      rw [← HA.out]; exact k4
  · skip
    have HV := hid (verr_ok hr)
    have hf := (fst_in hp.1 hp.2).1
    obtain ⟨a, ha⟩ : ∃ a, a = fst p := ⟨_, rfl⟩
    rw [← ha] at hf
    have HF := hid ha
    have HZ := hid (fun i (hi : i < n) => And.intro (hr.fine i hi).1 (hr.fine i hi).2.1)
    have hn2 : n ≤ 1024 := by have := hr.sets; have := hr.sized.bound; omega
    have HL : Hid (Lie n Z t p = true) := hid ((lie_of ⟨ht.1, ht.2, hp.1, hp.2⟩).trans hh)
    obtain ⟨ht1, ht2⟩ := ht
    clear hr hp hh ha
    go_enter Tryd.func25, Tryd.ntmps25
    go_wp2_with fail
    refine (refvalidate_any W H ao n cap Z bo m bcap B hn hm _ HI.out HB.out 0 HV.out).mono ?_
    rintro r w2 ⟨rfl, hb2⟩
    have H2 := hid (HST.out.stays hb2)
    have HI2 := hid (HI.out.stays hb2)
    have HB2 := hid (HB.out.stays hb2)
    simp only [← hA] at H2 ⊢
    clear hA hb2 HST HI HB
    have b0 := cell_of_row w2 A 0 _ _ _ H2.out.hb
    have b1 := cell_of_row w2 A 1 _ _ _ H2.out.hb
    have b2 := cell_of_row w2 A 2 _ _ _ H2.out.hb
    have b3 := cell_of_row w2 A 3 _ _ _ H2.out.hb
    simp only [List.getElem?_toArray, List.getElem?_cons_zero, List.getElem?_cons_succ] at b0 b1 b2 b3
    go_wp2_with (go_at_call 41; refine (first_any _ _).mono ?_; rintro e w' ⟨rfl, rfl⟩; rw [← HF.out])
    refine (reflies_any W H ao n cap Z _ t p (fun i hi => HZ.out i hi) true HL.out _ HI2.out).mono ?_
    rintro r w3 ⟨rfl, hb3⟩
    have H3 := hid (H2.out.stays hb3)
    clear hb3 H2 HI2 HB2 b0 b1 b2 b3
    have hr := H3.out.hr
    have r0 := cell_of_row w3 (A + 1) 0 _ _ _ hr
    have r1 := cell_of_row w3 (A + 1) 1 _ _ _ hr
    have r2 := cell_of_row w3 (A + 1) 2 _ _ _ hr
    have r3 := cell_of_row w3 (A + 1) 3 _ _ _ hr
    simp only [List.getElem?_toArray, List.getElem?_cons_zero, List.getElem?_cons_succ] at r0 r1 r2 r3
    have f0 := frozen_of_row w3 (A + 1) 0 _ _ hr
    have f1 := frozen_of_row w3 (A + 1) 1 _ _ hr
    have f2 := frozen_of_row w3 (A + 1) 2 _ _ hr
    have f3 := frozen_of_row w3 (A + 1) 3 _ _ hr
    have hbz := heap_lt hr
    clear hr
    go_wp2_with fail
    have k3 := set4 H3.out.hr (.int .i64 0) (.int .i64 0) (.slice none 0 0) (.slice none 0 0)
    have k4 := set4_below (g := A + 1) H3.out.below (Nat.le_succ _) (.int .i64 0) (.int .i64 0) (.slice none 0 0) (.slice none 0 0)
    clear r0 r1 r2 r3 f0 f1 f2 f3
    generalize World.setCell _ _ _ = w5 at k3 k4 ⊢
    have q0 := cell_of_row w5 (A + 1) 0 _ _ _ k3
    have q1 := cell_of_row w5 (A + 1) 1 _ _ _ k3
    have q2 := cell_of_row w5 (A + 1) 2 _ _ _ k3
    have q3 := cell_of_row w5 (A + 1) 3 _ _ _ k3
    simp only [List.getElem?_toArray, List.getElem?_cons_zero, List.getElem?_cons_succ] at q0 q1 q2 q3
    refine bodyPost_ret (v := .tuple #[rnil, .int .i64 3]) (by simp [results, Tryd.results25, go_sem, q0, q1, q2, q3]) rfl ⟨rfl, ?_⟩
    rw [← HA.out]; exact k4

set_option maxRecDepth 100000 in
set_option maxHeartbeats 3200000 in
theorem reflay_ok (W H : Int) (ao : Option Addr) (n cap : Nat) (Z : Nat → Int) (bo : Option Addr) (bcap : Nat) (B : Nat → Bool) (t : Nat) (p : Int) (wired : Bool) (hR : Right W H n n Z B) (hp : 0 ≤ p ∧ p ≤ 5) (ht : t < n) (hh : has (Z t) p = false) (w : World) (hI : Ints w ao n Z) (hB : Bools w bo n B) :
    Calls Tryd.prog 25 #[rv W H (.slice ao n cap) (.slice bo n bcap), .int .i64 t, .int .i64 p, .bool wired] w (Made W H n (upd Z t (Z t + 2 ^ p.toNat)) (upd B t (B t || wired)) w) := by
  have hbd := hR.sized.bound
  have hn1 : 0 < n := by have := hR.sets; omega
  have hn2 : n ≤ 1024 := by have := hR.sets; omega
  have hn : n ≤ 9223372036854775807 := by omega
  have hm := hn
  have hst := bx2_start w 25 25 #[.int .i64 W, .int .i64 H, .slice ao n cap, .slice bo n bcap] #[.int .i64 0, .int .i64 0, .slice none 0 0, .slice none 0 0]
  have HI := hid (hI.stays hst.below)
  have HB := hid (hB.stays hst.below)
  have HST := hid hst
  obtain ⟨A, hA⟩ : ∃ A, A = w.heap.size := ⟨_, rfl⟩
  have HA := hid hA
  have HV := hid (verr_ok hR)
  have hf := (fst_in hp.1 hp.2).1
  obtain ⟨a, ha⟩ : ∃ a, a = fst p := ⟨_, rfl⟩
  rw [← ha] at hf
  have HF := hid ha
  have HZ := hid (fun i (hi : i < n) => And.intro (hR.fine i hi).1 (hR.fine i hi).2.1)
  have HL0 : Hid (Lie n Z t p = false) := hid ((lie_of ⟨by omega, by omega, hp.1, hp.2⟩).trans hh)
  have hz := hR.fine t ht
  obtain ⟨z, hzz⟩ : ∃ z, z = Z t := ⟨_, rfl⟩
  obtain ⟨x, hxx⟩ : ∃ x, x = B t := ⟨_, rfl⟩
  rw [← hzz] at hz hh ⊢
  rw [← hxx] at hz ⊢
  have HZZ := hid hzz
  have HXX := hid hxx
  obtain ⟨hz0, hz63, hzb⟩ := hz
  have hqb := or_bd ⟨hz0, hz63⟩ hp hh
  obtain ⟨hp1, hp2⟩ := hp
  have t1 : (0 : Int) ≤ (t : Int) := by omega
  have t2 : (t : Int) < (n : Int) := by omega
  clear hI hB hst hzz hxx hh hR hzb hbd ha
  go_enter Tryd.func25, Tryd.ntmps25
  go_wp2_with fail
  refine (refvalidate_any W H ao n cap Z bo n bcap B hn hm _ HI.out HB.out 0 HV.out).mono ?_
  rintro r w2 ⟨rfl, hb2⟩
  have H2 := hid (HST.out.stays hb2)
  have HI2 := hid (HI.out.stays hb2)
  have HB2 := hid (HB.out.stays hb2)
  simp only [← hA] at H2 ⊢
  clear hA hb2 HST HI HB
  have b0 := cell_of_row w2 A 0 _ _ _ H2.out.hb
  have b1 := cell_of_row w2 A 1 _ _ _ H2.out.hb
  have b2 := cell_of_row w2 A 2 _ _ _ H2.out.hb
  have b3 := cell_of_row w2 A 3 _ _ _ H2.out.hb
  simp only [List.getElem?_toArray, List.getElem?_cons_zero, List.getElem?_cons_succ] at b0 b1 b2 b3
  go_wp2_with (go_at_call 41; refine (first_any _ _).mono ?_; rintro e w' ⟨rfl, rfl⟩; rw [← HF.out])
  refine (reflies_any W H ao n cap Z _ t p (fun i hi => HZ.out i hi) false HL0.out _ HI2.out).mono ?_
  rintro r w3 ⟨rfl, hb3⟩
  have H3 := hid (H2.out.stays hb3)
  have HI3 := hid (HI2.out.stays hb3)
  have HB3 := hid (HB2.out.stays hb3)
  clear hb3 b0 b1 b2 b3 H2 HI2 HB2
  have b0 := cell_of_row w3 A 0 _ _ _ H3.out.hb
  have b1 := cell_of_row w3 A 1 _ _ _ H3.out.hb
  have b2 := cell_of_row w3 A 2 _ _ _ H3.out.hb
  have b3 := cell_of_row w3 A 3 _ _ _ H3.out.hb
  simp only [List.getElem?_toArray, List.getElem?_cons_zero, List.getElem?_cons_succ] at b0 b1 b2 b3
  go_wp2_with fail
  refine (copy_any W H ao n cap Z bo bcap B hn1 (by omega) _ HI3.out HB3.out).mono ?_
  rintro r w4 ⟨g, c, k, d, rfl, hg, hk, hgk, hb4⟩
  have H4 := hid (H3.out.stays hb4)
  have hgz := hg.lt g rfl
  have hkz := hk.lt k rfl
  have hA4 := heap_lt H3.out.hr
  have HG4 := hid (row_mono (base' := A) hg (by omega))
  have HK4 := hid (row_mono (base' := A) hk (by omega))
  have HL : Hid (LS A w4.heap.size g c k d n W H Z B w (w4.alloc (.cells #[.int .i64 W, .int .i64 H, .slice (some ⟨g, 0, none⟩) n c, .slice (some ⟨k, 0, none⟩) n d] 25))) :=
    hid (ls_alloc H4.out HG4.out HK4.out (by omega) (by omega) hgk)
  clear hb4 hg hk b0 b1 b2 b3 H3 HI3 HB3
  obtain ⟨o, ho⟩ : ∃ o, o = w4.heap.size := ⟨_, rfl⟩
  rw [← ho] at HL
  go_wp2_with fail
  simp only [← ho]
  clear H4 HG4 HK4 hgz hkz ho
  generalize World.alloc _ _ = w5 at HL ⊢
  obtain ⟨c2, c3, cg, fg, sg⟩ := HL.out.g_at ht
  rw [← HZZ.out] at cg
  have hAz := heap_lt HL.out.hr
  obtain ⟨qb1, qb2, qb3, qb4⟩ := hqb
  have HQ2 : Hid (wrap64 (2 ^ p.toNat) = 2 ^ p.toNat) := hid (by unfold wrap64; omega)
  go_still_tail 9, (by kernel_rfl)
  change wpList _ _ _ _ _ w5.drew
  have HL1 := hid HL.out.drew
  clear c2 c3 cg fg sg HL
  generalize w5.drew = w6 at HL1 ⊢
  obtain ⟨c2, c3, cg, fg, sg⟩ := HL1.out.g_at ht
  go_wp2_with fail
  obtain ⟨y, hy⟩ : ∃ y, y = z + 2 ^ p.toNat := ⟨_, rfl⟩
  rw [← hy]
  rw [← hy] at qb3 qb4
  have HY := hid hy
  clear hy qb1 qb2
  have HL2 := hid (HL1.out.setG t y)
  clear c2 c3 cg fg sg HL1
  generalize w6.setCell _ _ = w7 at HL2 ⊢
  obtain ⟨c2, c3, ck, fk, sk⟩ := HL2.out.k_at ht
  rw [← HXX.out] at ck
  generalize IntKind.i64.wrap (2 ^ p.toNat) = v1
  cases x
  · go_still_tail 12, (by kernel_rfl)
    change wpList _ _ _ _ _ w7.drew
    have HL3 := hid HL2.out.drew
    clear c2 c3 ck fk sk HL2
    generalize w7.drew = w8 at HL3 ⊢
    obtain ⟨c2, c3, ck, fk, sk⟩ := HL3.out.k_at ht
    have HL4 := hid (HL3.out.setK t wired)
    have b0 := cell_of_row w8 o 0 _ _ _ HL3.out.ho
    have b1 := cell_of_row w8 o 1 _ _ _ HL3.out.ho
    have b2 := cell_of_row w8 o 2 _ _ _ HL3.out.ho
    have b3 := cell_of_row w8 o 3 _ _ _ HL3.out.ho
    simp only [List.getElem?_toArray, List.getElem?_cons_zero, List.getElem?_cons_succ] at b0 b1 b2 b3
    have hr := HL3.out.hr
    have n1 := HL3.out.nk.1
    have n2 := HL3.out.nk.2
    have n3 := n1.symm
    have n4 := n2.symm
    have r0 := cell_of_row w8 (A + 1) 0 _ _ _ hr
    have r1 := cell_of_row w8 (A + 1) 1 _ _ _ hr
    have r2 := cell_of_row w8 (A + 1) 2 _ _ _ hr
    have r3 := cell_of_row w8 (A + 1) 3 _ _ _ hr
    simp only [List.getElem?_toArray, List.getElem?_cons_zero, List.getElem?_cons_succ] at r0 r1 r2 r3
    have f0 := frozen_of_row w8 (A + 1) 0 _ _ hr
    have f1 := frozen_of_row w8 (A + 1) 1 _ _ hr
    have f2 := frozen_of_row w8 (A + 1) 2 _ _ hr
    have f3 := frozen_of_row w8 (A + 1) 3 _ _ hr
    have hbz := heap_lt hr
    have hoz := heap_lt HL3.out.ho
    clear hr
    go_wp2_with fail
    have k3 := set4 HL4.out.hr (.int .i64 W) (.int .i64 H) (.slice (some ⟨g, 0, none⟩) n c) (.slice (some ⟨k, 0, none⟩) n d)
    have k4 := set4_below (g := A + 1) HL4.out.below (Nat.le_succ _) (.int .i64 W) (.int .i64 H) (.slice (some ⟨g, 0, none⟩) n c) (.slice (some ⟨k, 0, none⟩) n d)
    have k5 := set4_row (g := A + 1) HL4.out.rg (by simpa [Value.ownBlock] using HL4.out.ng.2) (.int .i64 W) (.int .i64 H) (.slice (some ⟨g, 0, none⟩) n c) (.slice (some ⟨k, 0, none⟩) n d)
    have k6 := set4_row (g := A + 1) HL4.out.rk (by simpa [Value.ownBlock] using HL4.out.nk.2) (.int .i64 W) (.int .i64 H) (.slice (some ⟨g, 0, none⟩) n c) (.slice (some ⟨k, 0, none⟩) n d)
    clear r0 r1 r2 r3 f0 f1 f2 f3 b0 b1 b2 b3 c2 c3 ck fk sk n1 n2 n3 n4
    generalize World.setCell _ _ _ = w10 at k3 k4 k5 k6 ⊢
    have q0 := cell_of_row w10 (A + 1) 0 _ _ _ k3
    have q1 := cell_of_row w10 (A + 1) 1 _ _ _ k3
    have q2 := cell_of_row w10 (A + 1) 2 _ _ _ k3
    have q3 := cell_of_row w10 (A + 1) 3 _ _ _ k3
    simp only [List.getElem?_toArray, List.getElem?_cons_zero, List.getElem?_cons_succ] at q0 q1 q2 q3
    refine bodyPost_ret (v := .tuple #[rv W H (.slice (some ⟨g, 0, none⟩) n c) (.slice (some ⟨k, 0, none⟩) n d), .int .i64 0]) (by simp [results, Tryd.results25, go_sem, q0, q1, q2, q3]) rfl ⟨g, c, k, d, rfl, by rw [← HA.out]; first | exact k5 | (rw [← HY.out]; exact k5), by rw [← HA.out]; first | exact k6 | (rw [← HY.out]; exact k6), by rw [← HA.out]; exact k4⟩
  · go_still_tail 12, (by kernel_rfl)
    change wpList _ _ _ _ _ w7.drew
    have HL3 := hid HL2.out.drew
    clear c2 c3 ck fk sk HL2
    generalize w7.drew = w8 at HL3 ⊢
    obtain ⟨c2, c3, ck, fk, sk⟩ := HL3.out.k_at ht
    have HL4 := hid (HL3.out.setK t true)
    have b0 := cell_of_row w8 o 0 _ _ _ HL3.out.ho
    have b1 := cell_of_row w8 o 1 _ _ _ HL3.out.ho
    have b2 := cell_of_row w8 o 2 _ _ _ HL3.out.ho
    have b3 := cell_of_row w8 o 3 _ _ _ HL3.out.ho
    simp only [List.getElem?_toArray, List.getElem?_cons_zero, List.getElem?_cons_succ] at b0 b1 b2 b3
    have hr := HL3.out.hr
    have n1 := HL3.out.nk.1
    have n2 := HL3.out.nk.2
    have n3 := n1.symm
    have n4 := n2.symm
    have r0 := cell_of_row w8 (A + 1) 0 _ _ _ hr
    have r1 := cell_of_row w8 (A + 1) 1 _ _ _ hr
    have r2 := cell_of_row w8 (A + 1) 2 _ _ _ hr
    have r3 := cell_of_row w8 (A + 1) 3 _ _ _ hr
    simp only [List.getElem?_toArray, List.getElem?_cons_zero, List.getElem?_cons_succ] at r0 r1 r2 r3
    have f0 := frozen_of_row w8 (A + 1) 0 _ _ hr
    have f1 := frozen_of_row w8 (A + 1) 1 _ _ hr
    have f2 := frozen_of_row w8 (A + 1) 2 _ _ hr
    have f3 := frozen_of_row w8 (A + 1) 3 _ _ hr
    have hbz := heap_lt hr
    have hoz := heap_lt HL3.out.ho
    clear hr
    go_wp2_with fail
    have k3 := set4 HL4.out.hr (.int .i64 W) (.int .i64 H) (.slice (some ⟨g, 0, none⟩) n c) (.slice (some ⟨k, 0, none⟩) n d)
    have k4 := set4_below (g := A + 1) HL4.out.below (Nat.le_succ _) (.int .i64 W) (.int .i64 H) (.slice (some ⟨g, 0, none⟩) n c) (.slice (some ⟨k, 0, none⟩) n d)
    have k5 := set4_row (g := A + 1) HL4.out.rg (by simpa [Value.ownBlock] using HL4.out.ng.2) (.int .i64 W) (.int .i64 H) (.slice (some ⟨g, 0, none⟩) n c) (.slice (some ⟨k, 0, none⟩) n d)
    have k6 := set4_row (g := A + 1) HL4.out.rk (by simpa [Value.ownBlock] using HL4.out.nk.2) (.int .i64 W) (.int .i64 H) (.slice (some ⟨g, 0, none⟩) n c) (.slice (some ⟨k, 0, none⟩) n d)
    clear r0 r1 r2 r3 f0 f1 f2 f3 b0 b1 b2 b3 c2 c3 ck fk sk n1 n2 n3 n4
    generalize World.setCell _ _ _ = w10 at k3 k4 k5 k6 ⊢
    have q0 := cell_of_row w10 (A + 1) 0 _ _ _ k3
    have q1 := cell_of_row w10 (A + 1) 1 _ _ _ k3
    have q2 := cell_of_row w10 (A + 1) 2 _ _ _ k3
    have q3 := cell_of_row w10 (A + 1) 3 _ _ _ k3
    simp only [List.getElem?_toArray, List.getElem?_cons_zero, List.getElem?_cons_succ] at q0 q1 q2 q3
    refine bodyPost_ret (v := .tuple #[rv W H (.slice (some ⟨g, 0, none⟩) n c) (.slice (some ⟨k, 0, none⟩) n d), .int .i64 0]) (by simp [results, Tryd.results25, go_sem, q0, q1, q2, q3]) rfl ⟨g, c, k, d, rfl, by rw [← HA.out]; first | exact k5 | (rw [← HY.out]; exact k5), by rw [← HA.out]; first | exact k6 | (rw [← HY.out]; exact k6), by rw [← HA.out]; exact k4⟩
end Go.Proofs.YtlpmahdplilbiaaDoor
