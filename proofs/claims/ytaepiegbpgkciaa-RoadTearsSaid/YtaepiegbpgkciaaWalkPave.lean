/-
  The walks of Pave and Tear of the program.
-/
import Derived.Test.YtaepiegbpgkciaaStruct
namespace Go.Proofs.Ytaepiegbpgkciaa
open Go.RowKit

theorem as_fin {z : Int} {n : Nat} (h0 : 0 ≤ z) (h1 : z < n) : ∃ k : Fin n, z = ((k : Nat) : Int) := ⟨⟨z.toNat, by omega⟩, by simp; omega⟩
set_option maxHeartbeats 1600000 in
theorem ones64 (z : Int) (h0 : 0 ≤ z) (h1 : z ≤ 15) (w : World) : Calls Try.prog 73 #[.int .u64 z] w fun e w' => e = .returned (.int .i64 (pop z)) ∧ w = w' := by
  go_enter Try.func73, Try.ntmps73
  go_wp2
  go_ret
  refine ⟨ret_int ?_, rfl⟩
  obtain ⟨k, rfl⟩ := as_fin (n := 16) h0 (by omega)
  clear h0 h1
  revert k
  decide +kernel
set_option maxHeartbeats 1600000 in
theorem ones_any (z : Int) (h0 : 0 ≤ z) (h1 : z ≤ 15) (w : World) : Calls Try.prog 64 #[.int .u64 z] w fun e w' => e = .returned (.int .i64 (pop z)) ∧ w = w' := by
  have e : IntKind.u64.wrap z = z := by rw [IntKind.wrap_u64]; omega
  go_enter Try.func64, Try.ntmps64
  go_wp2_with (go_at_call 73; refine (ones64 z h0 h1 _).mono ?_; rintro e w' ⟨rfl, rfl⟩)
  go_ret
  exact ⟨rfl, rfl⟩
set_option maxHeartbeats 1600000 in
theorem count_any (z : Int) (h0 : 0 ≤ z) (h1 : z ≤ 15) (p : Int) (hp : p = pop z) (w : World) : Calls Try.prog 48 #[.int .i64 z] w fun e w' => e = .returned (.int .i64 p) ∧ w = w' := by
  have e : IntKind.u64.wrap z = z := by rw [IntKind.wrap_u64]; omega
  have HP := hid hp
  clear hp
  go_enter Try.func48, Try.ntmps48
  go_wp2_with (go_at_call 64; refine (ones_any z h0 h1 _).mono ?_; rintro e w' ⟨rfl, rfl⟩)
  go_ret
  exact ⟨ret_int HP.out.symm, rfl⟩

/-- Streets in new memory, a sum, and an error. -/
def Out3 (W H : Int) (n : Nat) (Z Y : Nat → Int) (c e : Int) (w : World) (r : Ending) (w' : World) : Prop :=
  ∃ (ao : Option Addr) (ca : Nat) (bo : Option Addr) (cb : Nat), r = .returned (.tuple #[rv W H (.slice ao n ca) (.slice bo n cb), .int .i64 c, .int .i64 e]) ∧ Ints w' ao n Z ∧ Ints w' bo n Y ∧ Below w.heap.size w w'
theorem out_zero {e : Int} {w w' : World} (h : Below w.heap.size w w') : Out3 0 0 0 (fun _ => 0) (fun _ => 0) 0 e w (.returned (.tuple #[rnil, .int .i64 0, .int .i64 e])) w' :=
  ⟨none, 0, none, 0, rfl, fun j hj => absurd hj (Nat.not_lt_zero j), fun j hj => absurd hj (Nat.not_lt_zero j), h⟩
/-- What paving (b = false) and taking away (b = true) gives: an error and no streets, or the streets with other arms. -/
def PaveIs (b : Bool) (v : Int) (W H : Int) (n m : Nat) (Z Y : Nat → Int) (t a : Int) (W' H' : Int) (n' : Nat) (Z' Y' : Nat → Int) (c e : Int) : Prop :=
  (e ≠ 0 ∧ AErr (0 ≤ a ∧ a ≤ 15) W H n m Z Y t e ∧ W' = 0 ∧ H' = 0 ∧ n' = 0 ∧ Z' = (fun _ => 0) ∧ Y' = (fun _ => 0) ∧ c = 0) ∨
  (e = 0 ∧ AErr (0 ≤ a ∧ a ≤ 15) W H n m Z Y t 0 ∧ W = W' ∧ H = H' ∧ n = n' ∧ n = m ∧ ∃ t0 : Nat, t = t0 ∧ Z' = armZ b Z t0 a 4 ∧ Y' = armY b Z Y t0 a 4 ∧ c = cnt b (Z t0) a 4 * v)
theorem PaveIs.ex (b : Bool) (v : Int) (W H : Int) (n m : Nat) (Z Y : Nat → Int) (t a : Int) : ∃ W' H' n' Z' Y' c e, PaveIs b v W H n m Z Y t a W' H' n' Z' Y' c e := by
  obtain ⟨e, h⟩ := AErr.ex (0 ≤ a ∧ a ≤ 15) W H n m Z Y t
  by_cases he : e = 0
  · subst he
    obtain ⟨hR, ht, ha⟩ := h.right
    exact ⟨_, _, _, _, _, _, 0, .inr ⟨rfl, h, rfl, rfl, rfl, hR.eq, t.toNat, by omega, rfl, rfl, rfl⟩⟩
  · exact ⟨_, _, _, _, _, _, e, .inl ⟨he, h, rfl, rfl, rfl, rfl, rfl, rfl⟩⟩

set_option maxRecDepth 100000 in
set_option maxHeartbeats 6400000 in
theorem pave_to (W H : Int) (ao : Option Addr) (n cap : Nat) (Z : Nat → Int) (bo : Option Addr) (m bcap : Nat) (Y : Nat → Int) (hn : n ≤ 9223372036854775807) (hm : m ≤ 9223372036854775807) (t a : Int) {W' H' : Int} {n' : Nat} {Z' Y' : Nat → Int} {c e : Int}
    (h : PaveIs false 150 W H n m Z Y t a W' H' n' Z' Y' c e) (w : World) (hI : Ints w ao n Z) (hB : Ints w bo m Y) :
    Calls Try.prog 21 #[rv W H (.slice ao n cap) (.slice bo m bcap), .int .i64 t, .int .i64 a] w (Out3 W' H' n' Z' Y' c e w) := by
  have hst := bx2_start w 24 24 #[.int .i64 W, .int .i64 H, .slice ao n cap, .slice bo m bcap] #[.int .i64 0, .int .i64 0, .slice none 0 0, .slice none 0 0]
  have HI := hid (hI.stays hst.below)
  have HB := hid (hB.stays hst.below)
  have HST := hid hst
  obtain ⟨A, hA⟩ : ∃ A, A = w.heap.size := ⟨_, rfl⟩
  have HA := hid hA
  rcases h with ⟨he, h, rfl, rfl, rfl, rfl, rfl, rfl⟩ | ⟨rfl, h, rfl, rfl, rfl, rfl, t, rfl, rfl, rfl, rfl⟩
  · have HV := hid h
    have e0 : (e != 0) = true := by simpa using he
    clear hI hB hst h he
    go_enter Try.func21, Try.ntmps21
    go_wp2_with fail
    refine (work_to W H ao n cap Z bo m bcap Y hn hm t a e HV.out _ HI.out HB.out).mono ?_
    rintro r w2 ⟨rfl, hb2⟩
    have H2 := hid (HST.out.stays hb2)
    simp only [← hA] at H2 ⊢
    clear hA hb2 HST HI HB
    have r0 := cell_of_row w2 (A + 1) 0 _ _ _ H2.out.hr
    have r1 := cell_of_row w2 (A + 1) 1 _ _ _ H2.out.hr
    have r2 := cell_of_row w2 (A + 1) 2 _ _ _ H2.out.hr
    have r3 := cell_of_row w2 (A + 1) 3 _ _ _ H2.out.hr
    simp only [List.getElem?_toArray, List.getElem?_cons_zero, List.getElem?_cons_succ] at r0 r1 r2 r3
    have f0 := frozen_of_row w2 (A + 1) 0 _ _ H2.out.hr
    have f1 := frozen_of_row w2 (A + 1) 1 _ _ H2.out.hr
    have f2 := frozen_of_row w2 (A + 1) 2 _ _ H2.out.hr
    have f3 := frozen_of_row w2 (A + 1) 3 _ _ H2.out.hr
    have rz := heap_lt H2.out.hr
    go_wp2_with fail
    have k3 := set4 H2.out.hr (.int .i64 0) (.int .i64 0) (.slice none 0 0) (.slice none 0 0)
    have k4 := set4_below (g := A + 1) H2.out.below (Nat.le_succ _) (.int .i64 0) (.int .i64 0) (.slice none 0 0) (.slice none 0 0)
    clear r0 r1 r2 r3 f0 f1 f2 f3
    generalize World.setCell _ _ _ = wz at k3 k4 ⊢
    have q0 := cell_of_row wz (A + 1) 0 _ _ _ k3
    have q1 := cell_of_row wz (A + 1) 1 _ _ _ k3
    have q2 := cell_of_row wz (A + 1) 2 _ _ _ k3
    have q3 := cell_of_row wz (A + 1) 3 _ _ _ k3
    simp only [List.getElem?_toArray, List.getElem?_cons_zero, List.getElem?_cons_succ] at q0 q1 q2 q3
    exact bodyPost_ret (v := (.tuple #[rnil, .int .i64 0, .int .i64 e])) (by simp [results, Try.results21, go_sem, q0, q1, q2, q3]) rfl (out_zero (by rw [← HA.out]; exact k4))
  · obtain ⟨hR, ht, ha⟩ := h.right
    have HV := hid h
    have HR := hid hR
    have hn2 := hR.small
    have ht1 : t < n := by omega
    have HT := hid ht1
    have hz := (hR.args.fine t ht1).1
    obtain ⟨g, off, rfl, hgz, hct⟩ := ints_cell hI ht1
    have HCT := hid hct
    obtain ⟨z, hzz⟩ : ∃ z, z = Z t := ⟨_, rfl⟩
    rw [← hzz] at HCT hz ⊢
    have HZZ := hid hzz
    obtain ⟨s1, s2, s3, s4⟩ := or_sel hz ha
    have hsb := sel_bd (b := false) hz ha (Nat.le_refl 4)
    obtain ⟨s, hs⟩ : ∃ s, s = arm false z a 4 := ⟨_, rfl⟩
    have hs' : bits .or .i64 z a = s := by rw [s1, hs]; unfold arm; rfl
    obtain ⟨u, hu⟩ : ∃ u, bits .andNot .i64 a z = u := ⟨_, rfl⟩
    rw [hu] at s2 s3 s4
    obtain ⟨p, hp⟩ : ∃ p, p = pop u := ⟨_, rfl⟩
    have hpb := pop_bd u
    have HP := hid hp
    have HC : Hid (p = cnt false z a 4) := hid (by rw [hp]; exact s2)
    rw [← hp] at hpb
    have HS := hid hs
    have hZ : Hid (armZ false Z t a 4 = upd Z t s) := hid (by rw [hs, hzz]; rfl)
    have HY : Hid ((Z t = s ∧ armY false Z Y t a 4 = Y) ∨ (Z t ≠ s ∧ armY false Z Y t a 4 = upd Y t 0)) := hid (by
      rw [← hzz, hs]
      unfold arm armY
      rw [← hzz]
      by_cases h0 : sel false z a 4 = 0
      · rw [h0]; exact .inl ⟨by simp, by simp⟩
      · exact .inr ⟨by simp <;> omega, by rw [if_neg h0]⟩)
    obtain ⟨hpb1, hpb2⟩ := hpb
    clear hR h hz s1 s2 hsb hzz hs ha hI hB hst hct hp
    have t1 : (0 : Int) ≤ (t : Int) := by omega
    have t2 : (t : Int) < (n : Int) := by omega
    go_enter Try.func21, Try.ntmps21
    go_wp2_with fail
    refine (work_to W H _ n cap Z bo n bcap Y hn hn t a 0 HV.out _ HI.out HB.out).mono ?_
    rintro r w2 ⟨rfl, hb2⟩
    have H2 := hid (HST.out.stays hb2)
    have ct := ((HST.out.below.trans (hb2.mono HST.out.below.size)).cell (p := ⟨g, off + t, none⟩) hgz).trans HCT.out
    have HI2 := hid (HI.out.stays hb2)
    have HB2 := hid (HB.out.stays hb2)
    simp only [← hA] at H2 ⊢
    clear hA hb2 HST HI HB
    have b0 := cell_of_row w2 A 0 _ _ _ H2.out.hb
    have b1 := cell_of_row w2 A 1 _ _ _ H2.out.hb
    have b2 := cell_of_row w2 A 2 _ _ _ H2.out.hb
    have b3 := cell_of_row w2 A 3 _ _ _ H2.out.hb
    simp only [List.getElem?_toArray, List.getElem?_cons_zero, List.getElem?_cons_succ] at b0 b1 b2 b3
    have bz := heap_lt H2.out.hb
    go_wp2_with fail
    refine (rebuild_to W H _ n cap Z bo bcap Y (by omega) (by omega) t HT.out s _ HY.out _ HI2.out HB2.out).mono ?_
    rintro r w3 ⟨g', c, k, d, rfl, hg, hk, hgk, hb3⟩
    have H3 := hid (H2.out.stays hb3)
    have HG3 := hid (row_mono (base' := A) hg (by have := heap_lt H2.out.hr; omega))
    have HK3 := hid (row_mono (base' := A) hk (by have := heap_lt H2.out.hr; omega))
    have HGA : Hid (g' ≠ A + 1) := hid (by have := (hg.lt g' rfl).1; have := heap_lt H2.out.hr; omega)
    have HKA : Hid (k ≠ A + 1) := hid (by have := (hk.lt k rfl).1; have := heap_lt H2.out.hr; omega)
    clear hg hk hb3 H2 HI2 HB2 b0 b1 b2 b3 bz ct
    have r0 := cell_of_row w3 (A + 1) 0 _ _ _ H3.out.hr
    have r1 := cell_of_row w3 (A + 1) 1 _ _ _ H3.out.hr
    have r2 := cell_of_row w3 (A + 1) 2 _ _ _ H3.out.hr
    have r3 := cell_of_row w3 (A + 1) 3 _ _ _ H3.out.hr
    simp only [List.getElem?_toArray, List.getElem?_cons_zero, List.getElem?_cons_succ] at r0 r1 r2 r3
    have f0 := frozen_of_row w3 (A + 1) 0 _ _ H3.out.hr
    have f1 := frozen_of_row w3 (A + 1) 1 _ _ H3.out.hr
    have f2 := frozen_of_row w3 (A + 1) 2 _ _ H3.out.hr
    have f3 := frozen_of_row w3 (A + 1) 3 _ _ H3.out.hr
    have rz := heap_lt H3.out.hr
    have huw : IntKind.i64.wrap u = u := by rw [IntKind.wrap_i64]; omega
    go_wp2_with fail
    refine (count_any u s3 s4 p HP.out _).mono ?_
    rintro e w' ⟨rfl, rfl⟩
    go_wp2_with fail
    have k3 := set4 H3.out.hr (.int .i64 W) (.int .i64 H) (.slice (some ⟨g', 0, none⟩) n c) (.slice (some ⟨k, 0, none⟩) n d)
    have k4 := set4_below (g := A + 1) H3.out.below (Nat.le_succ _) (.int .i64 W) (.int .i64 H) (.slice (some ⟨g', 0, none⟩) n c) (.slice (some ⟨k, 0, none⟩) n d)
    have k5 := set4_row (g := A + 1) HG3.out (by simpa [Value.ownBlock] using HGA.out) (.int .i64 W) (.int .i64 H) (.slice (some ⟨g', 0, none⟩) n c) (.slice (some ⟨k, 0, none⟩) n d)
    have k6 := set4_row (g := A + 1) HK3.out (by simpa [Value.ownBlock] using HKA.out) (.int .i64 W) (.int .i64 H) (.slice (some ⟨g', 0, none⟩) n c) (.slice (some ⟨k, 0, none⟩) n d)
    clear r0 r1 r2 r3 f0 f1 f2 f3
    generalize World.setCell _ _ _ = wz at k3 k4 k5 k6 ⊢
    have q0 := cell_of_row wz (A + 1) 0 _ _ _ k3
    have q1 := cell_of_row wz (A + 1) 1 _ _ _ k3
    have q2 := cell_of_row wz (A + 1) 2 _ _ _ k3
    have q3 := cell_of_row wz (A + 1) 3 _ _ _ k3
    simp only [List.getElem?_toArray, List.getElem?_cons_zero, List.getElem?_cons_succ] at q0 q1 q2 q3
    refine bodyPost_ret (v := .tuple #[rv W H (.slice (some ⟨g', 0, none⟩) n c) (.slice (some ⟨k, 0, none⟩) n d), .int .i64 (p * 150), .int .i64 0]) (by simp [results, Try.results21, go_sem, q0, q1, q2, q3]) rfl ?_
    rw [hZ.out, ← HC.out]
    exact ⟨_, c, _, d, rfl, vals_of_row k5, vals_of_row k6, by rw [← HA.out]; exact k4⟩

set_option maxRecDepth 100000 in
set_option maxHeartbeats 6400000 in
theorem tear_to (W H : Int) (ao : Option Addr) (n cap : Nat) (Z : Nat → Int) (bo : Option Addr) (m bcap : Nat) (Y : Nat → Int) (hn : n ≤ 9223372036854775807) (hm : m ≤ 9223372036854775807) (t a : Int) {W' H' : Int} {n' : Nat} {Z' Y' : Nat → Int} {c e : Int}
    (h : PaveIs true 75 W H n m Z Y t a W' H' n' Z' Y' c e) (w : World) (hI : Ints w ao n Z) (hB : Ints w bo m Y) :
    Calls Try.prog 24 #[rv W H (.slice ao n cap) (.slice bo m bcap), .int .i64 t, .int .i64 a] w (Out3 W' H' n' Z' Y' c e w) := by
  have hst := bx2_start w 24 24 #[.int .i64 W, .int .i64 H, .slice ao n cap, .slice bo m bcap] #[.int .i64 0, .int .i64 0, .slice none 0 0, .slice none 0 0]
  have HI := hid (hI.stays hst.below)
  have HB := hid (hB.stays hst.below)
  have HST := hid hst
  obtain ⟨A, hA⟩ : ∃ A, A = w.heap.size := ⟨_, rfl⟩
  have HA := hid hA
  rcases h with ⟨he, h, rfl, rfl, rfl, rfl, rfl, rfl⟩ | ⟨rfl, h, rfl, rfl, rfl, rfl, t, rfl, rfl, rfl, rfl⟩
  · have HV := hid h
    have e0 : (e != 0) = true := by simpa using he
    clear hI hB hst h he
    go_enter Try.func24, Try.ntmps24
    go_wp2_with fail
    refine (work_to W H ao n cap Z bo m bcap Y hn hm t a e HV.out _ HI.out HB.out).mono ?_
    rintro r w2 ⟨rfl, hb2⟩
    have H2 := hid (HST.out.stays hb2)
    simp only [← hA] at H2 ⊢
    clear hA hb2 HST HI HB
    have r0 := cell_of_row w2 (A + 1) 0 _ _ _ H2.out.hr
    have r1 := cell_of_row w2 (A + 1) 1 _ _ _ H2.out.hr
    have r2 := cell_of_row w2 (A + 1) 2 _ _ _ H2.out.hr
    have r3 := cell_of_row w2 (A + 1) 3 _ _ _ H2.out.hr
    simp only [List.getElem?_toArray, List.getElem?_cons_zero, List.getElem?_cons_succ] at r0 r1 r2 r3
    have f0 := frozen_of_row w2 (A + 1) 0 _ _ H2.out.hr
    have f1 := frozen_of_row w2 (A + 1) 1 _ _ H2.out.hr
    have f2 := frozen_of_row w2 (A + 1) 2 _ _ H2.out.hr
    have f3 := frozen_of_row w2 (A + 1) 3 _ _ H2.out.hr
    have rz := heap_lt H2.out.hr
    go_wp2_with fail
    have k3 := set4 H2.out.hr (.int .i64 0) (.int .i64 0) (.slice none 0 0) (.slice none 0 0)
    have k4 := set4_below (g := A + 1) H2.out.below (Nat.le_succ _) (.int .i64 0) (.int .i64 0) (.slice none 0 0) (.slice none 0 0)
    clear r0 r1 r2 r3 f0 f1 f2 f3
    generalize World.setCell _ _ _ = wz at k3 k4 ⊢
    have q0 := cell_of_row wz (A + 1) 0 _ _ _ k3
    have q1 := cell_of_row wz (A + 1) 1 _ _ _ k3
    have q2 := cell_of_row wz (A + 1) 2 _ _ _ k3
    have q3 := cell_of_row wz (A + 1) 3 _ _ _ k3
    simp only [List.getElem?_toArray, List.getElem?_cons_zero, List.getElem?_cons_succ] at q0 q1 q2 q3
    exact bodyPost_ret (v := (.tuple #[rnil, .int .i64 0, .int .i64 e])) (by simp [results, Try.results24, go_sem, q0, q1, q2, q3]) rfl (out_zero (by rw [← HA.out]; exact k4))
  · obtain ⟨hR, ht, ha⟩ := h.right
    have HV := hid h
    have HR := hid hR
    have hn2 := hR.small
    have ht1 : t < n := by omega
    have HT := hid ht1
    have hz := (hR.args.fine t ht1).1
    obtain ⟨g, off, rfl, hgz, hct⟩ := ints_cell hI ht1
    have HCT := hid hct
    obtain ⟨z, hzz⟩ : ∃ z, z = Z t := ⟨_, rfl⟩
    rw [← hzz] at HCT hz ⊢
    have HZZ := hid hzz
    obtain ⟨s1, s2, s3, s4⟩ := clr_sel hz ha
    have hsb := sel_bd (b := true) hz ha (Nat.le_refl 4)
    obtain ⟨s, hs⟩ : ∃ s, s = arm true z a 4 := ⟨_, rfl⟩
    have hs' : bits .andNot .i64 z a = s := by rw [s1, hs]; unfold arm; rfl
    obtain ⟨u, hu⟩ : ∃ u, bits .and .i64 a z = u := ⟨_, rfl⟩
    rw [hu] at s2 s3 s4
    obtain ⟨p, hp⟩ : ∃ p, p = pop u := ⟨_, rfl⟩
    have hpb := pop_bd u
    have HP := hid hp
    have HC : Hid (p = cnt true z a 4) := hid (by rw [hp]; exact s2)
    rw [← hp] at hpb
    have HS := hid hs
    have hZ : Hid (armZ true Z t a 4 = upd Z t s) := hid (by rw [hs, hzz]; rfl)
    have HY : Hid ((Z t = s ∧ armY true Z Y t a 4 = Y) ∨ (Z t ≠ s ∧ armY true Z Y t a 4 = upd Y t 0)) := hid (by
      rw [← hzz, hs]
      unfold arm armY
      rw [← hzz]
      by_cases h0 : sel true z a 4 = 0
      · rw [h0]; exact .inl ⟨by simp, by simp⟩
      · exact .inr ⟨by simp <;> omega, by rw [if_neg h0]⟩)
    obtain ⟨hpb1, hpb2⟩ := hpb
    clear hR h hz s1 s2 hsb hzz hs ha hI hB hst hct hp
    have t1 : (0 : Int) ≤ (t : Int) := by omega
    have t2 : (t : Int) < (n : Int) := by omega
    go_enter Try.func24, Try.ntmps24
    go_wp2_with fail
    refine (work_to W H _ n cap Z bo n bcap Y hn hn t a 0 HV.out _ HI.out HB.out).mono ?_
    rintro r w2 ⟨rfl, hb2⟩
    have H2 := hid (HST.out.stays hb2)
    have ct := ((HST.out.below.trans (hb2.mono HST.out.below.size)).cell (p := ⟨g, off + t, none⟩) hgz).trans HCT.out
    have HI2 := hid (HI.out.stays hb2)
    have HB2 := hid (HB.out.stays hb2)
    simp only [← hA] at H2 ⊢
    clear hA hb2 HST HI HB
    have b0 := cell_of_row w2 A 0 _ _ _ H2.out.hb
    have b1 := cell_of_row w2 A 1 _ _ _ H2.out.hb
    have b2 := cell_of_row w2 A 2 _ _ _ H2.out.hb
    have b3 := cell_of_row w2 A 3 _ _ _ H2.out.hb
    simp only [List.getElem?_toArray, List.getElem?_cons_zero, List.getElem?_cons_succ] at b0 b1 b2 b3
    have bz := heap_lt H2.out.hb
    go_wp2_with fail
    refine (rebuild_to W H _ n cap Z bo bcap Y (by omega) (by omega) t HT.out s _ HY.out _ HI2.out HB2.out).mono ?_
    rintro r w3 ⟨g', c, k, d, rfl, hg, hk, hgk, hb3⟩
    have H3 := hid (H2.out.stays hb3)
    have HG3 := hid (row_mono (base' := A) hg (by have := heap_lt H2.out.hr; omega))
    have HK3 := hid (row_mono (base' := A) hk (by have := heap_lt H2.out.hr; omega))
    have HGA : Hid (g' ≠ A + 1) := hid (by have := (hg.lt g' rfl).1; have := heap_lt H2.out.hr; omega)
    have HKA : Hid (k ≠ A + 1) := hid (by have := (hk.lt k rfl).1; have := heap_lt H2.out.hr; omega)
    clear hg hk hb3 H2 HI2 HB2 b0 b1 b2 b3 bz ct
    have r0 := cell_of_row w3 (A + 1) 0 _ _ _ H3.out.hr
    have r1 := cell_of_row w3 (A + 1) 1 _ _ _ H3.out.hr
    have r2 := cell_of_row w3 (A + 1) 2 _ _ _ H3.out.hr
    have r3 := cell_of_row w3 (A + 1) 3 _ _ _ H3.out.hr
    simp only [List.getElem?_toArray, List.getElem?_cons_zero, List.getElem?_cons_succ] at r0 r1 r2 r3
    have f0 := frozen_of_row w3 (A + 1) 0 _ _ H3.out.hr
    have f1 := frozen_of_row w3 (A + 1) 1 _ _ H3.out.hr
    have f2 := frozen_of_row w3 (A + 1) 2 _ _ H3.out.hr
    have f3 := frozen_of_row w3 (A + 1) 3 _ _ H3.out.hr
    have rz := heap_lt H3.out.hr
    have huw : IntKind.i64.wrap u = u := by rw [IntKind.wrap_i64]; omega
    go_wp2_with fail
    refine (count_any u s3 s4 p HP.out _).mono ?_
    rintro e w' ⟨rfl, rfl⟩
    go_wp2_with fail
    have k3 := set4 H3.out.hr (.int .i64 W) (.int .i64 H) (.slice (some ⟨g', 0, none⟩) n c) (.slice (some ⟨k, 0, none⟩) n d)
    have k4 := set4_below (g := A + 1) H3.out.below (Nat.le_succ _) (.int .i64 W) (.int .i64 H) (.slice (some ⟨g', 0, none⟩) n c) (.slice (some ⟨k, 0, none⟩) n d)
    have k5 := set4_row (g := A + 1) HG3.out (by simpa [Value.ownBlock] using HGA.out) (.int .i64 W) (.int .i64 H) (.slice (some ⟨g', 0, none⟩) n c) (.slice (some ⟨k, 0, none⟩) n d)
    have k6 := set4_row (g := A + 1) HK3.out (by simpa [Value.ownBlock] using HKA.out) (.int .i64 W) (.int .i64 H) (.slice (some ⟨g', 0, none⟩) n c) (.slice (some ⟨k, 0, none⟩) n d)
    clear r0 r1 r2 r3 f0 f1 f2 f3
    generalize World.setCell _ _ _ = wz at k3 k4 k5 k6 ⊢
    have q0 := cell_of_row wz (A + 1) 0 _ _ _ k3
    have q1 := cell_of_row wz (A + 1) 1 _ _ _ k3
    have q2 := cell_of_row wz (A + 1) 2 _ _ _ k3
    have q3 := cell_of_row wz (A + 1) 3 _ _ _ k3
    simp only [List.getElem?_toArray, List.getElem?_cons_zero, List.getElem?_cons_succ] at q0 q1 q2 q3
    refine bodyPost_ret (v := .tuple #[rv W H (.slice (some ⟨g', 0, none⟩) n c) (.slice (some ⟨k, 0, none⟩) n d), .int .i64 (p * 75), .int .i64 0]) (by simp [results, Try.results24, go_sem, q0, q1, q2, q3]) rfl ?_
    rw [hZ.out, ← HC.out]
    exact ⟨_, c, _, d, rfl, vals_of_row k5, vals_of_row k6, by rw [← HA.out]; exact k4⟩
end Go.Proofs.Ytaepiegbpgkciaa
