/-
  The walks of Turn, of the program and of the reference.
-/
import Derived.Test.YtaepiegbpgkciaaWalkPave
import Derived.Test.YtaepiegbpgkciaaWalkRVal
namespace Go.Proofs.Ytaepiegbpgkciaa
open Go.RowKit

/-- Streets in new memory, and an error. -/
def Out2 (W H : Int) (n : Nat) (Z Y : Nat → Int) (e : Int) (w : World) (r : Ending) (w' : World) : Prop :=
  ∃ (ao : Option Addr) (ca : Nat) (bo : Option Addr) (cb : Nat), r = .returned (.tuple #[rv W H (.slice ao n ca) (.slice bo n cb), .int .i64 e]) ∧ Ints w' ao n Z ∧ Ints w' bo n Y ∧ Below w.heap.size w w'
theorem out2_zero {e : Int} {w w' : World} (h : Below w.heap.size w w') : Out2 0 0 0 (fun _ => 0) (fun _ => 0) e w (.returned (.tuple #[rnil, .int .i64 e])) w' :=
  ⟨none, 0, none, 0, rfl, fun j hj => absurd hj (Nat.not_lt_zero j), fun j hj => absurd hj (Nat.not_lt_zero j), h⟩
/-- What setting the ways of a tile gives. -/
def TurnIs (W H : Int) (n m : Nat) (Z Y : Nat → Int) (t y : Int) (W' H' : Int) (n' : Nat) (Z' Y' : Nat → Int) (e : Int) : Prop :=
  (e ≠ 0 ∧ (TErr W H n m Z Y t e ∨ (e = 1 ∧ TErr W H n m Z Y t 0 ∧ ¬ (0 ≤ y ∧ y ≤ 2)) ∨ (e = 9 ∧ TErr W H n m Z Y t 0 ∧ (0 ≤ y ∧ y ≤ 2) ∧ ∀ t0 : Nat, t = t0 → ¬ Carry (Z t0) y)) ∧ W' = 0 ∧ H' = 0 ∧ n' = 0 ∧ Z' = (fun _ => 0) ∧ Y' = (fun _ => 0)) ∨
  (e = 0 ∧ TErr W H n m Z Y t 0 ∧ (0 ≤ y ∧ y ≤ 2) ∧ Carry (Z t.toNat) y ∧ W = W' ∧ H = H' ∧ n = n' ∧ n = m ∧ ∃ t0 : Nat, t = t0 ∧ Z = Z' ∧ Y' = upd Y t0 y)
theorem TurnIs.ex (W H : Int) (n m : Nat) (Z Y : Nat → Int) (t y : Int) : ∃ W' H' n' Z' Y' e, TurnIs W H n m Z Y t y W' H' n' Z' Y' e := by
  obtain ⟨e, h⟩ := TErr.ex W H n m Z Y t
  by_cases he : e = 0
  · subst he
    obtain ⟨hR, ht0, ht1⟩ := h.right
    by_cases hy : 0 ≤ y ∧ y ≤ 2
    · by_cases hc : Carry (Z t.toNat) y
      · exact ⟨_, _, _, _, _, 0, .inr ⟨rfl, h, hy, hc, rfl, rfl, rfl, hR.eq, t.toNat, by omega, rfl, rfl⟩⟩
      · exact ⟨_, _, _, _, _, 9, .inl ⟨by decide, .inr (.inr ⟨rfl, h, hy, fun t0 e => by rw [e, Int.toNat_natCast] at hc; exact hc⟩), rfl, rfl, rfl, rfl, rfl⟩⟩
    · exact ⟨_, _, _, _, _, 1, .inl ⟨by decide, .inr (.inl ⟨rfl, h, hy⟩), rfl, rfl, rfl, rfl, rfl⟩⟩
  · exact ⟨_, _, _, _, _, e, .inl ⟨he, .inl h, rfl, rfl, rfl, rfl, rfl⟩⟩

set_option maxRecDepth 100000 in
set_option maxHeartbeats 6400000 in
theorem turn_to (W H : Int) (ao : Option Addr) (n cap : Nat) (Z : Nat → Int) (bo : Option Addr) (m bcap : Nat) (Y : Nat → Int) (hn : n ≤ 9223372036854775807) (hm : m ≤ 9223372036854775807) (t y : Int) {W' H' : Int} {n' : Nat} {Z' Y' : Nat → Int} {e : Int}
    (h : TurnIs W H n m Z Y t y W' H' n' Z' Y' e) (w : World) (hI : Ints w ao n Z) (hB : Ints w bo m Y) :
    Calls Try.prog 27 #[rv W H (.slice ao n cap) (.slice bo m bcap), .int .i64 t, .int .i64 y] w (Out2 W' H' n' Z' Y' e w) := by
  have hst := bx2_start w 24 24 #[.int .i64 W, .int .i64 H, .slice ao n cap, .slice bo m bcap] #[.int .i64 0, .int .i64 0, .slice none 0 0, .slice none 0 0]
  have HI := hid (hI.stays hst.below)
  have HB := hid (hB.stays hst.below)
  have HST := hid hst
  obtain ⟨A, hA⟩ : ∃ A, A = w.heap.size := ⟨_, rfl⟩
  have HA := hid hA
  rcases h with ⟨he, h, rfl, rfl, rfl, rfl, rfl⟩ | ⟨rfl, h, hy, hc, rfl, rfl, rfl, rfl, t, rfl, rfl, rfl⟩
  · rcases h with h | ⟨rfl, h, hy⟩ | ⟨rfl, h, hy, hc⟩
    · have HV := hid h
      have e0 : (e != 0) = true := by simpa using he
      clear hI hB hst h he
      go_enter Try.func27, Try.ntmps27
      go_wp2_with fail
      refine (tile_to W H ao n cap Z bo m bcap Y hn hm t e HV.out _ HI.out HB.out).mono ?_
      rintro r w2 ⟨rfl, hb2⟩
      have H2 := hid (HST.out.stays hb2)
      have HI2 := hid (HI.out.stays hb2)
      have HB2 := hid (HB.out.stays hb2)
      simp only [← hA] at H2 ⊢
      clear hA hb2 HST HI HB
      clear HI2 HB2
      have r0 := cell_of_row w2 (A + 1) 0 _ _ _ H2.out.hr
      have r1 := cell_of_row w2 (A + 1) 1 _ _ _ H2.out.hr
      have r2 := cell_of_row w2 (A + 1) 2 _ _ _ H2.out.hr
      have r3 := cell_of_row w2 (A + 1) 3 _ _ _ H2.out.hr
      simp only [List.getElem?_toArray, List.getElem?_cons_zero, List.getElem?_cons_succ] at r0 r1 r2 r3
      have f0 := frozen_of_row w2 (A + 1) 0 _ _ H2.out.hr
      have f1 := frozen_of_row w2 (A + 1) 1 _ _ H2.out.hr
      have f2 := frozen_of_row w2 (A + 1) 2 _ _ H2.out.hr
      have f3 := frozen_of_row w2 (A + 1) 3 _ _ H2.out.hr
      have rz := heap_lt H2.out.hr
      go_wp2_with fail
      have k3 := set4 H2.out.hr (.int .i64 0) (.int .i64 0) (.slice none 0 0) (.slice none 0 0)
      have k4 := set4_below (g := A + 1) H2.out.below (Nat.le_succ _) (.int .i64 0) (.int .i64 0) (.slice none 0 0) (.slice none 0 0)
      clear r0 r1 r2 r3 f0 f1 f2 f3
      generalize World.setCell _ _ _ = wz at k3 k4 ⊢
      have q0 := cell_of_row wz (A + 1) 0 _ _ _ k3
      have q1 := cell_of_row wz (A + 1) 1 _ _ _ k3
      have q2 := cell_of_row wz (A + 1) 2 _ _ _ k3
      have q3 := cell_of_row wz (A + 1) 3 _ _ _ k3
      simp only [List.getElem?_toArray, List.getElem?_cons_zero, List.getElem?_cons_succ] at q0 q1 q2 q3
      exact bodyPost_ret (v := (.tuple #[rnil, .int .i64 e])) (by simp [results, Try.results27, go_sem, q0, q1, q2, q3]) rfl (out2_zero (by rw [← HA.out]; exact k4))
    · have HV := hid h
      have HY := hid hy
      clear hI hB hst h he hy
      go_enter Try.func27, Try.ntmps27
      go_wp2_with fail
      refine (tile_to W H ao n cap Z bo m bcap Y hn hm t 0 HV.out _ HI.out HB.out).mono ?_
      rintro r w2 ⟨rfl, hb2⟩
      have H2 := hid (HST.out.stays hb2)
      have HI2 := hid (HI.out.stays hb2)
      have HB2 := hid (HB.out.stays hb2)
      simp only [← hA] at H2 ⊢
      clear hA hb2 HST HI HB
      clear HI2 HB2
      have r0 := cell_of_row w2 (A + 1) 0 _ _ _ H2.out.hr
      have r1 := cell_of_row w2 (A + 1) 1 _ _ _ H2.out.hr
      have r2 := cell_of_row w2 (A + 1) 2 _ _ _ H2.out.hr
      have r3 := cell_of_row w2 (A + 1) 3 _ _ _ H2.out.hr
      simp only [List.getElem?_toArray, List.getElem?_cons_zero, List.getElem?_cons_succ] at r0 r1 r2 r3
      have f0 := frozen_of_row w2 (A + 1) 0 _ _ H2.out.hr
      have f1 := frozen_of_row w2 (A + 1) 1 _ _ H2.out.hr
      have f2 := frozen_of_row w2 (A + 1) 2 _ _ H2.out.hr
      have f3 := frozen_of_row w2 (A + 1) 3 _ _ H2.out.hr
      have rz := heap_lt H2.out.hr
      go_wp2_with (go_at_call 40; refine (isWay_no HY.out _).mono ?_; rintro e w' ⟨rfl, rfl⟩)
      have k3 := set4 H2.out.hr (.int .i64 0) (.int .i64 0) (.slice none 0 0) (.slice none 0 0)
      have k4 := set4_below (g := A + 1) H2.out.below (Nat.le_succ _) (.int .i64 0) (.int .i64 0) (.slice none 0 0) (.slice none 0 0)
      clear r0 r1 r2 r3 f0 f1 f2 f3
      generalize World.setCell _ _ _ = wz at k3 k4 ⊢
      have q0 := cell_of_row wz (A + 1) 0 _ _ _ k3
      have q1 := cell_of_row wz (A + 1) 1 _ _ _ k3
      have q2 := cell_of_row wz (A + 1) 2 _ _ _ k3
      have q3 := cell_of_row wz (A + 1) 3 _ _ _ k3
      simp only [List.getElem?_toArray, List.getElem?_cons_zero, List.getElem?_cons_succ] at q0 q1 q2 q3
      exact bodyPost_ret (v := (.tuple #[rnil, .int .i64 1])) (by simp [results, Try.results27, go_sem, q0, q1, q2, q3]) rfl (out2_zero (by rw [← HA.out]; exact k4))
    · obtain ⟨hR, ht0, ht1⟩ := h.right
      have HV := hid h
      have HY := hid hy
      obtain ⟨t, rfl⟩ := Int.eq_ofNat_of_zero_le ht0
      have ht2 : t < n := by omega
      have HT := hid ht2
      have HR := hid hR
      obtain ⟨g, off, rfl, hgz, hct⟩ := ints_cell hI ht2
      have HCT := hid hct
      obtain ⟨z, hz⟩ : ∃ z, z = Z t := ⟨_, rfl⟩
      rw [← hz] at HCT
      have HZ := hid hz
      have t1 : (0 : Int) ≤ (t : Int) := by omega
      have t2 : (t : Int) < (n : Int) := by omega
      have HC : Hid (¬ Carry z y) := hid (by rw [hz]; have := hc t rfl; exact this)
      clear hI hB hst h he hy hc hz hR ht0 ht1
      go_enter Try.func27, Try.ntmps27
      go_wp2_with fail
      refine (tile_to W H _ n cap Z bo m bcap Y hn hm t 0 HV.out _ HI.out HB.out).mono ?_
      rintro r w2 ⟨rfl, hb2⟩
      have H2 := hid (HST.out.stays hb2)
      have ct := ((HST.out.below.trans (hb2.mono HST.out.below.size)).cell (p := ⟨g, off + t, none⟩) hgz).trans HCT.out
      have HI2 := hid (HI.out.stays hb2)
      have HB2 := hid (HB.out.stays hb2)
      simp only [← hA] at H2 ⊢
      clear hA hb2 HST HI HB
      clear HI2 HB2
      have r0 := cell_of_row w2 (A + 1) 0 _ _ _ H2.out.hr
      have r1 := cell_of_row w2 (A + 1) 1 _ _ _ H2.out.hr
      have r2 := cell_of_row w2 (A + 1) 2 _ _ _ H2.out.hr
      have r3 := cell_of_row w2 (A + 1) 3 _ _ _ H2.out.hr
      simp only [List.getElem?_toArray, List.getElem?_cons_zero, List.getElem?_cons_succ] at r0 r1 r2 r3
      have f0 := frozen_of_row w2 (A + 1) 0 _ _ H2.out.hr
      have f1 := frozen_of_row w2 (A + 1) 1 _ _ H2.out.hr
      have f2 := frozen_of_row w2 (A + 1) 2 _ _ H2.out.hr
      have f3 := frozen_of_row w2 (A + 1) 3 _ _ H2.out.hr
      have rz := heap_lt H2.out.hr
      have b0 := cell_of_row w2 A 0 _ _ _ H2.out.hb
      have b1 := cell_of_row w2 A 1 _ _ _ H2.out.hb
      have b2 := cell_of_row w2 A 2 _ _ _ H2.out.hb
      have b3 := cell_of_row w2 A 3 _ _ _ H2.out.hb
      simp only [List.getElem?_toArray, List.getElem?_cons_zero, List.getElem?_cons_succ] at b0 b1 b2 b3
      have bz := heap_lt H2.out.hb
      go_wp2_with (first | (go_at_call 40; refine (isWay_yes HY.out _).mono ?_; rintro e w' ⟨rfl, rfl⟩) | (go_at_call 41; refine (carries_no HC.out _).mono ?_; rintro e w' ⟨rfl, rfl⟩))
      have k3 := set4 H2.out.hr (.int .i64 0) (.int .i64 0) (.slice none 0 0) (.slice none 0 0)
      have k4 := set4_below (g := A + 1) H2.out.below (Nat.le_succ _) (.int .i64 0) (.int .i64 0) (.slice none 0 0) (.slice none 0 0)
      clear r0 r1 r2 r3 f0 f1 f2 f3
      generalize World.setCell _ _ _ = wz at k3 k4 ⊢
      have q0 := cell_of_row wz (A + 1) 0 _ _ _ k3
      have q1 := cell_of_row wz (A + 1) 1 _ _ _ k3
      have q2 := cell_of_row wz (A + 1) 2 _ _ _ k3
      have q3 := cell_of_row wz (A + 1) 3 _ _ _ k3
      simp only [List.getElem?_toArray, List.getElem?_cons_zero, List.getElem?_cons_succ] at q0 q1 q2 q3
      exact bodyPost_ret (v := (.tuple #[rnil, .int .i64 9])) (by simp [results, Try.results27, go_sem, q0, q1, q2, q3]) rfl (out2_zero (by rw [← HA.out]; exact k4))
  · obtain ⟨hR, ht0, ht1⟩ := h.right
    have HV := hid h
    have HY := hid hy
    have hsm := hR.small
    have ht2 : t < n := by omega
    have HT := hid ht2
    have HR := hid hR
    obtain ⟨g, off, rfl, hgz, hct⟩ := ints_cell hI ht2
    have HCT := hid hct
    obtain ⟨z, hz⟩ : ∃ z, z = Z t := ⟨_, rfl⟩
    rw [← hz] at HCT
    have HZ := hid hz
    have t1 : (0 : Int) ≤ (t : Int) := by omega
    have t2 : (t : Int) < (n : Int) := by omega
    have HC : Hid (Carry z y) := hid (by rw [hz]; exact hc)
    clear hI hB hst h hy hc hz hR ht0 ht1
    go_enter Try.func27, Try.ntmps27
    go_wp2_with fail
    refine (tile_to W H _ n cap Z bo n bcap Y hn hn t 0 HV.out _ HI.out HB.out).mono ?_
    rintro r w2 ⟨rfl, hb2⟩
    have H2 := hid (HST.out.stays hb2)
    have ct := ((HST.out.below.trans (hb2.mono HST.out.below.size)).cell (p := ⟨g, off + t, none⟩) hgz).trans HCT.out
    have HI2 := hid (HI.out.stays hb2)
    have HB2 := hid (HB.out.stays hb2)
    simp only [← hA] at H2 ⊢
    clear hA hb2 HST HI HB
    have b0 := cell_of_row w2 A 0 _ _ _ H2.out.hb
    have b1 := cell_of_row w2 A 1 _ _ _ H2.out.hb
    have b2 := cell_of_row w2 A 2 _ _ _ H2.out.hb
    have b3 := cell_of_row w2 A 3 _ _ _ H2.out.hb
    simp only [List.getElem?_toArray, List.getElem?_cons_zero, List.getElem?_cons_succ] at b0 b1 b2 b3
    have bz := heap_lt H2.out.hb
    go_wp2_with (first | (go_at_call 40; refine (isWay_yes HY.out _).mono ?_; rintro e w' ⟨rfl, rfl⟩) | (go_at_call 41; refine (carries_yes HC.out _).mono ?_; rintro e w' ⟨rfl, rfl⟩))
    refine (clone_any W H _ n cap Z bo bcap Y (by omega) (by omega) _ HI2.out HB2.out).mono ?_
    rintro r w4 ⟨g', c, k, d, rfl, hg, hk, hgk, hb4⟩
    have H4 := hid (H2.out.stays hb4)
    have HG4 := hid (row_mono (base' := A) hg (by have := heap_lt H2.out.hr; omega))
    have HK4 := hid (row_mono (base' := A) hk (by have := heap_lt H2.out.hr; omega))
    have hg2 : A + 1 < g' := by have := (hg.lt g' rfl).1; have := heap_lt H2.out.hr; omega
    have hk2 : A + 1 < k := by have := (hk.lt k rfl).1; have := heap_lt H2.out.hr; omega
    clear hb4 hg hk H2 HI2 HB2 b0 b1 b2 b3 bz ct
    have b0 := cell_of_row w4 A 0 _ _ _ H4.out.hb
    have b1 := cell_of_row w4 A 1 _ _ _ H4.out.hb
    have b2 := cell_of_row w4 A 2 _ _ _ H4.out.hb
    have b3 := cell_of_row w4 A 3 _ _ _ H4.out.hb
    simp only [List.getElem?_toArray, List.getElem?_cons_zero, List.getElem?_cons_succ] at b0 b1 b2 b3
    have bz := heap_lt H4.out.hb
    have e0 := frozen_of_row w4 A 0 _ _ H4.out.hb
    have e1 := frozen_of_row w4 A 1 _ _ H4.out.hb
    have e2 := frozen_of_row w4 A 2 _ _ H4.out.hb
    have e3 := frozen_of_row w4 A 3 _ _ H4.out.hb
    go_upto_region 9 with (fail)
    have HL := hid (ls_box (W := W) (H := H) H4.out HG4.out HK4.out hg2 hk2 hgk)
    clear b0 b1 b2 b3 bz e0 e1 e2 e3 H4 HG4 HK4 hg2 hk2
    generalize World.setCell _ _ _ = w5 at HL ⊢
    obtain ⟨_, c3, ck, fk, sk⟩ := HL.out.k_at HT.out
    have nk := HL.out.nk.1
    obtain ⟨b0, b1, b2, _, bz⟩ := HL.out.box
    obtain ⟨⟨r0, r1, r2, r3⟩, ⟨f0, f1, f2, f3⟩, rz⟩ := HL.out.res
    have nkA := HL.out.nk.2.1
    have nC := HL.out.no.1
    go_wp2_with fail
    have HL2 := hid (HL.out.setK t y)
    obtain ⟨k3, k4, k5, k6⟩ := HL2.out.done rfl rfl rfl rfl
    clear b0 b1 b2 c3 ck fk sk r0 r1 r2 r3 f0 f1 f2 f3
    generalize World.setCell _ _ _ = wz at k3 k4 k5 k6 ⊢
    have q0 := cell_of_row wz (A + 1) 0 _ _ _ k3
    have q1 := cell_of_row wz (A + 1) 1 _ _ _ k3
    have q2 := cell_of_row wz (A + 1) 2 _ _ _ k3
    have q3 := cell_of_row wz (A + 1) 3 _ _ _ k3
    simp only [List.getElem?_toArray, List.getElem?_cons_zero, List.getElem?_cons_succ] at q0 q1 q2 q3
    exact bodyPost_ret (v := .tuple #[rv W H (.slice (some ⟨g', 0, none⟩) n c) (.slice (some ⟨k, 0, none⟩) n d), .int .i64 0]) (by simp [results, Try.results27, go_sem, q0, q1, q2, q3]) rfl ⟨_, c, _, d, rfl, vals_of_row k5, vals_of_row k6, by rw [← HA.out]; exact k4⟩

set_option maxRecDepth 100000 in
set_option maxHeartbeats 6400000 in
theorem refturn_to (W H : Int) (ao : Option Addr) (n cap : Nat) (Z : Nat → Int) (bo : Option Addr) (m bcap : Nat) (Y : Nat → Int) (hn : n ≤ 9223372036854775807) (hm : m ≤ 9223372036854775807) (t y : Int) {W' H' : Int} {n' : Nat} {Z' Y' : Nat → Int} {e : Int}
    (h : TurnIs W H n m Z Y t y W' H' n' Z' Y' e) (w : World) (hI : Ints w ao n Z) (hB : Ints w bo m Y) :
    Calls Try.prog 28 #[rv W H (.slice ao n cap) (.slice bo m bcap), .int .i64 t, .int .i64 y] w (Out2 W' H' n' Z' Y' e w) := by
  have hst := bx2_start w 24 24 #[.int .i64 W, .int .i64 H, .slice ao n cap, .slice bo m bcap] #[.int .i64 0, .int .i64 0, .slice none 0 0, .slice none 0 0]
  have HI := hid (hI.stays hst.below)
  have HB := hid (hB.stays hst.below)
  have HST := hid hst
  obtain ⟨A, hA⟩ : ∃ A, A = w.heap.size := ⟨_, rfl⟩
  have HA := hid hA
  rcases h with ⟨he, h, rfl, rfl, rfl, rfl, rfl⟩ | ⟨rfl, h, hy, hc, rfl, rfl, rfl, rfl, t, rfl, rfl, rfl⟩
  · rcases h with h | ⟨rfl, h, hy⟩ | ⟨rfl, h, hy, hc⟩
    · rcases h with ⟨_, h⟩ | ⟨rfl, hR, ht⟩ | ⟨rfl, _, _⟩
      · have HV := hid h
        have e0 : (e != 0) = true := by simpa using he
        clear hI hB hst h he
        go_enter Try.func28, Try.ntmps28
        go_wp2_with fail
        refine (refvalidate_any W H ao n cap Z bo m bcap Y hn hm _ HI.out HB.out e HV.out).mono ?_
        rintro r w9 ⟨rfl, hb2⟩
        have H2 := hid (HST.out.stays hb2)
        have HI2 := hid (HI.out.stays hb2)
        have HB2 := hid (HB.out.stays hb2)
        simp only [← hA] at H2 ⊢
        clear hA hb2 HST HI HB
        clear HI2 HB2
        have r0 := cell_of_row w9 (A + 1) 0 _ _ _ H2.out.hr
        have r1 := cell_of_row w9 (A + 1) 1 _ _ _ H2.out.hr
        have r2 := cell_of_row w9 (A + 1) 2 _ _ _ H2.out.hr
        have r3 := cell_of_row w9 (A + 1) 3 _ _ _ H2.out.hr
        simp only [List.getElem?_toArray, List.getElem?_cons_zero, List.getElem?_cons_succ] at r0 r1 r2 r3
        have f0 := frozen_of_row w9 (A + 1) 0 _ _ H2.out.hr
        have f1 := frozen_of_row w9 (A + 1) 1 _ _ H2.out.hr
        have f2 := frozen_of_row w9 (A + 1) 2 _ _ H2.out.hr
        have f3 := frozen_of_row w9 (A + 1) 3 _ _ H2.out.hr
        have rz := heap_lt H2.out.hr
        go_wp2_with fail
        have k3 := set4 H2.out.hr (.int .i64 0) (.int .i64 0) (.slice none 0 0) (.slice none 0 0)
        have k4 := set4_below (g := A + 1) H2.out.below (Nat.le_succ _) (.int .i64 0) (.int .i64 0) (.slice none 0 0) (.slice none 0 0)
        clear r0 r1 r2 r3 f0 f1 f2 f3
        generalize World.setCell _ _ _ = wz at k3 k4 ⊢
        have q0 := cell_of_row wz (A + 1) 0 _ _ _ k3
        have q1 := cell_of_row wz (A + 1) 1 _ _ _ k3
        have q2 := cell_of_row wz (A + 1) 2 _ _ _ k3
        have q3 := cell_of_row wz (A + 1) 3 _ _ _ k3
        simp only [List.getElem?_toArray, List.getElem?_cons_zero, List.getElem?_cons_succ] at q0 q1 q2 q3
        exact bodyPost_ret (v := (.tuple #[rnil, .int .i64 e])) (by simp [results, Try.results28, go_sem, q0, q1, q2, q3]) rfl (out2_zero (by rw [← HA.out]; exact k4))
      · have HV := hid (verr_ok hR)
        have hbd := hR.sized.bound
        have hWH : W * H = n := hR.args.arms.symm
        obtain ⟨⟨w1, w2⟩, w3, w4⟩ := hR.sized
        obtain ⟨q1, q2⟩ := hbd
        by_cases h0 : t < 0
        · clear hI hB hst he hR ht
          go_enter Try.func28, Try.ntmps28
          go_wp2_with fail
          refine (refvalidate_any W H ao n cap Z bo m bcap Y hn hm _ HI.out HB.out 0 HV.out).mono ?_
          rintro r w9 ⟨rfl, hb2⟩
          have H2 := hid (HST.out.stays hb2)
          have HI2 := hid (HI.out.stays hb2)
          have HB2 := hid (HB.out.stays hb2)
          simp only [← hA] at H2 ⊢
          clear hA hb2 HST HI HB
          clear HI2 HB2
          have r0 := cell_of_row w9 (A + 1) 0 _ _ _ H2.out.hr
          have r1 := cell_of_row w9 (A + 1) 1 _ _ _ H2.out.hr
          have r2 := cell_of_row w9 (A + 1) 2 _ _ _ H2.out.hr
          have r3 := cell_of_row w9 (A + 1) 3 _ _ _ H2.out.hr
          simp only [List.getElem?_toArray, List.getElem?_cons_zero, List.getElem?_cons_succ] at r0 r1 r2 r3
          have f0 := frozen_of_row w9 (A + 1) 0 _ _ H2.out.hr
          have f1 := frozen_of_row w9 (A + 1) 1 _ _ H2.out.hr
          have f2 := frozen_of_row w9 (A + 1) 2 _ _ H2.out.hr
          have f3 := frozen_of_row w9 (A + 1) 3 _ _ H2.out.hr
          have rz := heap_lt H2.out.hr
          go_wp2_with fail
          have k3 := set4 H2.out.hr (.int .i64 0) (.int .i64 0) (.slice none 0 0) (.slice none 0 0)
          have k4 := set4_below (g := A + 1) H2.out.below (Nat.le_succ _) (.int .i64 0) (.int .i64 0) (.slice none 0 0) (.slice none 0 0)
          clear r0 r1 r2 r3 f0 f1 f2 f3
          generalize World.setCell _ _ _ = wz at k3 k4 ⊢
          have q0 := cell_of_row wz (A + 1) 0 _ _ _ k3
          have q1 := cell_of_row wz (A + 1) 1 _ _ _ k3
          have q2 := cell_of_row wz (A + 1) 2 _ _ _ k3
          have q3 := cell_of_row wz (A + 1) 3 _ _ _ k3
          simp only [List.getElem?_toArray, List.getElem?_cons_zero, List.getElem?_cons_succ] at q0 q1 q2 q3
          exact bodyPost_ret (v := (.tuple #[rnil, .int .i64 2])) (by simp [results, Try.results28, go_sem, q0, q1, q2, q3]) rfl (out2_zero (by rw [← HA.out]; exact k4))
        · have h1 : W * H ≤ t := by omega
          clear hI hB hst he hR ht
          go_enter Try.func28, Try.ntmps28
          go_wp2_with fail
          refine (refvalidate_any W H ao n cap Z bo m bcap Y hn hm _ HI.out HB.out 0 HV.out).mono ?_
          rintro r w9 ⟨rfl, hb2⟩
          have H2 := hid (HST.out.stays hb2)
          have HI2 := hid (HI.out.stays hb2)
          have HB2 := hid (HB.out.stays hb2)
          simp only [← hA] at H2 ⊢
          clear hA hb2 HST HI HB
          have b0 := cell_of_row w9 A 0 _ _ _ H2.out.hb
          have b1 := cell_of_row w9 A 1 _ _ _ H2.out.hb
          have b2 := cell_of_row w9 A 2 _ _ _ H2.out.hb
          have b3 := cell_of_row w9 A 3 _ _ _ H2.out.hb
          simp only [List.getElem?_toArray, List.getElem?_cons_zero, List.getElem?_cons_succ] at b0 b1 b2 b3
          have bz := heap_lt H2.out.hb
          clear HI2 HB2
          have r0 := cell_of_row w9 (A + 1) 0 _ _ _ H2.out.hr
          have r1 := cell_of_row w9 (A + 1) 1 _ _ _ H2.out.hr
          have r2 := cell_of_row w9 (A + 1) 2 _ _ _ H2.out.hr
          have r3 := cell_of_row w9 (A + 1) 3 _ _ _ H2.out.hr
          simp only [List.getElem?_toArray, List.getElem?_cons_zero, List.getElem?_cons_succ] at r0 r1 r2 r3
          have f0 := frozen_of_row w9 (A + 1) 0 _ _ H2.out.hr
          have f1 := frozen_of_row w9 (A + 1) 1 _ _ H2.out.hr
          have f2 := frozen_of_row w9 (A + 1) 2 _ _ H2.out.hr
          have f3 := frozen_of_row w9 (A + 1) 3 _ _ H2.out.hr
          have rz := heap_lt H2.out.hr
          go_wp2_with fail
          have k3 := set4 H2.out.hr (.int .i64 0) (.int .i64 0) (.slice none 0 0) (.slice none 0 0)
          have k4 := set4_below (g := A + 1) H2.out.below (Nat.le_succ _) (.int .i64 0) (.int .i64 0) (.slice none 0 0) (.slice none 0 0)
          clear r0 r1 r2 r3 f0 f1 f2 f3
          generalize World.setCell _ _ _ = wz at k3 k4 ⊢
          have q0 := cell_of_row wz (A + 1) 0 _ _ _ k3
          have q1 := cell_of_row wz (A + 1) 1 _ _ _ k3
          have q2 := cell_of_row wz (A + 1) 2 _ _ _ k3
          have q3 := cell_of_row wz (A + 1) 3 _ _ _ k3
          simp only [List.getElem?_toArray, List.getElem?_cons_zero, List.getElem?_cons_succ] at q0 q1 q2 q3
          exact bodyPost_ret (v := (.tuple #[rnil, .int .i64 2])) (by simp [results, Try.results28, go_sem, q0, q1, q2, q3]) rfl (out2_zero (by rw [← HA.out]; exact k4))
      · exact absurd rfl he
    · obtain ⟨hR, ht0, ht1⟩ := h.right
      have HV := hid (verr_ok hR)
      have hbd := hR.sized.bound
      have hWH : W * H = n := hR.args.arms.symm
      obtain ⟨⟨w1, w2⟩, w3, w4⟩ := hR.sized
      obtain ⟨q1, q2⟩ := hbd
      have ht3 : t < W * H := by omega
      by_cases h0 : y < 0
      · clear hI hB hst he hR h hy
        go_enter Try.func28, Try.ntmps28
        go_wp2_with fail
        refine (refvalidate_any W H ao n cap Z bo m bcap Y hn hm _ HI.out HB.out 0 HV.out).mono ?_
        rintro r w9 ⟨rfl, hb2⟩
        have H2 := hid (HST.out.stays hb2)
        have HI2 := hid (HI.out.stays hb2)
        have HB2 := hid (HB.out.stays hb2)
        simp only [← hA] at H2 ⊢
        clear hA hb2 HST HI HB
        have b0 := cell_of_row w9 A 0 _ _ _ H2.out.hb
        have b1 := cell_of_row w9 A 1 _ _ _ H2.out.hb
        have b2 := cell_of_row w9 A 2 _ _ _ H2.out.hb
        have b3 := cell_of_row w9 A 3 _ _ _ H2.out.hb
        simp only [List.getElem?_toArray, List.getElem?_cons_zero, List.getElem?_cons_succ] at b0 b1 b2 b3
        have bz := heap_lt H2.out.hb
        clear HI2 HB2
        have r0 := cell_of_row w9 (A + 1) 0 _ _ _ H2.out.hr
        have r1 := cell_of_row w9 (A + 1) 1 _ _ _ H2.out.hr
        have r2 := cell_of_row w9 (A + 1) 2 _ _ _ H2.out.hr
        have r3 := cell_of_row w9 (A + 1) 3 _ _ _ H2.out.hr
        simp only [List.getElem?_toArray, List.getElem?_cons_zero, List.getElem?_cons_succ] at r0 r1 r2 r3
        have f0 := frozen_of_row w9 (A + 1) 0 _ _ H2.out.hr
        have f1 := frozen_of_row w9 (A + 1) 1 _ _ H2.out.hr
        have f2 := frozen_of_row w9 (A + 1) 2 _ _ H2.out.hr
        have f3 := frozen_of_row w9 (A + 1) 3 _ _ H2.out.hr
        have rz := heap_lt H2.out.hr
        go_wp2_with fail
        have k3 := set4 H2.out.hr (.int .i64 0) (.int .i64 0) (.slice none 0 0) (.slice none 0 0)
        have k4 := set4_below (g := A + 1) H2.out.below (Nat.le_succ _) (.int .i64 0) (.int .i64 0) (.slice none 0 0) (.slice none 0 0)
        clear r0 r1 r2 r3 f0 f1 f2 f3
        generalize World.setCell _ _ _ = wz at k3 k4 ⊢
        have q0 := cell_of_row wz (A + 1) 0 _ _ _ k3
        have q1 := cell_of_row wz (A + 1) 1 _ _ _ k3
        have q2 := cell_of_row wz (A + 1) 2 _ _ _ k3
        have q3 := cell_of_row wz (A + 1) 3 _ _ _ k3
        simp only [List.getElem?_toArray, List.getElem?_cons_zero, List.getElem?_cons_succ] at q0 q1 q2 q3
        exact bodyPost_ret (v := (.tuple #[rnil, .int .i64 1])) (by simp [results, Try.results28, go_sem, q0, q1, q2, q3]) rfl (out2_zero (by rw [← HA.out]; exact k4))
      · have h1 : 2 < y := by omega
        clear hI hB hst he hR h hy
        go_enter Try.func28, Try.ntmps28
        go_wp2_with fail
        refine (refvalidate_any W H ao n cap Z bo m bcap Y hn hm _ HI.out HB.out 0 HV.out).mono ?_
        rintro r w9 ⟨rfl, hb2⟩
        have H2 := hid (HST.out.stays hb2)
        have HI2 := hid (HI.out.stays hb2)
        have HB2 := hid (HB.out.stays hb2)
        simp only [← hA] at H2 ⊢
        clear hA hb2 HST HI HB
        have b0 := cell_of_row w9 A 0 _ _ _ H2.out.hb
        have b1 := cell_of_row w9 A 1 _ _ _ H2.out.hb
        have b2 := cell_of_row w9 A 2 _ _ _ H2.out.hb
        have b3 := cell_of_row w9 A 3 _ _ _ H2.out.hb
        simp only [List.getElem?_toArray, List.getElem?_cons_zero, List.getElem?_cons_succ] at b0 b1 b2 b3
        have bz := heap_lt H2.out.hb
        clear HI2 HB2
        have r0 := cell_of_row w9 (A + 1) 0 _ _ _ H2.out.hr
        have r1 := cell_of_row w9 (A + 1) 1 _ _ _ H2.out.hr
        have r2 := cell_of_row w9 (A + 1) 2 _ _ _ H2.out.hr
        have r3 := cell_of_row w9 (A + 1) 3 _ _ _ H2.out.hr
        simp only [List.getElem?_toArray, List.getElem?_cons_zero, List.getElem?_cons_succ] at r0 r1 r2 r3
        have f0 := frozen_of_row w9 (A + 1) 0 _ _ H2.out.hr
        have f1 := frozen_of_row w9 (A + 1) 1 _ _ H2.out.hr
        have f2 := frozen_of_row w9 (A + 1) 2 _ _ H2.out.hr
        have f3 := frozen_of_row w9 (A + 1) 3 _ _ H2.out.hr
        have rz := heap_lt H2.out.hr
        go_wp2_with fail
        have k3 := set4 H2.out.hr (.int .i64 0) (.int .i64 0) (.slice none 0 0) (.slice none 0 0)
        have k4 := set4_below (g := A + 1) H2.out.below (Nat.le_succ _) (.int .i64 0) (.int .i64 0) (.slice none 0 0) (.slice none 0 0)
        clear r0 r1 r2 r3 f0 f1 f2 f3
        generalize World.setCell _ _ _ = wz at k3 k4 ⊢
        have q0 := cell_of_row wz (A + 1) 0 _ _ _ k3
        have q1 := cell_of_row wz (A + 1) 1 _ _ _ k3
        have q2 := cell_of_row wz (A + 1) 2 _ _ _ k3
        have q3 := cell_of_row wz (A + 1) 3 _ _ _ k3
        simp only [List.getElem?_toArray, List.getElem?_cons_zero, List.getElem?_cons_succ] at q0 q1 q2 q3
        exact bodyPost_ret (v := (.tuple #[rnil, .int .i64 1])) (by simp [results, Try.results28, go_sem, q0, q1, q2, q3]) rfl (out2_zero (by rw [← HA.out]; exact k4))
    · obtain ⟨hR, ht0, ht1⟩ := h.right
      have HV := hid (verr_ok hR)
      have hbd := hR.sized.bound
      have hWH : W * H = n := hR.args.arms.symm
      obtain ⟨⟨w1, w2⟩, w3, w4⟩ := hR.sized
      obtain ⟨q1, q2⟩ := hbd
      have ht3 : t < W * H := by omega
      obtain ⟨y0, y1⟩ := hy
      obtain ⟨t, rfl⟩ := Int.eq_ofNat_of_zero_le ht0
      have ht2 : t < n := by omega
      have HT := hid ht2
      obtain ⟨g, off, rfl, hgz, hct⟩ := ints_cell hI ht2
      have HCT := hid hct
      obtain ⟨z, hz⟩ : ∃ z, z = Z t := ⟨_, rfl⟩
      rw [← hz] at HCT
      have HZ := hid hz
      have t1 : (0 : Int) ≤ (t : Int) := by omega
      have t2 : (t : Int) < (n : Int) := by omega
      have hcc : ¬ Carry z y := by rw [hz]; exact hc t rfl
      have HC : Hid (¬ (z = 5 ∨ z = 10)) := hid (fun k => hcc (.inr k))
      have g0 : (y != 0) = true := by simp; exact fun k => hcc (.inl k)
      clear hI hB hst he hR h hc hz hcc
      go_enter Try.func28, Try.ntmps28
      go_wp2_with fail
      refine (refvalidate_any W H _ n cap Z bo m bcap Y hn hm _ HI.out HB.out 0 HV.out).mono ?_
      rintro r w9 ⟨rfl, hb2⟩
      have H2 := hid (HST.out.stays hb2)
      have ct := ((HST.out.below.trans (hb2.mono HST.out.below.size)).cell (p := ⟨g, off + t, none⟩) hgz).trans HCT.out
      have HI2 := hid (HI.out.stays hb2)
      have HB2 := hid (HB.out.stays hb2)
      simp only [← hA] at H2 ⊢
      clear hA hb2 HST HI HB
      have b0 := cell_of_row w9 A 0 _ _ _ H2.out.hb
      have b1 := cell_of_row w9 A 1 _ _ _ H2.out.hb
      have b2 := cell_of_row w9 A 2 _ _ _ H2.out.hb
      have b3 := cell_of_row w9 A 3 _ _ _ H2.out.hb
      simp only [List.getElem?_toArray, List.getElem?_cons_zero, List.getElem?_cons_succ] at b0 b1 b2 b3
      have bz := heap_lt H2.out.hb
      clear HI2 HB2
      have r0 := cell_of_row w9 (A + 1) 0 _ _ _ H2.out.hr
      have r1 := cell_of_row w9 (A + 1) 1 _ _ _ H2.out.hr
      have r2 := cell_of_row w9 (A + 1) 2 _ _ _ H2.out.hr
      have r3 := cell_of_row w9 (A + 1) 3 _ _ _ H2.out.hr
      simp only [List.getElem?_toArray, List.getElem?_cons_zero, List.getElem?_cons_succ] at r0 r1 r2 r3
      have f0 := frozen_of_row w9 (A + 1) 0 _ _ H2.out.hr
      have f1 := frozen_of_row w9 (A + 1) 1 _ _ H2.out.hr
      have f2 := frozen_of_row w9 (A + 1) 2 _ _ H2.out.hr
      have f3 := frozen_of_row w9 (A + 1) 3 _ _ H2.out.hr
      have rz := heap_lt H2.out.hr
      go_wp2_with (go_at_call 43; refine (straight_no HC.out _).mono ?_; rintro e w' ⟨rfl, rfl⟩)
      have k3 := set4 H2.out.hr (.int .i64 0) (.int .i64 0) (.slice none 0 0) (.slice none 0 0)
      have k4 := set4_below (g := A + 1) H2.out.below (Nat.le_succ _) (.int .i64 0) (.int .i64 0) (.slice none 0 0) (.slice none 0 0)
      clear r0 r1 r2 r3 f0 f1 f2 f3
      generalize World.setCell _ _ _ = wz at k3 k4 ⊢
      have q0 := cell_of_row wz (A + 1) 0 _ _ _ k3
      have q1 := cell_of_row wz (A + 1) 1 _ _ _ k3
      have q2 := cell_of_row wz (A + 1) 2 _ _ _ k3
      have q3 := cell_of_row wz (A + 1) 3 _ _ _ k3
      simp only [List.getElem?_toArray, List.getElem?_cons_zero, List.getElem?_cons_succ] at q0 q1 q2 q3
      exact bodyPost_ret (v := (.tuple #[rnil, .int .i64 9])) (by simp [results, Try.results28, go_sem, q0, q1, q2, q3]) rfl (out2_zero (by rw [← HA.out]; exact k4))
  · obtain ⟨hR, ht0, ht1⟩ := h.right
    have hsm := hR.small
    have HV := hid (verr_ok hR)
    have hbd := hR.sized.bound
    have hWH : W * H = n := hR.args.arms.symm
    obtain ⟨⟨w1, w2⟩, w3, w4⟩ := hR.sized
    obtain ⟨q1, q2⟩ := hbd
    have ht3 : t < W * H := by omega
    obtain ⟨y0, y1⟩ := hy
    have ht2 : t < n := by omega
    have HT := hid ht2
    obtain ⟨g, off, rfl, hgz, hct⟩ := ints_cell hI ht2
    have HCT := hid hct
    obtain ⟨z, hz⟩ : ∃ z, z = Z t := ⟨_, rfl⟩
    rw [← hz] at HCT
    have HZ := hid hz
    have t1 : (0 : Int) ≤ (t : Int) := by omega
    have t2 : (t : Int) < (n : Int) := by omega
    have hcc : Carry z y := by rw [hz]; exact hc
    by_cases hy0 : y = 0
    · subst hy0
      clear hI hB hst hR h hc hz hcc
      go_enter Try.func28, Try.ntmps28
      go_wp2_with fail
      refine (refvalidate_any W H _ n cap Z bo n bcap Y hn hn _ HI.out HB.out 0 HV.out).mono ?_
      rintro r w9 ⟨rfl, hb2⟩
      have H2 := hid (HST.out.stays hb2)
      have ct := ((HST.out.below.trans (hb2.mono HST.out.below.size)).cell (p := ⟨g, off + t, none⟩) hgz).trans HCT.out
      have HI2 := hid (HI.out.stays hb2)
      have HB2 := hid (HB.out.stays hb2)
      simp only [← hA] at H2 ⊢
      clear hA hb2 HST HI HB
      have b0 := cell_of_row w9 A 0 _ _ _ H2.out.hb
      have b1 := cell_of_row w9 A 1 _ _ _ H2.out.hb
      have b2 := cell_of_row w9 A 2 _ _ _ H2.out.hb
      have b3 := cell_of_row w9 A 3 _ _ _ H2.out.hb
      simp only [List.getElem?_toArray, List.getElem?_cons_zero, List.getElem?_cons_succ] at b0 b1 b2 b3
      have bz := heap_lt H2.out.hb
      go_wp2_with fail
      refine (copy_any W H _ n cap Z bo bcap Y (by omega) (by omega) _ HI2.out HB2.out).mono ?_
      rintro r w4 ⟨g', c, k, d, rfl, hg, hk, hgk, hb4⟩
      have H4 := hid (H2.out.stays hb4)
      have HL := hid (ls_alloc (W := W) (H := H) H4.out (row_mono (base' := A) hg (by have := heap_lt H2.out.hr; omega)) (row_mono (base' := A) hk (by have := heap_lt H2.out.hr; omega)) (by have := (hg.lt g' rfl).1; have := heap_lt H2.out.hr; omega) (by have := (hk.lt k rfl).1; have := heap_lt H2.out.hr; omega) hgk)
      obtain ⟨C, hC⟩ : ∃ C, C = w4.heap.size := ⟨_, rfl⟩
      have HC0 := hid hC
      simp only [← hC] at HL
      clear hg hk hb4 H2 HI2 HB2 b0 b1 b2 b3 bz H4 ct
      go_upto_region 11 with (fail)
      simp only [← hC]
      clear hC
      generalize World.alloc _ _ = w5 at HL ⊢
      obtain ⟨_, c3, ck, fk, sk⟩ := HL.out.k_at HT.out
      have nk := HL.out.nk.1
      obtain ⟨b0, b1, b2, _, bz⟩ := HL.out.box
      obtain ⟨⟨r0, r1, r2, r3⟩, ⟨f0, f1, f2, f3⟩, rz⟩ := HL.out.res
      have nkA := HL.out.nk.2.1
      have nC := HL.out.no.1
      go_wp2_with fail
      have HL2 := hid (HL.out.setK t 0)
      obtain ⟨k3, k4, k5, k6⟩ := HL2.out.done rfl rfl rfl rfl
      clear b0 b1 b2 c3 ck fk sk r0 r1 r2 r3 f0 f1 f2 f3
      generalize World.setCell _ _ _ = wz at k3 k4 k5 k6 ⊢
      have q0 := cell_of_row wz (A + 1) 0 _ _ _ k3
      have q1 := cell_of_row wz (A + 1) 1 _ _ _ k3
      have q2 := cell_of_row wz (A + 1) 2 _ _ _ k3
      have q3 := cell_of_row wz (A + 1) 3 _ _ _ k3
      simp only [List.getElem?_toArray, List.getElem?_cons_zero, List.getElem?_cons_succ] at q0 q1 q2 q3
      exact bodyPost_ret (v := .tuple #[rv W H (.slice (some ⟨g', 0, none⟩) n c) (.slice (some ⟨k, 0, none⟩) n d), .int .i64 0]) (by simp [results, Try.results28, go_sem, q0, q1, q2, q3]) rfl ⟨_, c, _, d, rfl, vals_of_row k5, vals_of_row k6, by rw [← HA.out]; exact k4⟩
    · have HC : Hid (z = 5 ∨ z = 10) := hid (hcc.resolve_left hy0)
      have g0 : (y != 0) = true := by simpa using hy0
      clear hI hB hst hR h hc hz hcc hy0
      go_enter Try.func28, Try.ntmps28
      go_wp2_with fail
      refine (refvalidate_any W H _ n cap Z bo n bcap Y hn hn _ HI.out HB.out 0 HV.out).mono ?_
      rintro r w9 ⟨rfl, hb2⟩
      have H2 := hid (HST.out.stays hb2)
      have ct := ((HST.out.below.trans (hb2.mono HST.out.below.size)).cell (p := ⟨g, off + t, none⟩) hgz).trans HCT.out
      have HI2 := hid (HI.out.stays hb2)
      have HB2 := hid (HB.out.stays hb2)
      simp only [← hA] at H2 ⊢
      clear hA hb2 HST HI HB
      have b0 := cell_of_row w9 A 0 _ _ _ H2.out.hb
      have b1 := cell_of_row w9 A 1 _ _ _ H2.out.hb
      have b2 := cell_of_row w9 A 2 _ _ _ H2.out.hb
      have b3 := cell_of_row w9 A 3 _ _ _ H2.out.hb
      simp only [List.getElem?_toArray, List.getElem?_cons_zero, List.getElem?_cons_succ] at b0 b1 b2 b3
      have bz := heap_lt H2.out.hb
      go_wp2_with (go_at_call 43; refine (straight_yes HC.out _).mono ?_; rintro e w' ⟨rfl, rfl⟩)
      refine (copy_any W H _ n cap Z bo bcap Y (by omega) (by omega) _ HI2.out HB2.out).mono ?_
      rintro r w4 ⟨g', c, k, d, rfl, hg, hk, hgk, hb4⟩
      have H4 := hid (H2.out.stays hb4)
      have HL := hid (ls_alloc (W := W) (H := H) H4.out (row_mono (base' := A) hg (by have := heap_lt H2.out.hr; omega)) (row_mono (base' := A) hk (by have := heap_lt H2.out.hr; omega)) (by have := (hg.lt g' rfl).1; have := heap_lt H2.out.hr; omega) (by have := (hk.lt k rfl).1; have := heap_lt H2.out.hr; omega) hgk)
      obtain ⟨C, hC⟩ : ∃ C, C = w4.heap.size := ⟨_, rfl⟩
      have HC0 := hid hC
      simp only [← hC] at HL
      clear hg hk hb4 H2 HI2 HB2 b0 b1 b2 b3 bz H4 ct
      go_upto_region 11 with (fail)
      simp only [← hC]
      clear hC
      generalize World.alloc _ _ = w5 at HL ⊢
      obtain ⟨_, c3, ck, fk, sk⟩ := HL.out.k_at HT.out
      have nk := HL.out.nk.1
      obtain ⟨b0, b1, b2, _, bz⟩ := HL.out.box
      obtain ⟨⟨r0, r1, r2, r3⟩, ⟨f0, f1, f2, f3⟩, rz⟩ := HL.out.res
      have nkA := HL.out.nk.2.1
      have nC := HL.out.no.1
      go_wp2_with fail
      have HL2 := hid (HL.out.setK t y)
      obtain ⟨k3, k4, k5, k6⟩ := HL2.out.done rfl rfl rfl rfl
      clear b0 b1 b2 c3 ck fk sk r0 r1 r2 r3 f0 f1 f2 f3
      generalize World.setCell _ _ _ = wz at k3 k4 k5 k6 ⊢
      have q0 := cell_of_row wz (A + 1) 0 _ _ _ k3
      have q1 := cell_of_row wz (A + 1) 1 _ _ _ k3
      have q2 := cell_of_row wz (A + 1) 2 _ _ _ k3
      have q3 := cell_of_row wz (A + 1) 3 _ _ _ k3
      simp only [List.getElem?_toArray, List.getElem?_cons_zero, List.getElem?_cons_succ] at q0 q1 q2 q3
      exact bodyPost_ret (v := .tuple #[rv W H (.slice (some ⟨g', 0, none⟩) n c) (.slice (some ⟨k, 0, none⟩) n d), .int .i64 0]) (by simp [results, Try.results28, go_sem, q0, q1, q2, q3]) rfl ⟨_, c, _, d, rfl, vals_of_row k5, vals_of_row k6, by rw [← HA.out]; exact k4⟩
end Go.Proofs.Ytaepiegbpgkciaa
