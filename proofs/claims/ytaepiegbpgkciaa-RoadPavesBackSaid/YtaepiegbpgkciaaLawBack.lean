/-
  The walk of the law on paving and taking away again.
-/
import Derived.Test.YtaepiegbpgkciaaLawPave
import Derived.Deep.DeepCutAuto
namespace Go.Proofs.Ytaepiegbpgkciaa
open Go.RowKit

/-- A box that holds streets. -/
structure BX (Q : Nat) (W H : Int) (s b : Value) (w : World) : Prop where
  hz : Q < w.heap.size
  c0 : w.cell? ⟨Q, 0, none⟩ = some (.int .i64 W)
  c1 : w.cell? ⟨Q, 1, none⟩ = some (.int .i64 H)
  c2 : w.cell? ⟨Q, 2, none⟩ = some s
  c3 : w.cell? ⟨Q, 3, none⟩ = some b
theorem BX.stays {Q : Nat} {W H : Int} {s b : Value} {w w' : World} (h : BX Q W H s b w) (k : Below w.heap.size w w') : BX Q W H s b w' :=
  ⟨Nat.lt_of_lt_of_le h.hz k.size, (k.cell (p := ⟨Q, 0, none⟩) h.hz).trans h.c0, (k.cell (p := ⟨Q, 1, none⟩) h.hz).trans h.c1, (k.cell (p := ⟨Q, 2, none⟩) h.hz).trans h.c2, (k.cell (p := ⟨Q, 3, none⟩) h.hz).trans h.c3⟩
theorem bx_new (w : World) (W H : Int) (s b : Value) : BX w.heap.size W H s b (w.alloc (.cells #[.int .i64 W, .int .i64 H, s, b] 24)) := ⟨by simp, by simp, by simp, by simp, by simp⟩
theorem back_again {Z : Nat → Int} {t : Nat} {a : Int} (hz : 0 ≤ Z t ∧ Z t ≤ 15) (ha : 0 ≤ a ∧ a ≤ 15) :
    armZ true (armZ false Z t a 4) t (bits .andNot .i64 a (Z t)) 4 = Z ∧ cnt true (armZ false Z t a 4 t) (bits .andNot .i64 a (Z t)) 4 = cnt false (Z t) a 4 := by
  obtain ⟨u1, u2⟩ := undo_sel hz ha
  have e : armZ false Z t a 4 t = Z t + sel false (Z t) a 4 := by rw [arm_at]; unfold arm; simp
  refine ⟨?_, by rw [e]; exact u2⟩
  have e2 : arm true (armZ false Z t a 4 t) (bits .andNot .i64 a (Z t)) 4 = Z t := by
    rw [e]; unfold arm; rw [u1]; simp <;> omega
  show upd (armZ false Z t a 4) t (arm true (armZ false Z t a 4 t) (bits .andNot .i64 a (Z t)) 4) = Z
  rw [e2]
  unfold armZ
  rw [upd_upd, upd_self]

set_option maxHeartbeats 6400000 in
theorem walk_pavesBack (Wd Hd : Int) (ao : Option Addr) (n cap : Nat) (Z : Nat → Int) (bo : Option Addr) (m bcap : Nat) (Y : Nat → Int) (hn : n ≤ 9223372036854775807) (hm : m ≤ 9223372036854775807) (t a : Int) (w : World) (hI : Ints w ao n Z) (hB : Ints w bo m Y) :
    Calls Try.prog 7 #[rv Wd Hd (.slice ao n cap) (.slice bo m bcap), .int .i64 t, .int .i64 a] w fun r w' => r = .returned (.bool true) ∧ Below w.heap.size w w' := by
  obtain ⟨W', H', n', Z', Y', cost, e, hL⟩ := PaveIs.ex false 150 Wd Hd n m Z Y t a
  have HL := hid hL
  have HS := hid (sb_start (W := Wd) (H := Hd) (cap := cap) (bcap := bcap) hI hB)
  clear hI hB hL
  obtain ⟨X, hX⟩ : ∃ X, X = w.heap.size := ⟨_, rfl⟩
  have HX := hid hX
  by_cases hf : Far n m
  · have HF := hid hf
    clear hf
    go_enter Try.func7, Try.ntmps7
    go_wp2_with fail
    refine (far_yes Wd Hd ao n cap bo m bcap hn hm HF.out _).mono ?_
    rintro r w1 ⟨rfl, hb1⟩
    have HS1 := hid (HS.out.stays hb1)
    clear hb1
    go_wp2_with fail
    refine (known_any _).mono ?_
    rintro r w2 ⟨rfl, hb2⟩
    have HS2 := hid (HS1.out.stays hb2)
    clear hb2
    go_wp2_with fail
    go_ret
    exact ⟨rfl, HS2.out.below⟩
  · have HF : Hid (n ≤ 4000 ∧ m ≤ 4000) := hid (by unfold Far at hf; omega)
    clear hf
    go_enter Try.func7, Try.ntmps7
    go_wp2_with fail
    refine (far_no Wd Hd ao n cap bo m bcap HF.out _).mono ?_
    rintro r w1 ⟨rfl, hb1⟩
    have HS1 := hid (HS.out.stays hb1)
    obtain ⟨c0, c1, c2, c3, hz1⟩ := HS1.out.at HX.out
    simp only [← hX] at c0 c1 c2 c3 ⊢
    clear hb1 HS hX
    go_wp2_with fail
    refine (pave_to Wd Hd ao n cap Z bo m bcap Y hn hm t a HL.out _ HS1.out.arms HS1.out.ways).mono ?_
    rintro r w2 ⟨ao1, ca1, bo1, cb1, rfl, hI1, hB1, hb2⟩
    have HB1 := hid (Joins.below_alloc1 w2 (.cells #[.int .i64 W', .int .i64 H', .slice ao1 n' ca1, .slice bo1 n' cb1] 24))
    have HS2 := hid ((HS1.out.stays hb2).stays HB1.out)
    have HI1 := hid (Vals.stays hI1 HB1.out)
    have HC1 := hid (Vals.stays hB1 HB1.out)
    have HA1 := hid (bx_new w2 W' H' (.slice ao1 n' ca1) (.slice bo1 n' cb1))
    obtain ⟨Q, hQ⟩ : ∃ Q, Q = w2.heap.size := ⟨_, rfl⟩
    simp only [← hQ] at HA1
    clear hI1 hB1 hb2 c0 c1 c2 c3 HS1 HB1 hz1
    rcases HL.out with ⟨he, _, rfl, rfl, rfl, rfl, rfl, rfl⟩ | ⟨rfl, h, rfl, rfl, rfl, rfl, t, rfl, rfl, rfl, rfl⟩
    · have e0 : (e != 0) = true := by simpa using he
      clear he
      go_wp2_with fail
      refine (known_any _).mono ?_
      rintro r w9 ⟨rfl, hb9⟩
      have HS9 := hid (HS2.out.stays hb9)
      clear hb9
      go_wp2_with fail
      go_ret
      exact ⟨rfl, HS9.out.below⟩
    · obtain ⟨hR, ht, ha⟩ := h.right
      have hz := hR.args.fine t (by omega)
      obtain ⟨s1, s2, s3, s4⟩ := or_sel hz.1 ha
      obtain ⟨b1, b2⟩ := back_again (Z := Z) (t := t) hz.1 ha
      have HR1 := hid (arm_right (b := false) (t := t) hR (by omega) ha)
      have hcb := sel_bd (b := false) hz.1 ha (Nat.le_refl 4)
      have HT : Hid (PaveIs true 75 Wd Hd n n (armZ false Z t a 4) (armY false Z Y t a 4) t (bits .andNot .i64 a (Z t)) Wd Hd n Z (armY true (armZ false Z t a 4) (armY false Z Y t a 4) t (bits .andNot .i64 a (Z t)) 4) (cnt false (Z t) a 4 * 75) 0) :=
        hid (.inr ⟨rfl, .inr (.inr ⟨rfl, terr_ok HR1.out ht, s3, s4⟩), rfl, rfl, rfl, rfl, t, rfl, b1.symm, rfl, by rw [b2]⟩)
      have HR2 : Hid (Right Wd Hd n n Z (armY true (armZ false Z t a 4) (armY false Z Y t a 4) t (bits .andNot .i64 a (Z t)) 4)) := hid (by
        have := arm_right (b := true) (t := t) HR1.out (by omega) ⟨s3, s4⟩
        rwa [b1] at this)
      obtain ⟨Y2, hY2⟩ : ∃ Y2, Y2 = armY true (armZ false Z t a 4) (armY false Z Y t a 4) t (bits .andNot .i64 a (Z t)) 4 := ⟨_, rfl⟩
      rw [← hY2] at HT HR2
      obtain ⟨Y1, hY1⟩ : ∃ Y1, Y1 = armY false Z Y t a 4 := ⟨_, rfl⟩
      rw [← hY1] at HT HR1 HC1
      obtain ⟨Z1, hZ1⟩ : ∃ Z1, Z1 = armZ false Z t a 4 := ⟨_, rfl⟩
      have hzt : Z1 t = bits .or .i64 (Z t) a := by rw [hZ1, arm_at, s1]; unfold arm; simp
      rw [← hZ1] at HT HR1 HI1
      obtain ⟨p, hp⟩ : ∃ p, p = cnt false (Z t) a 4 := ⟨_, rfl⟩
      rw [← hp] at HT hcb ⊢
      obtain ⟨u, hu⟩ : ∃ u, bits .andNot .i64 a (Z t) = u := ⟨_, rfl⟩
      rw [hu] at HT
      obtain ⟨z, hz'⟩ : ∃ z, z = Z t := ⟨_, rfl⟩
      rw [← hz'] at hu hzt
      obtain ⟨q, hq⟩ : ∃ q, q = bits .or .i64 z a := ⟨_, rfl⟩
      have hq' : bits .or .i64 z a = q := hq.symm
      rw [hq'] at hzt
      have HTT : Hid (t < n) := hid (by omega)
      obtain ⟨gi, off, rfl, hgz, ct⟩ := ints_cell HS2.out.arms HTT.out
      rw [← hz'] at ct
      have HCT := hid ct
      have p0 : 0 ≤ p := hcb.2.2.1
      have p1 : p ≤ 4 := hcb.2.2.2.1
      have t1 : (0 : Int) ≤ (t : Int) := by omega
      have t2 : (t : Int) < (n : Int) := by omega
      have HZT := hid hzt
      obtain ⟨c0, c1, c2, c3, hz1⟩ := HS2.out.at HX.out
      obtain ⟨hz2, a0, a1, a2, a3⟩ := id HA1.out
      clear hR h hz s1 s2 s3 s4 b1 b2 hcb hY2 hY1 hZ1 hzt hp hz' hq ha ht
      go_upto_region 6 with (fail)
      simp only [← hQ]
      clear hQ
      generalize World.alloc _ _ = w3 at HS2 HI1 HC1 HA1 HCT ct hgz c0 c1 c2 c3 hz1 hz2 a0 a1 a2 a3 ⊢
      go_wp2_with fail
      refine (tear_to Wd Hd ao1 n ca1 Z1 bo1 n cb1 Y1 hn hn t u HT.out _ HI1.out HC1.out).mono ?_
      rintro r w4 ⟨ao2, ca2, bo2, cb2, rfl, hI2, hB2, hb3⟩
      have HB2 := hid (Joins.below_alloc1 w4 (.cells #[.int .i64 Wd, .int .i64 Hd, .slice ao2 n ca2, .slice bo2 n cb2] 24))
      have HS3 := hid ((HS2.out.stays hb3).stays HB2.out)
      have HI2 := hid (Vals.stays hI2 HB2.out)
      have HC2 := hid (Vals.stays hB2 HB2.out)
      have HI3 := hid ((HI1.out.stays hb3).stays HB2.out)
      have HC3 := hid ((HC1.out.stays hb3).stays HB2.out)
      have HA3 := hid ((HA1.out.stays hb3).stays HB2.out)
      have HD3 := hid (bx_new w4 Wd Hd (.slice ao2 n ca2) (.slice bo2 n cb2))
      obtain ⟨R, hRR⟩ : ∃ R, R = w4.heap.size := ⟨_, rfl⟩
      simp only [← hRR] at HD3
      clear hI2 hB2 hb3 c0 c1 c2 c3 a0 a1 a2 a3 HS2 HB2 HI1 HC1 HA1 ct hgz hz1 hz2 HCT
      go_upto_region 8 with (fail)
      simp only [← hRR]
      clear hRR
      generalize World.alloc _ _ = w5 at HS3 HI2 HC2 HI3 HC3 HA3 HD3 ⊢
      obtain ⟨c0, c1, c2, c3, hz1⟩ := HS3.out.at HX.out
      obtain ⟨hz2, a0, a1, a2, a3⟩ := id HA3.out
      obtain ⟨hz3, d0, d1, d2, d3⟩ := id HD3.out
      go_wp2_with fail
      refine (ints_same ao2 _ n ca2 cap Z hn _ HI2.out HS3.out.arms).mono ?_
      rintro r w6 ⟨rfl, k, rfl⟩
      have hd := Joins.below_draws w5.heap.size w5 k
      have HS4 := hid (HS3.out.stays hd)
      have HI4 := hid (HI3.out.stays hd)
      have HC4 := hid (HC3.out.stays hd)
      have HJ4 := hid (HI2.out.stays hd)
      have HK4 := hid (HC2.out.stays hd)
      have HA4 := hid (HA3.out.stays hd)
      have HD4 := hid (HD3.out.stays hd)
      clear c0 c1 c2 c3 a0 a1 a2 a3 d0 d1 d2 d3 hz1 hz2 hz3 hd HS3 HI3 HC3 HI2 HC2 HA3 HD3
      generalize World.drewN _ _ = w7 at HS4 HI4 HC4 HJ4 HK4 HA4 HD4 ⊢
      obtain ⟨hz2, a0, a1, a2, a3⟩ := id HA4.out
      obtain ⟨hz3, d0, d1, d2, d3⟩ := id HD4.out
      obtain ⟨g1, o1, rfl, hg1, e1⟩ := ints_cell HI4.out HTT.out
      rw [HZT.out] at e1
      have HVA := hid (verr_ok HR1.out)
      have HVB := hid (verr_ok HR2.out)
      go_wp2_with fail
      refine (validate_any Wd Hd _ n ca1 Z1 bo1 n cb1 Y1 hn hn _ HI4.out HC4.out 0 HVA.out).mono ?_
      rintro r w8 ⟨rfl, hb8⟩
      have HS8 := hid (HS4.out.stays hb8)
      have HJ8 := hid (HJ4.out.stays hb8)
      have HK8 := hid (HK4.out.stays hb8)
      have HD8 := hid (HD4.out.stays hb8)
      clear hb8 a0 a1 a2 a3 d0 d1 d2 d3 e1 hg1 hz2 hz3 HS4 HI4 HC4 HJ4 HK4 HA4 HD4
      obtain ⟨hz3, d0, d1, d2, d3⟩ := id HD8.out
      go_wp2_with fail
      refine (validate_any Wd Hd ao2 n ca2 Z bo2 n cb2 Y2 hn hn _ HJ8.out HK8.out 0 HVB.out).mono ?_
      rintro r w10 ⟨rfl, hb10⟩
      have HS10 := hid (HS8.out.stays hb10)
      clear hb10 d0 d1 d2 d3 hz3 HS8 HJ8 HK8 HD8
      go_wp2_with fail
      refine (known_any _).mono ?_
      rintro r w9 ⟨rfl, hb9⟩
      have HS9 := hid (HS10.out.stays hb9)
      clear hb9
      go_wp2_with fail
      go_ret
      exact ⟨rfl, HS9.out.below⟩
end Go.Proofs.Ytaepiegbpgkciaa
