/-
  The walk of the law that lifting a piece undoes laying it.
-/
import Derived.Test.YtlpmahdplilbiaaDoorLawLay
namespace Go.Proofs.YtlpmahdplilbiaaDoor
open Go.RowKit

theorem back_bit {z p : Int} (hz : 0 ≤ z ∧ z ≤ 63) (hp : 0 ≤ p ∧ p ≤ 5) (h : has z p = false) : has (z + 2 ^ p.toNat) p = true := by
  obtain ⟨k, rfl⟩ := fin64 hz
  obtain ⟨q, rfl⟩ := fin6 hp
  clear hz hp
  revert k q
  decide +kernel
/-- Lifting behind laying, without a wire: the rails as they were. -/
theorem undone {W H : Int} {n m : Nat} {Z : Nat → Int} {B : Nat → Bool} {t p : Int} {W' H' : Int} {n' : Nat} {Z' : Nat → Int} {B' : Nat → Bool} (h : LayIs W H n m Z B t p false W' H' n' Z' B' 0) :
    m = n ∧ LiftIs W' H' n' n' Z' B' t p W H n Z B 0 := by
  rcases h with ⟨h, _⟩ | ⟨_, rfl, rfl, rfl, rfl, t0, rfl, ht, hR, hp, hh, rfl, rfl⟩
  · exact absurd rfl h
  · have hf := hR.fine t0 ht
    have hb := or_bd ⟨hf.1, hf.2.1⟩ hp hh
    have eB : upd B t0 (B t0 || false) = B := by
      funext i; unfold upd; split
      · rename_i h; rw [h, Bool.or_false]
      · rfl
    refine ⟨rfl, .inr ⟨rfl, rfl, rfl, rfl, rfl, t0, rfl, ht, ⟨hR.sized, hR.sets, hR.wires, fun i hi => ?_⟩, hp, ?_, ?_, ?_⟩⟩
    · rw [eB]
      unfold upd
      split
      · exact ⟨by omega, by omega, fun h => by omega⟩
      · exact hR.fine i hi
    · unfold upd; rw [if_pos rfl]; exact back_bit ⟨hf.1, hf.2.1⟩ hp hh
    · funext i
      unfold upd
      split
      · rename_i h; rw [h, if_pos rfl]; omega
      · rfl
    · rw [eB]
      funext i
      unfold upd
      split
      · rename_i h
        rw [h, if_pos rfl, show Z t0 + 2 ^ p.toNat - 2 ^ p.toNat = Z t0 by omega]
        by_cases hz : Z t0 = 0
        · rw [hf.2.2 hz]; rfl
        · have : (Z t0 != 0) = true := by simpa using hz
          rw [this, Bool.and_true]
      · rfl

set_option maxHeartbeats 3200000 in
theorem walk_undone (Wd Hd : Int) (ao : Option Addr) (n cap : Nat) (Z : Nat → Int) (bo : Option Addr) (m bcap : Nat) (B : Nat → Bool) (hn : n ≤ 9223372036854775807) (hm : m ≤ 9223372036854775807) (t p : Int) (w : World) (hT : Tab w) (hI : Ints w ao n Z) (hB : Bools w bo m B) :
    Calls Tryd.prog 8 #[rv Wd Hd (.slice ao n cap) (.slice bo m bcap), .int .i64 t, .int .i64 p] w fun r w' => r = .returned (.bool true) ∧ Below w.heap.size w w' := by
  obtain ⟨W', H', n', Z', B', e, hL⟩ := LayIs.ex Wd Hd n m Z B t p false
  have HL := hid hL
  have hn' : n' ≤ 9223372036854775807 := by
    rcases hL with ⟨_, _, _, _, h, _⟩ | ⟨_, _, _, h, _⟩ <;> omega
  have HS := hid (rb_start (Wd := Wd) (Hd := Hd) (cap := cap) (bcap := bcap) hT hI hB)
  clear hT hI hB hL
  obtain ⟨X, hX⟩ : ∃ X, X = w.heap.size := ⟨_, rfl⟩
  have HX := hid hX
  by_cases hf : Far n m
  · have HF := hid hf
    clear hf
    go_enter Tryd.func8, Tryd.ntmps8
    go_wp2_with fail
    refine (far_yes Wd Hd ao n cap bo m bcap (by omega) (by omega) HF.out _).mono ?_
    rintro r w1 ⟨rfl, hb1⟩
    have HS1 := hid (HS.out.stays hb1)
    clear hb1
    go_wp2_with fail
    refine (known_any _ HS1.out.tab).mono ?_
    rintro r w2 ⟨rfl, hb2⟩
    have HS2 := hid (HS1.out.stays hb2)
    clear hb2
    go_wp2_with fail
    go_ret
    exact ⟨rfl, HS2.out.below⟩
  · have HF : Hid (n ≤ 3000 ∧ m ≤ 3000) := hid (by unfold Far at hf; omega)
    clear hf
    go_enter Tryd.func8, Tryd.ntmps8
    go_wp2_with fail
    refine (far_no Wd Hd ao n cap bo m bcap HF.out _).mono ?_
    rintro r w1 ⟨rfl, hb1⟩
    have HS1 := hid (HS.out.stays hb1)
    have c0 := HS1.out.c0
    have c1 := HS1.out.c1
    have c2 := HS1.out.c2
    have c3 := HS1.out.c3
    simp only [← hX] at c0 c1 c2 c3 ⊢
    clear hb1 HS hX
    go_wp2_with fail
    refine (lay_to Wd Hd ao n cap Z bo m bcap B hn hm t p false HL.out _ HS1.out.ints HS1.out.bools).mono ?_
    rintro r w2 ⟨ao1, c1', bo1, d1, rfl, hI1, hB1, hb2⟩
    have HB1 := hid (Joins.below_alloc1 w2 (.cells #[.int .i64 W', .int .i64 H', .slice ao1 n' c1', .slice bo1 n' d1] 25))
    have HS2 := hid ((HS1.out.stays hb2).stays HB1.out)
    have HI1 := hid (Vals.stays hI1 HB1.out)
    have HC1 := hid (Vals.stays hB1 HB1.out)
    have hX1 : X < w1.heap.size := by have := HX.out; have := HS1.out.size; omega
    have hX2 : X < w2.heap.size := by have := hb2.size; omega
    have d0 := (hb2.cell (p := ⟨X, 0, none⟩) hX1).trans c0
    have d1' := (hb2.cell (p := ⟨X, 1, none⟩) hX1).trans c1
    have d2 := (hb2.cell (p := ⟨X, 2, none⟩) hX1).trans c2
    have d3 := (hb2.cell (p := ⟨X, 3, none⟩) hX1).trans c3
    clear hI1 hB1 hb2 c0 c1 c2 c3 HS1 HB1
    by_cases he : e = 0
    · subst he
      obtain ⟨hmn, hU⟩ := undone HL.out
      subst hmn
      have HU := hid hU
      clear hU
      go_wp2_with fail
      refine (lift_to W' H' ao1 n' c1' Z' bo1 n' d1 B' hn' hn' t p HU.out _ HI1.out HC1.out).mono ?_
      rintro r w3 ⟨ao2, c2', bo2, d2', rfl, hI2, hB2, hb3⟩
      have HB2 := hid (Joins.below_alloc1 w3 (.cells #[.int .i64 Wd, .int .i64 Hd, .slice ao2 m c2', .slice bo2 m d2'] 25))
      have HS3 := hid ((HS2.out.stays hb3).stays HB2.out)
      have HI2 := hid (Vals.stays hI2 HB2.out)
      have HC2 := hid (Vals.stays hB2 HB2.out)
      have hX3 : X < (w2.alloc (.cells #[.int .i64 W', .int .i64 H', .slice ao1 n' c1', .slice bo1 n' d1] 25)).heap.size := by simp; omega
      have hX4 : X < w3.heap.size := by have := hb3.size; omega
      have e0 := (hb3.cell (p := ⟨X, 0, none⟩) hX3).trans ((World.cell?_alloc_past _ _ _ hX2).trans d0)
      have e1 := (hb3.cell (p := ⟨X, 1, none⟩) hX3).trans ((World.cell?_alloc_past _ _ _ hX2).trans d1')
      have e2 := (hb3.cell (p := ⟨X, 2, none⟩) hX3).trans ((World.cell?_alloc_past _ _ _ hX2).trans d2)
      have e3 := (hb3.cell (p := ⟨X, 3, none⟩) hX3).trans ((World.cell?_alloc_past _ _ _ hX2).trans d3)
      clear hI2 hB2 hb3 d0 d1' d2 d3 HS2 HB2 HI1 HC1
      go_wp2_with fail
      refine (rails_same Wd Hd ao2 bo2 ao bo m m c2' d2' cap bcap Z B hn hn _ HI2.out HS3.out.ints HC2.out HS3.out.bools).mono ?_
      rintro r w4 ⟨rfl, hb4⟩
      have HS4 := hid (HS3.out.stays hb4)
      clear hb4 HS3 HI2 HC2 e0 e1 e2 e3
      go_wp2_with fail
      refine (known_any _ HS4.out.tab).mono ?_
      rintro r w5 ⟨rfl, hb5⟩
      have HS5 := hid (HS4.out.stays hb5)
      clear hb5
      go_wp2_with fail
      go_ret
      exact ⟨rfl, HS5.out.below⟩
    · have g1 : (e != 0) = true := by simpa using he
      have g2 : (e == 0) = false := by simpa using he
      clear he
      go_wp2_with fail
      refine (known_any _ HS2.out.tab).mono ?_
      rintro r w3 ⟨rfl, hb3⟩
      have HS3 := hid (HS2.out.stays hb3)
      clear hb3
      go_wp2_with fail
      go_ret
      exact ⟨rfl, HS3.out.below⟩
end Go.Proofs.YtlpmahdplilbiaaDoor
