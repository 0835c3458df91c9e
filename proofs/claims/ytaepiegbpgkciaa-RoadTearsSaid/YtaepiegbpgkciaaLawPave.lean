/-
  The walks of the laws on paving, taking away and setting ways.
-/
import Derived.Test.YtaepiegbpgkciaaKnown
import Derived.Test.YtaepiegbpgkciaaSame
import Derived.Test.YtaepiegbpgkciaaWalkRPave
import Derived.Test.YtaepiegbpgkciaaWalkTurn
namespace Go.Proofs.Ytaepiegbpgkciaa
open Go.RowKit

theorem arm_right {b : Bool} {W H : Int} {n : Nat} {Z Y : Nat → Int} {t : Nat} {a : Int} (h : Right W H n n Z Y) (ht : t < n) (ha : 0 ≤ a ∧ a ≤ 15) : Right W H n n (armZ b Z t a 4) (armY b Z Y t a 4) := by
  have hz := (h.args.fine t ht).1
  obtain ⟨q1, q2, q3, q4, q5, q6, _⟩ := sel_bd (b := b) hz ha (Nat.le_refl 4)
  have hx : 0 ≤ arm b (Z t) a 4 ∧ arm b (Z t) a 4 ≤ 15 := by
    unfold arm
    cases b
    · have := q6 rfl; simp; omega
    · have := q5 rfl; simp; omega
  refine ⟨⟨h.args.sized, h.args.arms, h.args.ways, fun i hi => ?_⟩, fun i hi => ?_⟩
  · have hf := h.args.fine i hi
    refine ⟨?_, ?_⟩
    · unfold armZ upd; split
      · exact hx
      · exact hf.1
    · unfold armY; split
      · exact hf.2
      · unfold upd; split
        · omega
        · exact hf.2
  · have hc := h.carry i hi
    by_cases h0 : sel b (Z t) a 4 = 0
    · have e1 : armZ b Z t a 4 = Z := by
        have : arm b (Z t) a 4 = Z t := by unfold arm; rw [h0]; cases b <;> simp
        unfold armZ; rw [this, upd_self]
      have e2 : armY b Z Y t a 4 = Y := by unfold armY; rw [if_pos h0]
      rw [e1, e2]; exact hc
    · have e2 : armY b Z Y t a 4 = upd Y t 0 := by unfold armY; rw [if_neg h0]
      rw [e2]
      by_cases e : i = t
      · subst e; exact .inl (upd_same _ _ _)
      · unfold armZ; rw [upd_other _ _ e, upd_other _ _ e]; exact hc
theorem TurnIs.right {W H : Int} {n m : Nat} {Z Y : Nat → Int} {t y : Int} {W' H' : Int} {n' : Nat} {Z' Y' : Nat → Int} {e : Int} (h : TurnIs W H n m Z Y t y W' H' n' Z' Y' e) (he : e = 0) : Right W' H' n' n' Z' Y' := by
  rcases h with ⟨h, _⟩ | ⟨_, h, hy, hc, rfl, rfl, rfl, rfl, t0, rfl, rfl, rfl⟩
  · exact absurd he h
  · have hR := h.right.1
    refine ⟨⟨hR.args.sized, hR.args.arms, hR.args.ways, fun i hi => ⟨(hR.args.fine i hi).1, ?_⟩⟩, fun i hi => ?_⟩
    · unfold upd; split
      · exact hy
      · exact (hR.args.fine i hi).2
    · by_cases e : i = t0
      · subst e; rw [upd_same]; exact hc
      · rw [upd_other _ _ e]; exact hR.carry i hi

set_option maxHeartbeats 6400000 in
theorem walk_paves (Wd Hd : Int) (ao : Option Addr) (n cap : Nat) (Z : Nat → Int) (bo : Option Addr) (m bcap : Nat) (Y : Nat → Int) (hn : n ≤ 9223372036854775807) (hm : m ≤ 9223372036854775807) (t a : Int) (w : World) (hI : Ints w ao n Z) (hB : Ints w bo m Y) :
    Calls Try.prog 5 #[rv Wd Hd (.slice ao n cap) (.slice bo m bcap), .int .i64 t, .int .i64 a] w fun r w' => r = .returned (.bool true) ∧ Below w.heap.size w w' := by
  obtain ⟨W', H', n', Z', Y', cost, e, hL⟩ := PaveIs.ex false 150 Wd Hd n m Z Y t a
  have HL := hid hL
  have hn' : n' ≤ 9223372036854775807 := by
    rcases hL with ⟨_, _, _, _, h, _⟩ | ⟨_, _, _, _, h, _⟩ <;> omega
  have HS := hid (sb_start (W := Wd) (H := Hd) (cap := cap) (bcap := bcap) hI hB)
  clear hI hB hL
  obtain ⟨X, hX⟩ : ∃ X, X = w.heap.size := ⟨_, rfl⟩
  have HX := hid hX
  by_cases hf : Far n m
  · have HF := hid hf
    clear hf
    go_enter Try.func5, Try.ntmps5
    go_wp2_with fail
    refine (far_yes Wd Hd ao n cap bo m bcap hn hm HF.out _).mono ?_
    rintro r w1 ⟨rfl, hb1⟩
    have HS1 := hid (HS.out.stays hb1)
    clear hb1
    go_wp2_with fail
    refine (known_any _).mono ?_
    rintro r w2 ⟨rfl, hb2⟩
    have HS2 := hid (HS1.out.stays hb2)
    clear hb2
    go_wp2_with fail
    go_ret
    exact ⟨rfl, HS2.out.below⟩
  · have HF : Hid (n ≤ 4000 ∧ m ≤ 4000) := hid (by unfold Far at hf; omega)
    clear hf
    go_enter Try.func5, Try.ntmps5
    go_wp2_with fail
    refine (far_no Wd Hd ao n cap bo m bcap HF.out _).mono ?_
    rintro r w1 ⟨rfl, hb1⟩
    have HS1 := hid (HS.out.stays hb1)
    obtain ⟨c0, c1, c2, c3, hz1⟩ := HS1.out.at HX.out
    simp only [← hX] at c0 c1 c2 c3 ⊢
    clear hb1 HS hX
    go_wp2_with fail
    refine (pave_to Wd Hd ao n cap Z bo m bcap Y hn hm t a HL.out _ HS1.out.arms HS1.out.ways).mono ?_
    rintro r w2 ⟨ao1, ca1, bo1, cb1, rfl, hI1, hB1, hb2⟩
    have HB1 := hid (Joins.below_alloc1 w2 (.cells #[.int .i64 W', .int .i64 H', .slice ao1 n' ca1, .slice bo1 n' cb1] 24))
    have HS2 := hid ((HS1.out.stays hb2).stays HB1.out)
    have HI1 := hid (Vals.stays hI1 HB1.out)
    have HC1 := hid (Vals.stays hB1 HB1.out)
    have hX2 : X < w2.heap.size := by have := hb2.size; omega
    have d0 := (hb2.cell (p := ⟨X, 0, none⟩) hz1).trans c0
    have d1 := (hb2.cell (p := ⟨X, 1, none⟩) hz1).trans c1
    have d2 := (hb2.cell (p := ⟨X, 2, none⟩) hz1).trans c2
    have d3 := (hb2.cell (p := ⟨X, 3, none⟩) hz1).trans c3
    clear hI1 hB1 hb2 c0 c1 c2 c3 HS1 HB1 hz1
    go_wp2_with fail
    refine (refpave_to Wd Hd ao n cap Z bo m bcap Y hn hm t a HL.out _ HS2.out.arms HS2.out.ways).mono ?_
    rintro r w3 ⟨ao2, ca2, bo2, cb2, rfl, hI2, hB2, hb3⟩
    have HB2 := hid (Joins.below_alloc1 w3 (.cells #[.int .i64 W', .int .i64 H', .slice ao2 n' ca2, .slice bo2 n' cb2] 24))
    have HS3 := hid ((HS2.out.stays hb3).stays HB2.out)
    have HI2 := hid (Vals.stays hI2 HB2.out)
    have HC2 := hid (Vals.stays hB2 HB2.out)
    have HI3 := hid ((HI1.out.stays hb3).stays HB2.out)
    have HC3 := hid ((HC1.out.stays hb3).stays HB2.out)
    obtain ⟨hz2, hc2, hb3'⟩ := after hb3
    have e0 := hc2 0
    have e1 := hc2 1
    have e2 := hc2 2
    have e3 := hc2 3
    simp only [List.getElem?_toArray, List.getElem?_cons_zero, List.getElem?_cons_succ] at e0 e1 e2 e3
    clear hI2 hB2 hb3 d0 d1 d2 d3 HS2 HB2 HI1 HC1 hc2 hb3' hX2
    go_wp2_with fail
    refine (streets_same W' H' ao1 bo1 ao2 bo2 n' n' ca1 cb1 ca2 cb2 Z' Y' hn' hn' _ HI3.out HI2.out HC3.out HC2.out).mono ?_
    rintro r w4 ⟨rfl, hb4⟩
    have HS4 := hid (HS3.out.stays hb4)
    clear hb4 HS3 HI2 HI3 HC2 HC3 e0 e1 e2 e3 hz2
    go_wp2_with fail

    refine (known_any _).mono ?_
    rintro r w9 ⟨rfl, hb9⟩
    have HS9 := hid (HS4.out.stays hb9)
    clear hb9
    go_wp2_with fail
    go_ret
    exact ⟨rfl, HS9.out.below⟩

set_option maxHeartbeats 6400000 in
theorem walk_tears (Wd Hd : Int) (ao : Option Addr) (n cap : Nat) (Z : Nat → Int) (bo : Option Addr) (m bcap : Nat) (Y : Nat → Int) (hn : n ≤ 9223372036854775807) (hm : m ≤ 9223372036854775807) (t a : Int) (w : World) (hI : Ints w ao n Z) (hB : Ints w bo m Y) :
    Calls Try.prog 6 #[rv Wd Hd (.slice ao n cap) (.slice bo m bcap), .int .i64 t, .int .i64 a] w fun r w' => r = .returned (.bool true) ∧ Below w.heap.size w w' := by
  obtain ⟨W', H', n', Z', Y', cost, e, hL⟩ := PaveIs.ex true 75 Wd Hd n m Z Y t a
  have HL := hid hL
  have hn' : n' ≤ 9223372036854775807 := by
    rcases hL with ⟨_, _, _, _, h, _⟩ | ⟨_, _, _, _, h, _⟩ <;> omega
  have HS := hid (sb_start (W := Wd) (H := Hd) (cap := cap) (bcap := bcap) hI hB)
  clear hI hB hL
  obtain ⟨X, hX⟩ : ∃ X, X = w.heap.size := ⟨_, rfl⟩
  have HX := hid hX
  by_cases hf : Far n m
  · have HF := hid hf
    clear hf
    go_enter Try.func6, Try.ntmps6
    go_wp2_with fail
    refine (far_yes Wd Hd ao n cap bo m bcap hn hm HF.out _).mono ?_
    rintro r w1 ⟨rfl, hb1⟩
    have HS1 := hid (HS.out.stays hb1)
    clear hb1
    go_wp2_with fail
    refine (known_any _).mono ?_
    rintro r w2 ⟨rfl, hb2⟩
    have HS2 := hid (HS1.out.stays hb2)
    clear hb2
    go_wp2_with fail
    go_ret
    exact ⟨rfl, HS2.out.below⟩
  · have HF : Hid (n ≤ 4000 ∧ m ≤ 4000) := hid (by unfold Far at hf; omega)
    clear hf
    go_enter Try.func6, Try.ntmps6
    go_wp2_with fail
    refine (far_no Wd Hd ao n cap bo m bcap HF.out _).mono ?_
    rintro r w1 ⟨rfl, hb1⟩
    have HS1 := hid (HS.out.stays hb1)
    obtain ⟨c0, c1, c2, c3, hz1⟩ := HS1.out.at HX.out
    simp only [← hX] at c0 c1 c2 c3 ⊢
    clear hb1 HS hX
    go_wp2_with fail
    refine (tear_to Wd Hd ao n cap Z bo m bcap Y hn hm t a HL.out _ HS1.out.arms HS1.out.ways).mono ?_
    rintro r w2 ⟨ao1, ca1, bo1, cb1, rfl, hI1, hB1, hb2⟩
    have HB1 := hid (Joins.below_alloc1 w2 (.cells #[.int .i64 W', .int .i64 H', .slice ao1 n' ca1, .slice bo1 n' cb1] 24))
    have HS2 := hid ((HS1.out.stays hb2).stays HB1.out)
    have HI1 := hid (Vals.stays hI1 HB1.out)
    have HC1 := hid (Vals.stays hB1 HB1.out)
    have hX2 : X < w2.heap.size := by have := hb2.size; omega
    have d0 := (hb2.cell (p := ⟨X, 0, none⟩) hz1).trans c0
    have d1 := (hb2.cell (p := ⟨X, 1, none⟩) hz1).trans c1
    have d2 := (hb2.cell (p := ⟨X, 2, none⟩) hz1).trans c2
    have d3 := (hb2.cell (p := ⟨X, 3, none⟩) hz1).trans c3
    clear hI1 hB1 hb2 c0 c1 c2 c3 HS1 HB1 hz1
    go_wp2_with fail
    refine (reftear_to Wd Hd ao n cap Z bo m bcap Y hn hm t a HL.out _ HS2.out.arms HS2.out.ways).mono ?_
    rintro r w3 ⟨ao2, ca2, bo2, cb2, rfl, hI2, hB2, hb3⟩
    have HB2 := hid (Joins.below_alloc1 w3 (.cells #[.int .i64 W', .int .i64 H', .slice ao2 n' ca2, .slice bo2 n' cb2] 24))
    have HS3 := hid ((HS2.out.stays hb3).stays HB2.out)
    have HI2 := hid (Vals.stays hI2 HB2.out)
    have HC2 := hid (Vals.stays hB2 HB2.out)
    have HI3 := hid ((HI1.out.stays hb3).stays HB2.out)
    have HC3 := hid ((HC1.out.stays hb3).stays HB2.out)
    obtain ⟨hz2, hc2, hb3'⟩ := after hb3
    have e0 := hc2 0
    have e1 := hc2 1
    have e2 := hc2 2
    have e3 := hc2 3
    simp only [List.getElem?_toArray, List.getElem?_cons_zero, List.getElem?_cons_succ] at e0 e1 e2 e3
    clear hI2 hB2 hb3 d0 d1 d2 d3 HS2 HB2 HI1 HC1 hc2 hb3' hX2
    go_wp2_with fail
    refine (streets_same W' H' ao1 bo1 ao2 bo2 n' n' ca1 cb1 ca2 cb2 Z' Y' hn' hn' _ HI3.out HI2.out HC3.out HC2.out).mono ?_
    rintro r w4 ⟨rfl, hb4⟩
    have HS4 := hid (HS3.out.stays hb4)
    clear hb4 HS3 HI2 HI3 HC2 HC3 e0 e1 e2 e3 hz2
    go_wp2_with fail

    refine (known_any _).mono ?_
    rintro r w9 ⟨rfl, hb9⟩
    have HS9 := hid (HS4.out.stays hb9)
    clear hb9
    go_wp2_with fail
    go_ret
    exact ⟨rfl, HS9.out.below⟩

set_option maxHeartbeats 6400000 in
theorem walk_turns (Wd Hd : Int) (ao : Option Addr) (n cap : Nat) (Z : Nat → Int) (bo : Option Addr) (m bcap : Nat) (Y : Nat → Int) (hn : n ≤ 9223372036854775807) (hm : m ≤ 9223372036854775807) (t y : Int) (w : World) (hI : Ints w ao n Z) (hB : Ints w bo m Y) :
    Calls Try.prog 8 #[rv Wd Hd (.slice ao n cap) (.slice bo m bcap), .int .i64 t, .int .i64 y] w fun r w' => r = .returned (.bool true) ∧ Below w.heap.size w w' := by
  obtain ⟨W', H', n', Z', Y', e, hL⟩ := TurnIs.ex Wd Hd n m Z Y t y
  have HL := hid hL
  have HRT := hid hL.right
  have hn' : n' ≤ 9223372036854775807 := by
    rcases hL with ⟨_, _, _, _, h, _⟩ | ⟨_, _, _, _, _, _, h, _⟩ <;> omega
  have HS := hid (sb_start (W := Wd) (H := Hd) (cap := cap) (bcap := bcap) hI hB)
  clear hI hB hL
  obtain ⟨X, hX⟩ : ∃ X, X = w.heap.size := ⟨_, rfl⟩
  have HX := hid hX
  by_cases hf : Far n m
  · have HF := hid hf
    clear hf
    go_enter Try.func8, Try.ntmps8
    go_wp2_with fail
    refine (far_yes Wd Hd ao n cap bo m bcap hn hm HF.out _).mono ?_
    rintro r w1 ⟨rfl, hb1⟩
    have HS1 := hid (HS.out.stays hb1)
    clear hb1
    go_wp2_with fail
    refine (known_any _).mono ?_
    rintro r w2 ⟨rfl, hb2⟩
    have HS2 := hid (HS1.out.stays hb2)
    clear hb2
    go_wp2_with fail
    go_ret
    exact ⟨rfl, HS2.out.below⟩
  · have HF : Hid (n ≤ 4000 ∧ m ≤ 4000) := hid (by unfold Far at hf; omega)
    clear hf
    go_enter Try.func8, Try.ntmps8
    go_wp2_with fail
    refine (far_no Wd Hd ao n cap bo m bcap HF.out _).mono ?_
    rintro r w1 ⟨rfl, hb1⟩
    have HS1 := hid (HS.out.stays hb1)
    obtain ⟨c0, c1, c2, c3, hz1⟩ := HS1.out.at HX.out
    simp only [← hX] at c0 c1 c2 c3 ⊢
    clear hb1 HS hX
    go_wp2_with fail
    refine (turn_to Wd Hd ao n cap Z bo m bcap Y hn hm t y HL.out _ HS1.out.arms HS1.out.ways).mono ?_
    rintro r w2 ⟨ao1, ca1, bo1, cb1, rfl, hI1, hB1, hb2⟩
    have HB1 := hid (Joins.below_alloc1 w2 (.cells #[.int .i64 W', .int .i64 H', .slice ao1 n' ca1, .slice bo1 n' cb1] 24))
    have HS2 := hid ((HS1.out.stays hb2).stays HB1.out)
    have HI1 := hid (Vals.stays hI1 HB1.out)
    have HC1 := hid (Vals.stays hB1 HB1.out)
    have hX2 : X < w2.heap.size := by have := hb2.size; omega
    have d0 := (hb2.cell (p := ⟨X, 0, none⟩) hz1).trans c0
    have d1 := (hb2.cell (p := ⟨X, 1, none⟩) hz1).trans c1
    have d2 := (hb2.cell (p := ⟨X, 2, none⟩) hz1).trans c2
    have d3 := (hb2.cell (p := ⟨X, 3, none⟩) hz1).trans c3
    clear hI1 hB1 hb2 c0 c1 c2 c3 HS1 HB1 hz1
    go_wp2_with fail
    refine (refturn_to Wd Hd ao n cap Z bo m bcap Y hn hm t y HL.out _ HS2.out.arms HS2.out.ways).mono ?_
    rintro r w3 ⟨ao2, ca2, bo2, cb2, rfl, hI2, hB2, hb3⟩
    have HB2 := hid (Joins.below_alloc1 w3 (.cells #[.int .i64 W', .int .i64 H', .slice ao2 n' ca2, .slice bo2 n' cb2] 24))
    have HS3 := hid ((HS2.out.stays hb3).stays HB2.out)
    have HI2 := hid (Vals.stays hI2 HB2.out)
    have HC2 := hid (Vals.stays hB2 HB2.out)
    have HI3 := hid ((HI1.out.stays hb3).stays HB2.out)
    have HC3 := hid ((HC1.out.stays hb3).stays HB2.out)
    obtain ⟨hz2, hc2, hb3'⟩ := after hb3
    have e0 := hc2 0
    have e1 := hc2 1
    have e2 := hc2 2
    have e3 := hc2 3
    simp only [List.getElem?_toArray, List.getElem?_cons_zero, List.getElem?_cons_succ] at e0 e1 e2 e3
    clear hI2 hB2 hb3 d0 d1 d2 d3 HS2 HB2 HI1 HC1 hc2 hb3' hX2
    go_wp2_with fail
    refine (streets_same W' H' ao1 bo1 ao2 bo2 n' n' ca1 cb1 ca2 cb2 Z' Y' hn' hn' _ HI3.out HI2.out HC3.out HC2.out).mono ?_
    rintro r w4 ⟨rfl, hb4⟩
    have HS4 := hid (HS3.out.stays hb4)
    have HI4 := hid (HI3.out.stays hb4)
    have HC4 := hid (HC3.out.stays hb4)
    have g0 := (hb4.cell (p := ⟨w2.heap.size, 0, none⟩) (by simp; omega)).trans ((World.cell?_alloc_past _ _ _ (by omega)).trans e0)
    have g1 := (hb4.cell (p := ⟨w2.heap.size, 1, none⟩) (by simp; omega)).trans ((World.cell?_alloc_past _ _ _ (by omega)).trans e1)
    have g2 := (hb4.cell (p := ⟨w2.heap.size, 2, none⟩) (by simp; omega)).trans ((World.cell?_alloc_past _ _ _ (by omega)).trans e2)
    have g3 := (hb4.cell (p := ⟨w2.heap.size, 3, none⟩) (by simp; omega)).trans ((World.cell?_alloc_past _ _ _ (by omega)).trans e3)
    have hz4 : w2.heap.size < w4.heap.size := by have := hb4.size; simp at this; omega
    obtain ⟨Q, hQ⟩ : ∃ Q, Q = w2.heap.size := ⟨_, rfl⟩
    simp only [← hQ] at g0 g1 g2 g3 hz4 ⊢
    clear hb4 HS3 HI2 HI3 HC2 HC3 e0 e1 e2 e3 hz2 hQ
    by_cases he : e = 0
    · have HV := hid (verr_ok (HRT.out he))
      subst he
      go_wp2_with fail
      refine (validate_any W' H' ao1 n' ca1 Z' bo1 n' cb1 Y' hn' hn' _ HI4.out HC4.out 0 HV.out).mono ?_
      rintro r w5 ⟨rfl, hb5⟩
      have HS5 := hid (HS4.out.stays hb5)
      clear hb5 g0 g1 g2 g3 hz4
      go_wp2_with fail
      refine (known_any _).mono ?_
      rintro r w9 ⟨rfl, hb9⟩
      have HS9 := hid (HS5.out.stays hb9)
      clear hb9
      go_wp2_with fail
      go_ret
      exact ⟨rfl, HS9.out.below⟩
    · have e0 : (e != 0) = true := by simpa using he
      clear he
      go_wp2_with fail
      refine (known_any _).mono ?_
      rintro r w9 ⟨rfl, hb9⟩
      have HS9 := hid (HS4.out.stays hb9)
      clear hb9
      go_wp2_with fail
      go_ret
      exact ⟨rfl, HS9.out.below⟩
end Go.Proofs.Ytaepiegbpgkciaa
