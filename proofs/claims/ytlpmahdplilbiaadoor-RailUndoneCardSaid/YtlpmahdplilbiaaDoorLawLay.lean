/-
  The walks of the laws on laying and lifting a piece.
-/
import Derived.Test.YtlpmahdplilbiaaDoorWalkLift
import Derived.Test.YtlpmahdplilbiaaDoorWalkRLay
import Derived.Test.YtlpmahdplilbiaaDoorWalkRLift
import Derived.Test.YtlpmahdplilbiaaDoorWalkSame
namespace Go.Proofs.YtlpmahdplilbiaaDoor
open Go.RowKit

/-- Rails handed back, whatever their memory, and an error. -/
def Out (W H : Int) (n : Nat) (Z : Nat → Int) (B : Nat → Bool) (e : Int) (w : World) (r : Ending) (w' : World) : Prop :=
  ∃ ao c bo d, r = .returned (.tuple #[rv W H (.slice ao n c) (.slice bo n d), .int .i64 e]) ∧ Ints w' ao n Z ∧ Bools w' bo n B ∧ Below w.heap.size w w'
theorem out_nil {e : Int} {w w' : World} {r : Ending} (h : r = .returned (.tuple #[rnil, .int .i64 e]) ∧ Below w.heap.size w w') : Out 0 0 0 (fun _ => 0) (fun _ => false) e w r w' :=
  ⟨none, 0, none, 0, h.1, fun j hj => absurd hj (Nat.not_lt_zero j), fun j hj => absurd hj (Nat.not_lt_zero j), h.2⟩
theorem out_made {W H : Int} {n : Nat} {Z : Nat → Int} {B : Nat → Bool} {w w' : World} {r : Ending} (h : Made W H n Z B w r w') : Out W H n Z B 0 w r w' := by
  obtain ⟨g, c, k, d, rfl, hg, hk, hb⟩ := h
  exact ⟨_, c, _, d, rfl, vals_of_row hg, vals_of_row hk, hb⟩
theorem perr_zero {W H : Int} {n m : Nat} {Z : Nat → Int} {B : Nat → Bool} {t p : Int} (hR : Right W H n m Z B) (hp : 0 ≤ p ∧ p ≤ 5) (ht : 0 ≤ t ∧ t < n) : PErr W H n m Z B t p 0 := .inr (.inr (.inr ⟨rfl, hR, hp, ht⟩))
theorem perr_one {W H : Int} {n m : Nat} {Z : Nat → Int} {B : Nat → Bool} {t p e : Int} (h : PErr W H n m Z B t p e) : e = 0 ∨ e = 1 ∨ e = 2 := by
  rcases h with ⟨h, _⟩ | ⟨h, _⟩ | ⟨h, _⟩ | ⟨h, _⟩ <;> omega
theorem perr_ex (W H : Int) (n m : Nat) (Z : Nat → Int) (B : Nat → Bool) (t p : Int) : ∃ e, PErr W H n m Z B t p e := by
  by_cases hR : Right W H n m Z B
  · by_cases hp : 0 ≤ p ∧ p ≤ 5
    · by_cases ht : 0 ≤ t ∧ t < n
      · exact ⟨0, .inr (.inr (.inr ⟨rfl, hR, hp, ht⟩))⟩
      · exact ⟨2, .inr (.inr (.inl ⟨rfl, hR, hp, ht⟩))⟩
    · exact ⟨1, .inr (.inl ⟨rfl, hR, hp⟩)⟩
  · exact ⟨1, .inl ⟨rfl, hR⟩⟩

/-- What laying gives: an error and no rails, or the rails with one piece more. -/
def LayIs (W H : Int) (n m : Nat) (Z : Nat → Int) (B : Nat → Bool) (t p : Int) (wired : Bool) (W' H' : Int) (n' : Nat) (Z' : Nat → Int) (B' : Nat → Bool) (e : Int) : Prop :=
  (e ≠ 0 ∧ LErr true 3 W H n m Z B t p e ∧ W' = 0 ∧ H' = 0 ∧ n' = 0 ∧ Z' = (fun _ => 0) ∧ B' = (fun _ => false)) ∨
  (e = 0 ∧ W' = W ∧ H' = H ∧ n' = n ∧ m = n ∧ ∃ t0 : Nat, t = t0 ∧ t0 < n ∧ Right W H n m Z B ∧ (0 ≤ p ∧ p ≤ 5) ∧ has (Z t0) p = false ∧ Z' = upd Z t0 (Z t0 + 2 ^ p.toNat) ∧ B' = upd B t0 (B t0 || wired))
def LiftIs (W H : Int) (n m : Nat) (Z : Nat → Int) (B : Nat → Bool) (t p : Int) (W' H' : Int) (n' : Nat) (Z' : Nat → Int) (B' : Nat → Bool) (e : Int) : Prop :=
  (e ≠ 0 ∧ LErr false 2 W H n m Z B t p e ∧ W' = 0 ∧ H' = 0 ∧ n' = 0 ∧ Z' = (fun _ => 0) ∧ B' = (fun _ => false)) ∨
  (e = 0 ∧ W' = W ∧ H' = H ∧ n' = n ∧ m = n ∧ ∃ t0 : Nat, t = t0 ∧ t0 < n ∧ Right W H n m Z B ∧ (0 ≤ p ∧ p ≤ 5) ∧ has (Z t0) p = true ∧ Z' = upd Z t0 (Z t0 - 2 ^ p.toNat) ∧ B' = upd B t0 (B t0 && (Z t0 - 2 ^ p.toNat != 0)))
theorem LayIs.ex (W H : Int) (n m : Nat) (Z : Nat → Int) (B : Nat → Bool) (t p : Int) (wired : Bool) : ∃ W' H' n' Z' B' e, LayIs W H n m Z B t p wired W' H' n' Z' B' e := by
  obtain ⟨e, h⟩ := perr_ex W H n m Z B t p
  by_cases he : e = 0
  · subst he
    obtain ⟨hR, hp, ht⟩ := h.right
    by_cases hh : has (Z t.toNat) p = true
    · exact ⟨_, _, _, _, _, 3, .inl ⟨by decide, .inr ⟨rfl, h, ht, hh⟩, rfl, rfl, rfl, rfl, rfl⟩⟩
    · exact ⟨_, _, _, _, _, 0, .inr ⟨rfl, rfl, rfl, rfl, by have := hR.sets; have := hR.wires; omega, t.toNat, by omega, by omega, hR, hp, by simpa using hh, rfl, rfl⟩⟩
  · exact ⟨_, _, _, _, _, e, .inl ⟨he, .inl h, rfl, rfl, rfl, rfl, rfl⟩⟩
theorem LiftIs.ex (W H : Int) (n m : Nat) (Z : Nat → Int) (B : Nat → Bool) (t p : Int) : ∃ W' H' n' Z' B' e, LiftIs W H n m Z B t p W' H' n' Z' B' e := by
  obtain ⟨e, h⟩ := perr_ex W H n m Z B t p
  by_cases he : e = 0
  · subst he
    obtain ⟨hR, hp, ht⟩ := h.right
    by_cases hh : has (Z t.toNat) p = false
    · exact ⟨_, _, _, _, _, 2, .inl ⟨by decide, .inr ⟨rfl, h, ht, hh⟩, rfl, rfl, rfl, rfl, rfl⟩⟩
    · exact ⟨_, _, _, _, _, 0, .inr ⟨rfl, rfl, rfl, rfl, by have := hR.sets; have := hR.wires; omega, t.toNat, by omega, by omega, hR, hp, by simpa using hh, rfl, rfl⟩⟩
  · exact ⟨_, _, _, _, _, e, .inl ⟨he, .inl h, rfl, rfl, rfl, rfl, rfl⟩⟩
theorem lay_to (W H : Int) (ao : Option Addr) (n cap : Nat) (Z : Nat → Int) (bo : Option Addr) (m bcap : Nat) (B : Nat → Bool) (hn : n ≤ 9223372036854775807) (hm : m ≤ 9223372036854775807) (t p : Int) (wired : Bool) {W' H' : Int} {n' : Nat} {Z' : Nat → Int} {B' : Nat → Bool} {e : Int}
    (h : LayIs W H n m Z B t p wired W' H' n' Z' B' e) (w : World) (hI : Ints w ao n Z) (hB : Bools w bo m B) :
    Calls Tryd.prog 26 #[rv W H (.slice ao n cap) (.slice bo m bcap), .int .i64 t, .int .i64 p, .bool wired] w (Out W' H' n' Z' B' e w) := by
  rcases h with ⟨he, h, rfl, rfl, rfl, rfl, rfl⟩ | ⟨rfl, rfl, rfl, rfl, rfl, t0, rfl, ht, hR, hp, hh, rfl, rfl⟩
  · exact (lay_bad W H ao n cap Z bo m bcap B hn hm t p wired e he h w hI hB).mono fun _ _ h => out_nil h
  · exact (lay_ok _ _ ao _ cap Z bo bcap B t0 p wired hR hp ht hh w hI hB).mono fun _ _ h => out_made h
theorem reflay_to (W H : Int) (ao : Option Addr) (n cap : Nat) (Z : Nat → Int) (bo : Option Addr) (m bcap : Nat) (B : Nat → Bool) (hn : n ≤ 9223372036854775807) (hm : m ≤ 9223372036854775807) (t p : Int) (wired : Bool) {W' H' : Int} {n' : Nat} {Z' : Nat → Int} {B' : Nat → Bool} {e : Int}
    (h : LayIs W H n m Z B t p wired W' H' n' Z' B' e) (w : World) (hI : Ints w ao n Z) (hB : Bools w bo m B) :
    Calls Tryd.prog 25 #[rv W H (.slice ao n cap) (.slice bo m bcap), .int .i64 t, .int .i64 p, .bool wired] w (Out W' H' n' Z' B' e w) := by
  rcases h with ⟨he, h, rfl, rfl, rfl, rfl, rfl⟩ | ⟨rfl, rfl, rfl, rfl, rfl, t0, rfl, ht, hR, hp, hh, rfl, rfl⟩
  · exact (reflay_bad W H ao n cap Z bo m bcap B hn hm t p wired e he h w hI hB).mono fun _ _ h => out_nil h
  · exact (reflay_ok _ _ ao _ cap Z bo bcap B t0 p wired hR hp ht hh w hI hB).mono fun _ _ h => out_made h
theorem lift_to (W H : Int) (ao : Option Addr) (n cap : Nat) (Z : Nat → Int) (bo : Option Addr) (m bcap : Nat) (B : Nat → Bool) (hn : n ≤ 9223372036854775807) (hm : m ≤ 9223372036854775807) (t p : Int) {W' H' : Int} {n' : Nat} {Z' : Nat → Int} {B' : Nat → Bool} {e : Int}
    (h : LiftIs W H n m Z B t p W' H' n' Z' B' e) (w : World) (hI : Ints w ao n Z) (hB : Bools w bo m B) :
    Calls Tryd.prog 29 #[rv W H (.slice ao n cap) (.slice bo m bcap), .int .i64 t, .int .i64 p] w (Out W' H' n' Z' B' e w) := by
  rcases h with ⟨he, h, rfl, rfl, rfl, rfl, rfl⟩ | ⟨rfl, rfl, rfl, rfl, rfl, t0, rfl, ht, hR, hp, hh, rfl, rfl⟩
  · exact (lift_bad W H ao n cap Z bo m bcap B hn hm t p e he h w hI hB).mono fun _ _ h => out_nil h
  · exact (lift_ok _ _ ao _ cap Z bo bcap B t0 p hR hp ht hh w hI hB).mono fun _ _ h => out_made h
theorem reflift_to (W H : Int) (ao : Option Addr) (n cap : Nat) (Z : Nat → Int) (bo : Option Addr) (m bcap : Nat) (B : Nat → Bool) (hn : n ≤ 9223372036854775807) (hm : m ≤ 9223372036854775807) (t p : Int) {W' H' : Int} {n' : Nat} {Z' : Nat → Int} {B' : Nat → Bool} {e : Int}
    (h : LiftIs W H n m Z B t p W' H' n' Z' B' e) (w : World) (hI : Ints w ao n Z) (hB : Bools w bo m B) :
    Calls Tryd.prog 28 #[rv W H (.slice ao n cap) (.slice bo m bcap), .int .i64 t, .int .i64 p] w (Out W' H' n' Z' B' e w) := by
  rcases h with ⟨he, h, rfl, rfl, rfl, rfl, rfl⟩ | ⟨rfl, rfl, rfl, rfl, rfl, t0, rfl, ht, hR, hp, hh, rfl, rfl⟩
  · exact (reflift_bad W H ao n cap Z bo m bcap B hn hm t p e he h w hI hB).mono fun _ _ h => out_nil h
  · refine (reflift_ok _ _ ao _ cap Z bo bcap B t0 p hR hp ht hh w hI hB).mono fun _ _ h => ?_
    have hb := clr_bd ⟨(hR.fine t0 ht).1, (hR.fine t0 ht).2.1⟩ hp hh
    have e : decide (0 < Z t0 - 2 ^ p.toNat) = (Z t0 - 2 ^ p.toNat != 0) := by rw [Bool.eq_iff_iff]; simp; omega
    rw [e] at h
    exact out_made h

set_option maxHeartbeats 3200000 in
theorem walk_lays (Wd Hd : Int) (ao : Option Addr) (n cap : Nat) (Z : Nat → Int) (bo : Option Addr) (m bcap : Nat) (B : Nat → Bool) (hn : n ≤ 9223372036854775807) (hm : m ≤ 9223372036854775807) (t p : Int) (wired : Bool) (w : World) (hT : Tab w) (hI : Ints w ao n Z) (hB : Bools w bo m B) :
    Calls Tryd.prog 6 #[rv Wd Hd (.slice ao n cap) (.slice bo m bcap), .int .i64 t, .int .i64 p, .bool wired] w fun r w' => r = .returned (.bool true) ∧ Below w.heap.size w w' := by
  obtain ⟨W', H', n', Z', B', e, hL⟩ := LayIs.ex Wd Hd n m Z B t p wired
  have HL := hid hL
  have hn' : n' ≤ 9223372036854775807 := by
    rcases hL with ⟨_, _, _, _, h, _⟩ | ⟨_, _, _, h, _⟩ <;> omega
  have HS := hid (rb_start (Wd := Wd) (Hd := Hd) (cap := cap) (bcap := bcap) hT hI hB)
  clear hT hI hB hL
  obtain ⟨X, hX⟩ : ∃ X, X = w.heap.size := ⟨_, rfl⟩
  have HX := hid hX
  by_cases hf : Far n m
  · have HF := hid hf
    clear hf
    go_enter Tryd.func6, Tryd.ntmps6
    go_wp2_with fail
    refine (far_yes Wd Hd ao n cap bo m bcap (by omega) (by omega) HF.out _).mono ?_
    rintro r w1 ⟨rfl, hb1⟩
    have HS1 := hid (HS.out.stays hb1)
    clear hb1
    go_wp2_with fail
    refine (known_any _ HS1.out.tab).mono ?_
    rintro r w2 ⟨rfl, hb2⟩
    have HS2 := hid (HS1.out.stays hb2)
    clear hb2
    go_wp2_with fail
    go_ret
    exact ⟨rfl, HS2.out.below⟩
  · have HF : Hid (n ≤ 3000 ∧ m ≤ 3000) := hid (by unfold Far at hf; omega)
    clear hf
    go_enter Tryd.func6, Tryd.ntmps6
    go_wp2_with fail
    refine (far_no Wd Hd ao n cap bo m bcap HF.out _).mono ?_
    rintro r w1 ⟨rfl, hb1⟩
    have HS1 := hid (HS.out.stays hb1)
    have c0 := HS1.out.c0
    have c1 := HS1.out.c1
    have c2 := HS1.out.c2
    have c3 := HS1.out.c3
    simp only [← hX] at c0 c1 c2 c3 ⊢
    clear hb1 HS hX
    go_wp2_with fail
    refine (reflay_to Wd Hd ao n cap Z bo m bcap B hn hm t p wired HL.out _ HS1.out.ints HS1.out.bools).mono ?_
    rintro r w2 ⟨ao1, c1', bo1, d1, rfl, hI1, hB1, hb2⟩
    have HB1 := hid (Joins.below_alloc1 w2 (.cells #[.int .i64 W', .int .i64 H', .slice ao1 n' c1', .slice bo1 n' d1] 25))
    have HS2 := hid ((HS1.out.stays hb2).stays HB1.out)
    have HI1 := hid (Vals.stays hI1 HB1.out)
    have HC1 := hid (Vals.stays hB1 HB1.out)
    have hX1 : X < w1.heap.size := by have := HX.out; have := HS1.out.size; omega
    have hX2 : X < w2.heap.size := by have := hb2.size; omega
    have d0 := (hb2.cell (p := ⟨X, 0, none⟩) hX1).trans c0
    have d1' := (hb2.cell (p := ⟨X, 1, none⟩) hX1).trans c1
    have d2 := (hb2.cell (p := ⟨X, 2, none⟩) hX1).trans c2
    have d3 := (hb2.cell (p := ⟨X, 3, none⟩) hX1).trans c3
    clear hI1 hB1 hb2 c0 c1 c2 c3 HS1 HB1
    go_wp2_with fail
    refine (lay_to Wd Hd ao n cap Z bo m bcap B hn hm t p wired HL.out _ HS2.out.ints HS2.out.bools).mono ?_
    rintro r w3 ⟨ao2, c2', bo2, d2', rfl, hI2, hB2, hb3⟩
    have HB2 := hid (Joins.below_alloc1 w3 (.cells #[.int .i64 W', .int .i64 H', .slice ao2 n' c2', .slice bo2 n' d2'] 25))
    have HS3 := hid ((HS2.out.stays hb3).stays HB2.out)
    have HI2 := hid (Vals.stays hI2 HB2.out)
    have HC2 := hid (Vals.stays hB2 HB2.out)
    have HI3 := hid ((HI1.out.stays hb3).stays HB2.out)
    have HC3 := hid ((HC1.out.stays hb3).stays HB2.out)
    obtain ⟨hz2, hc2, hb3'⟩ := after hb3
    have e0 := hc2 0
    have e1 := hc2 1
    have e2 := hc2 2
    have e3 := hc2 3
    simp only [List.getElem?_toArray, List.getElem?_cons_zero, List.getElem?_cons_succ] at e0 e1 e2 e3
    clear hI2 hB2 hb3 d0 d1' d2 d3 HS2 HB2 HI1 HC1 hc2 hb3'
    go_wp2_with fail
    refine (rails_same W' H' ao2 bo2 ao1 bo1 n' n' c2' d2' c1' d1 Z' B' hn' hn' _ HI2.out HI3.out HC2.out HC3.out).mono ?_
    rintro r w4 ⟨rfl, hb4⟩
    have HS4 := hid (HS3.out.stays hb4)
    clear hb4 HS3 HI2 HI3 HC2 HC3 e0 e1 e2 e3
    go_wp2_with fail
    refine (known_any _ HS4.out.tab).mono ?_
    rintro r w5 ⟨rfl, hb5⟩
    have HS5 := hid (HS4.out.stays hb5)
    clear hb5
    go_wp2_with fail
    go_ret
    exact ⟨rfl, HS5.out.below⟩

set_option maxHeartbeats 3200000 in
theorem walk_lifts (Wd Hd : Int) (ao : Option Addr) (n cap : Nat) (Z : Nat → Int) (bo : Option Addr) (m bcap : Nat) (B : Nat → Bool) (hn : n ≤ 9223372036854775807) (hm : m ≤ 9223372036854775807) (t p : Int) (w : World) (hT : Tab w) (hI : Ints w ao n Z) (hB : Bools w bo m B) :
    Calls Tryd.prog 7 #[rv Wd Hd (.slice ao n cap) (.slice bo m bcap), .int .i64 t, .int .i64 p] w fun r w' => r = .returned (.bool true) ∧ Below w.heap.size w w' := by
  obtain ⟨W', H', n', Z', B', e, hL⟩ := LiftIs.ex Wd Hd n m Z B t p
  have HL := hid hL
  have hn' : n' ≤ 9223372036854775807 := by
    rcases hL with ⟨_, _, _, _, h, _⟩ | ⟨_, _, _, h, _⟩ <;> omega
  have HS := hid (rb_start (Wd := Wd) (Hd := Hd) (cap := cap) (bcap := bcap) hT hI hB)
  clear hT hI hB hL
  obtain ⟨X, hX⟩ : ∃ X, X = w.heap.size := ⟨_, rfl⟩
  have HX := hid hX
  by_cases hf : Far n m
  · have HF := hid hf
    clear hf
    go_enter Tryd.func7, Tryd.ntmps7
    go_wp2_with fail
    refine (far_yes Wd Hd ao n cap bo m bcap (by omega) (by omega) HF.out _).mono ?_
    rintro r w1 ⟨rfl, hb1⟩
    have HS1 := hid (HS.out.stays hb1)
    clear hb1
    go_wp2_with fail
    refine (known_any _ HS1.out.tab).mono ?_
    rintro r w2 ⟨rfl, hb2⟩
    have HS2 := hid (HS1.out.stays hb2)
    clear hb2
    go_wp2_with fail
    go_ret
    exact ⟨rfl, HS2.out.below⟩
  · have HF : Hid (n ≤ 3000 ∧ m ≤ 3000) := hid (by unfold Far at hf; omega)
    clear hf
    go_enter Tryd.func7, Tryd.ntmps7
    go_wp2_with fail
    refine (far_no Wd Hd ao n cap bo m bcap HF.out _).mono ?_
    rintro r w1 ⟨rfl, hb1⟩
    have HS1 := hid (HS.out.stays hb1)
    have c0 := HS1.out.c0
    have c1 := HS1.out.c1
    have c2 := HS1.out.c2
    have c3 := HS1.out.c3
    simp only [← hX] at c0 c1 c2 c3 ⊢
    clear hb1 HS hX
    go_wp2_with fail
    refine (reflift_to Wd Hd ao n cap Z bo m bcap B hn hm t p HL.out _ HS1.out.ints HS1.out.bools).mono ?_
    rintro r w2 ⟨ao1, c1', bo1, d1, rfl, hI1, hB1, hb2⟩
    have HB1 := hid (Joins.below_alloc1 w2 (.cells #[.int .i64 W', .int .i64 H', .slice ao1 n' c1', .slice bo1 n' d1] 25))
    have HS2 := hid ((HS1.out.stays hb2).stays HB1.out)
    have HI1 := hid (Vals.stays hI1 HB1.out)
    have HC1 := hid (Vals.stays hB1 HB1.out)
    have hX1 : X < w1.heap.size := by have := HX.out; have := HS1.out.size; omega
    have hX2 : X < w2.heap.size := by have := hb2.size; omega
    have d0 := (hb2.cell (p := ⟨X, 0, none⟩) hX1).trans c0
    have d1' := (hb2.cell (p := ⟨X, 1, none⟩) hX1).trans c1
    have d2 := (hb2.cell (p := ⟨X, 2, none⟩) hX1).trans c2
    have d3 := (hb2.cell (p := ⟨X, 3, none⟩) hX1).trans c3
    clear hI1 hB1 hb2 c0 c1 c2 c3 HS1 HB1
    go_wp2_with fail
    refine (lift_to Wd Hd ao n cap Z bo m bcap B hn hm t p HL.out _ HS2.out.ints HS2.out.bools).mono ?_
    rintro r w3 ⟨ao2, c2', bo2, d2', rfl, hI2, hB2, hb3⟩
    have HB2 := hid (Joins.below_alloc1 w3 (.cells #[.int .i64 W', .int .i64 H', .slice ao2 n' c2', .slice bo2 n' d2'] 25))
    have HS3 := hid ((HS2.out.stays hb3).stays HB2.out)
    have HI2 := hid (Vals.stays hI2 HB2.out)
    have HC2 := hid (Vals.stays hB2 HB2.out)
    have HI3 := hid ((HI1.out.stays hb3).stays HB2.out)
    have HC3 := hid ((HC1.out.stays hb3).stays HB2.out)
    obtain ⟨hz2, hc2, hb3'⟩ := after hb3
    have e0 := hc2 0
    have e1 := hc2 1
    have e2 := hc2 2
    have e3 := hc2 3
    simp only [List.getElem?_toArray, List.getElem?_cons_zero, List.getElem?_cons_succ] at e0 e1 e2 e3
    clear hI2 hB2 hb3 d0 d1' d2 d3 HS2 HB2 HI1 HC1 hc2 hb3'
    go_wp2_with fail
    refine (rails_same W' H' ao2 bo2 ao1 bo1 n' n' c2' d2' c1' d1 Z' B' hn' hn' _ HI2.out HI3.out HC2.out HC3.out).mono ?_
    rintro r w4 ⟨rfl, hb4⟩
    have HS4 := hid (HS3.out.stays hb4)
    clear hb4 HS3 HI2 HI3 HC2 HC3 e0 e1 e2 e3
    go_wp2_with fail
    refine (known_any _ HS4.out.tab).mono ?_
    rintro r w5 ⟨rfl, hb5⟩
    have HS5 := hid (HS4.out.stays hb5)
    clear hb5
    go_wp2_with fail
    go_ret
    exact ⟨rfl, HS5.out.below⟩
end Go.Proofs.YtlpmahdplilbiaaDoor
