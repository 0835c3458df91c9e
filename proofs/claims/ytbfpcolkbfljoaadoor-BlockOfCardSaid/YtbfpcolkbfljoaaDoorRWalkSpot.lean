/-
  The walks of isSpot and validateSpots of the program, of spotError of the reference.
-/
import Derived.Test.YtbfpcolkbfljoaaDoorRWalkRFol
import Derived.Test.YtbfpcolkbfljoaaDoorRLawEnds
namespace Go.Proofs.YtbfpcolkbfljoaaDoor
open Go.RowKit

/-- A spot lies: the piece has its end there, and lies on its tile. -/
def IsSpot (n : Nat) (Z : Nat → Int) (t p s : Int) : Prop := 0 ≤ oth p s ∧ Lie n Z t p = true
/-- The error of a spot. -/
def SErr (n : Nat) (Z : Nat → Int) (t p s e : Int) : Prop := (e = 1 ∧ oth p s < 0) ∨ (e = 2 ∧ 0 ≤ oth p s ∧ Lie n Z t p = false) ∨ (e = 0 ∧ IsSpot n Z t p s)
theorem SErr.ex (n : Nat) (Z : Nat → Int) (t p s : Int) : ∃ e, SErr n Z t p s e := by
  by_cases h : 0 ≤ oth p s
  · cases hl : Lie n Z t p
    · exact ⟨2, .inr (.inl ⟨rfl, h, hl⟩)⟩
    · exact ⟨0, .inr (.inr ⟨rfl, h, hl⟩)⟩
  · exact ⟨1, .inl ⟨rfl, by omega⟩⟩
theorem SErr.one {n : Nat} {Z : Nat → Int} {t p s e e' : Int} (h : SErr n Z t p s e) (h' : SErr n Z t p s e') : e = e' := by
  rcases h with ⟨h, a⟩ | ⟨h, a, b⟩ | ⟨h, a, b⟩ <;> rcases h' with ⟨h', a'⟩ | ⟨h', a', b'⟩ | ⟨h', a', b'⟩ <;> first | omega | (rw [b] at b'; cases b')

set_option maxHeartbeats 1600000 in
theorem isSpot_any (W H : Int) (ao : Option Addr) (n cap : Nat) (Z : Nat → Int) (u : Value) (hs : Sized W H) (hn : (n : Int) = W * H) (hz : ∀ i, i < n → 0 ≤ Z i ∧ Z i ≤ 63) (t p s : Int) (b : Bool) (hb : b = true ↔ IsSpot n Z t p s) (w : World) (hT : Tab w) (hI : Ints w ao n Z) :
    Calls Tryd.prog 123 #[rv W H (.slice ao n cap) u, sv t p s] w fun r w' => r = .returned (.bool b) ∧ Below w.heap.size w w' := by
  have hst := bx2_start w 25 50 #[.int .i64 W, .int .i64 H, .slice ao n cap, u] #[.int .i64 t, .int .i64 p, .int .i64 s]
  have HI := hid (hI.stays hst.below)
  have HT := hid (hT.stays hst.below)
  have HST := hid hst
  have HS := hid hs
  have HZ := hid hz
  have HN := hid hn
  have HB := hid hb
  obtain ⟨A, hA⟩ : ∃ A, A = w.heap.size := ⟨_, rfl⟩
  have HA := hid hA
  clear hI hT hst hs hz hn hb
  by_cases ho : 0 ≤ oth p s
  · have hp := (oth_yes ho).1
    have HO := hid ho
    clear ho
    go_enter Tryd.func123, Tryd.ntmps123
    go_wp2_with fail
    refine (across_yes HO.out _ HT.out).mono ?_
    rintro r w3 ⟨rfl, hb3⟩
    have H3 := hid (HST.out.stays hb3)
    have HI3 := hid (HI.out.stays hb3)
    simp only [← hA] at H3 ⊢
    obtain ⟨o, hoo⟩ : ∃ o, o = oth p s := ⟨_, rfl⟩
    rw [← hoo]
    have x0 := cell_of_row w3 A 0 _ _ _ H3.out.hb
    have x1 := cell_of_row w3 A 1 _ _ _ H3.out.hb
    have x2 := cell_of_row w3 A 2 _ _ _ H3.out.hb
    have x3 := cell_of_row w3 A 3 _ _ _ H3.out.hb
    have y0 := cell_of_row w3 (A + 1) 0 _ _ _ H3.out.hr
    have y1 := cell_of_row w3 (A + 1) 1 _ _ _ H3.out.hr
    have y2 := cell_of_row w3 (A + 1) 2 _ _ _ H3.out.hr
    simp only [List.getElem?_toArray, List.getElem?_cons_zero, List.getElem?_cons_succ] at x0 x1 x2 x3 y0 y1 y2
    have hAz := heap_lt H3.out.hr
    clear hb3 hA hoo HST HI HT
    by_cases ht : 0 ≤ t ∧ t < n
    · obtain ⟨t0, rfl⟩ := Int.eq_ofNat_of_zero_le ht.1
      have htn : t0 < n := by omega
      have HTI : Hid (decide (0 ≤ (t0 : Int) ∧ (t0 : Int) < W * H) = true) := hid (decide_eq_true (by rw [← HN.out]; exact ht))
      have HL : Hid (b = has (Z t0) p) := hid (by
        rw [Bool.eq_iff_iff, HB.out]
        have := lie_of (Z := Z) ⟨ht.1, ht.2, hp.1, hp.2⟩
        rw [Int.toNat_natCast] at this
        unfold IsSpot
        rw [this]
        exact ⟨fun h => h.2, fun h => ⟨HO.out, h⟩⟩)
      have HP := hid hp
      clear ht hp
      go_wp2_with fail
      refine (isTile_any W H HS.out _ _ t0 true HTI.out _).mono ?_
      rintro r w4 ⟨rfl, hb4⟩
      have H4 := hid (H3.out.stays hb4)
      have HI4 := hid (HI3.out.stays hb4)
      have z0 := (hb4.cell (p := ⟨A, 0, none⟩) (by show A < _; omega)).trans x0
      have z1 := (hb4.cell (p := ⟨A, 1, none⟩) (by show A < _; omega)).trans x1
      have z2 := (hb4.cell (p := ⟨A, 2, none⟩) (by show A < _; omega)).trans x2
      have z3 := (hb4.cell (p := ⟨A, 3, none⟩) (by show A < _; omega)).trans x3
      have v0 := (hb4.cell (p := ⟨A + 1, 0, none⟩) hAz).trans y0
      have v1 := (hb4.cell (p := ⟨A + 1, 1, none⟩) hAz).trans y1
      clear hb4 x0 x1 x2 x3 y0 y1 y2 H3 HI3
      go_wp2_with fail
      refine (lies_any W H ao n cap Z _ t0 p HP.out htn (HZ.out t0 htn).1 (HZ.out t0 htn).2 b HL.out.symm _ HI4.out).mono ?_
      rintro r w5 ⟨rfl, hb5⟩
      have H5 := hid (H4.out.stays hb5)
      clear hb5 z0 z1 z2 z3 v0 v1 H4 HI4
      go_wp2_with fail
      go_ret
      exact ⟨rfl, by rw [← HA.out]; exact H5.out.below⟩
    · have HTI : Hid (decide (0 ≤ t ∧ t < W * H) = false) := hid (decide_eq_false (by rw [← HN.out]; exact ht))
      have hbf : b = false := by
        rw [Bool.eq_false_iff]
        intro h
        have := (lie_in (HB.out.1 h).2).1
        omega
      subst hbf
      clear ht hp
      go_wp2_with fail
      refine (isTile_any W H HS.out _ _ t false HTI.out _).mono ?_
      rintro r w4 ⟨rfl, hb4⟩
      have H4 := hid (H3.out.stays hb4)
      clear hb4 x0 x1 x2 x3 y0 y1 y2 H3 HI3
      go_wp2_with fail
      go_ret
      exact ⟨rfl, by rw [← HA.out]; exact H4.out.below⟩
  · have ho' : oth p s < 0 := by omega
    have HO := hid ho'
    have hbf : b = false := by
      rw [Bool.eq_false_iff]
      intro h
      have := (HB.out.1 h).1
      omega
    subst hbf
    clear ho ho'
    go_enter Tryd.func123, Tryd.ntmps123
    go_wp2_with fail
    refine (across_no HO.out _ HT.out).mono ?_
    rintro r w3 ⟨rfl, hb3⟩
    have H3 := hid (HST.out.stays hb3)
    clear hb3 HST HI HT
    go_wp2_with fail
    go_ret
    exact ⟨rfl, H3.out.below⟩

set_option maxHeartbeats 1600000 in
theorem spotError_to (W H : Int) (ao : Option Addr) (n cap : Nat) (Z : Nat → Int) (u : Value) (hz : ∀ i, i < n → 0 ≤ Z i ∧ Z i ≤ 63) (t p s e : Int) (h : SErr n Z t p s e) (w : World) (hI : Ints w ao n Z) :
    Calls Tryd.prog 106 #[rv W H (.slice ao n cap) u, sv t p s] w fun r w' => r = .returned (.int .i64 e) ∧ Below w.heap.size w w' := by
  have hst := bx2_start w 25 50 #[.int .i64 W, .int .i64 H, .slice ao n cap, u] #[.int .i64 t, .int .i64 p, .int .i64 s]
  have HI := hid (hI.stays hst.below)
  have HST := hid hst
  have HZ := hid hz
  obtain ⟨o, hoo⟩ : ∃ o, o = oth p s := ⟨_, rfl⟩
  have HOO := hid hoo
  clear hI hst hz
  rcases h with ⟨rfl, ho⟩ | ⟨rfl, ho, hl⟩ | ⟨rfl, ho, hl⟩
  · rw [← hoo] at ho
    clear hoo
    go_enter Tryd.func106, Tryd.ntmps106
    go_wp2_with (go_at_call 122; refine (other_any _ _ _).mono ?_; rintro e w' ⟨rfl, rfl⟩; rw [← HOO.out])
    go_ret
    exact ⟨rfl, HST.out.below⟩
  · rw [← hoo] at ho
    have HL := hid hl
    clear hoo hl
    go_enter Tryd.func106, Tryd.ntmps106
    go_wp2_with (first | (go_at_call 122; refine (other_any _ _ _).mono ?_; rintro e w' ⟨rfl, rfl⟩; rw [← HOO.out]) | (go_at_call 30; refine (reflies_any W H ao n cap Z u t p HZ.out false HL.out _ HI.out).mono ?_; rintro r w3 ⟨rfl, hb3⟩; have H3 := hid (HST.out.stays hb3); clear hb3))
    go_ret
    exact ⟨rfl, H3.out.below⟩
  · rw [← hoo] at ho
    have HL := hid hl
    clear hoo hl
    go_enter Tryd.func106, Tryd.ntmps106
    go_wp2_with (first | (go_at_call 122; refine (other_any _ _ _).mono ?_; rintro e w' ⟨rfl, rfl⟩; rw [← HOO.out]) | (go_at_call 30; refine (reflies_any W H ao n cap Z u t p HZ.out true HL.out _ HI.out).mono ?_; rintro r w3 ⟨rfl, hb3⟩; have H3 := hid (HST.out.stays hb3); clear hb3))
    go_ret
    exact ⟨rfl, H3.out.below⟩
end Go.Proofs.YtbfpcolkbfljoaaDoor
