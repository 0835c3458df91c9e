/-
  The walk of the law on the spots that lead nowhere.
-/
import Derived.Test.YtlpmahdplilbiaaDoorWalkRLoose
namespace Go.Proofs.YtlpmahdplilbiaaDoor
open Go.RowKit

set_option maxHeartbeats 800000 in
theorem loose_no (W H : Int) (ao : Option Addr) (n cap : Nat) (Z : Nat → Int) (bo : Option Addr) (m bcap : Nat) (B : Nat → Bool) (hn : n ≤ 9223372036854775807) (hm : m ≤ 9223372036854775807) (hR : ¬ Right W H n m Z B) (w : World) (hT : Tab w) (hI : Ints w ao n Z) (hB : Bools w bo m B) :
    Calls Tryd.prog 36 #[rv W H (.slice ao n cap) (.slice bo m bcap)] w (NextOut [] 1 w) := by
  have HR0 := hid (rb_start (Wd := W) (Hd := H) (cap := cap) (bcap := bcap) hT hI hB)
  have HV := hid (verr_no hR)
  clear hI hB hT hR
  go_enter Tryd.func36, Tryd.ntmps36
  go_wp2_with fail
  refine (validate_any W H ao n cap Z bo m bcap B hn hm _ HR0.out.ints HR0.out.bools 1 HV.out).mono ?_
  rintro r w1 ⟨rfl, hb1⟩
  have H1 := hid (HR0.out.stays hb1)
  clear hb1
  go_wp2_with fail
  go_ret2
  exact ⟨_, rfl, World.ownsRow_nil _ _ _ _, H1.out.below⟩
set_option maxHeartbeats 800000 in
theorem refloose_no (W H : Int) (ao : Option Addr) (n cap : Nat) (Z : Nat → Int) (bo : Option Addr) (m bcap : Nat) (B : Nat → Bool) (hn : n ≤ 9223372036854775807) (hm : m ≤ 9223372036854775807) (hR : ¬ Right W H n m Z B) (w : World) (hT : Tab w) (hI : Ints w ao n Z) (hB : Bools w bo m B) :
    Calls Tryd.prog 35 #[rv W H (.slice ao n cap) (.slice bo m bcap)] w (NextOut [] 1 w) := by
  have HR0 := hid (rb_start (Wd := W) (Hd := H) (cap := cap) (bcap := bcap) hT hI hB)
  have HV := hid (verr_no hR)
  clear hI hB hT hR
  go_enter Tryd.func35, Tryd.ntmps35
  go_wp2_with fail
  refine (refvalidate_any W H ao n cap Z bo m bcap B hn hm _ HR0.out.ints HR0.out.bools 1 HV.out).mono ?_
  rintro r w1 ⟨rfl, hb1⟩
  have H1 := hid (HR0.out.stays hb1)
  clear hb1
  go_wp2_with fail
  go_ret2
  exact ⟨_, rfl, World.ownsRow_nil _ _ _ _, H1.out.below⟩
/-- What Loose gives. -/
def LooseIs (W H : Int) (n m : Nat) (Z : Nat → Int) (B : Nat → Bool) (L : List (Int × Int × Int)) (e : Int) : Prop :=
  (e = 1 ∧ L = [] ∧ ¬ Right W H n m Z B) ∨ (e = 0 ∧ L = loo W H n Z (n * 24) ∧ Right W H n m Z B)
theorem LooseIs.ex (W H : Int) (n m : Nat) (Z : Nat → Int) (B : Nat → Bool) : ∃ L e, LooseIs W H n m Z B L e := by
  by_cases h : Right W H n m Z B
  · exact ⟨_, 0, .inr ⟨rfl, rfl, h⟩⟩
  · exact ⟨_, 1, .inl ⟨rfl, rfl, h⟩⟩
theorem LooseIs.len {W H : Int} {n m : Nat} {Z : Nat → Int} {B : Nat → Bool} {L : List (Int × Int × Int)} {e : Int} (h : LooseIs W H n m Z B L e) : L.length ≤ 24576 := by
  rcases h with ⟨_, rfl, _⟩ | ⟨_, rfl, hR⟩
  · simp
  · have := loo_len W H n Z (n * 24)
    have h1 := hR.sets
    have h2 := hR.sized.bound
    omega
theorem loose_to (W H : Int) (ao : Option Addr) (n cap : Nat) (Z : Nat → Int) (bo : Option Addr) (m bcap : Nat) (B : Nat → Bool) (hn : n ≤ 9223372036854775807) (hm : m ≤ 9223372036854775807) {L : List (Int × Int × Int)} {e : Int} (h : LooseIs W H n m Z B L e) (w : World) (hT : Tab w) (hI : Ints w ao n Z) (hB : Bools w bo m B) :
    Calls Tryd.prog 36 #[rv W H (.slice ao n cap) (.slice bo m bcap)] w (NextOut L e w) := by
  rcases h with ⟨rfl, rfl, hR⟩ | ⟨rfl, rfl, hR⟩
  · exact loose_no W H ao n cap Z bo m bcap B hn hm hR w hT hI hB
  · exact loose_yes W H ao n cap Z bo m bcap B hn hm hR w hT hI hB
theorem refloose_to (W H : Int) (ao : Option Addr) (n cap : Nat) (Z : Nat → Int) (bo : Option Addr) (m bcap : Nat) (B : Nat → Bool) (hn : n ≤ 9223372036854775807) (hm : m ≤ 9223372036854775807) {L : List (Int × Int × Int)} {e : Int} (h : LooseIs W H n m Z B L e) (w : World) (hT : Tab w) (hI : Ints w ao n Z) (hB : Bools w bo m B) :
    Calls Tryd.prog 35 #[rv W H (.slice ao n cap) (.slice bo m bcap)] w (NextOut L e w) := by
  rcases h with ⟨rfl, rfl, hR⟩ | ⟨rfl, rfl, hR⟩
  · exact refloose_no W H ao n cap Z bo m bcap B hn hm hR w hT hI hB
  · exact refloose_yes W H ao n cap Z bo m bcap B hn hm hR w hT hI hB

set_option maxHeartbeats 3200000 in
theorem walk_loose (Wd Hd : Int) (ao : Option Addr) (n cap : Nat) (Z : Nat → Int) (bo : Option Addr) (m bcap : Nat) (B : Nat → Bool) (hn : n ≤ 9223372036854775807) (hm : m ≤ 9223372036854775807) (w : World) (hT : Tab w) (hI : Ints w ao n Z) (hB : Bools w bo m B) :
    Calls Tryd.prog 13 #[rv Wd Hd (.slice ao n cap) (.slice bo m bcap)] w fun r w' => r = .returned (.bool true) ∧ Below w.heap.size w w' := by
  obtain ⟨L, e, hL⟩ := LooseIs.ex Wd Hd n m Z B
  have HL := hid hL
  have hlen := hL.len
  have HS := hid (rb_start (Wd := Wd) (Hd := Hd) (cap := cap) (bcap := bcap) hT hI hB)
  clear hT hI hB hL
  obtain ⟨X, hX⟩ : ∃ X, X = w.heap.size := ⟨_, rfl⟩
  have HX := hid hX
  by_cases hf : Far n m
  · have HF := hid hf
    clear hf
    go_enter Tryd.func13, Tryd.ntmps13
    go_wp2_with fail
    refine (far_yes Wd Hd ao n cap bo m bcap (by omega) (by omega) HF.out _).mono ?_
    rintro r w1 ⟨rfl, hb1⟩
    have HS1 := hid (HS.out.stays hb1)
    clear hb1
    go_wp2_with fail
    refine (known_any _ HS1.out.tab).mono ?_
    rintro r w2 ⟨rfl, hb2⟩
    have HS2 := hid (HS1.out.stays hb2)
    clear hb2
    go_wp2_with fail
    go_ret
    exact ⟨rfl, HS2.out.below⟩
  · have HF : Hid (n ≤ 3000 ∧ m ≤ 3000) := hid (by unfold Far at hf; omega)
    clear hf
    go_enter Tryd.func13, Tryd.ntmps13
    go_wp2_with fail
    refine (far_no Wd Hd ao n cap bo m bcap HF.out _).mono ?_
    rintro r w1 ⟨rfl, hb1⟩
    have HS1 := hid (HS.out.stays hb1)
    have c0 := HS1.out.c0
    have c1 := HS1.out.c1
    have c2 := HS1.out.c2
    have c3 := HS1.out.c3
    have hX1 := HS1.out.size
    simp only [← hX] at c0 c1 c2 c3 hX1 ⊢
    clear hb1 HS hX
    go_wp2_with fail
    refine (refloose_to Wd Hd ao n cap Z bo m bcap B hn hm HL.out _ HS1.out.tab HS1.out.ints HS1.out.bools).mono ?_
    rintro r w2 ⟨l1, rfl, hr1, hb2⟩
    have HS2 := hid (HS1.out.stays hb2)
    have HR1 := hid hr1
    have d0 := (hb2.cell (p := ⟨X, 0, none⟩) hX1).trans c0
    have d1 := (hb2.cell (p := ⟨X, 1, none⟩) hX1).trans c1
    have d2 := (hb2.cell (p := ⟨X, 2, none⟩) hX1).trans c2
    have d3 := (hb2.cell (p := ⟨X, 3, none⟩) hX1).trans c3
    clear hb2 hr1 c0 c1 c2 c3 HS1
    go_wp2_with fail
    refine (loose_to Wd Hd ao n cap Z bo m bcap B hn hm HL.out _ HS2.out.tab HS2.out.ints HS2.out.bools).mono ?_
    rintro r w3 ⟨l2, rfl, hr2, hb3⟩
    have HS3 := hid (HS2.out.stays hb3)
    have HR2 := hid hr2
    have HR3 := hid (row_stays HR1.out hb3)
    clear hb3 hr2 d0 d1 d2 d3 HS2 HR1
    go_wp2_with fail
    refine (spots_same L _ _ l2 l1 _ (by omega) HR2.out HR3.out).mono ?_
    rintro r w4 ⟨rfl, q, rfl⟩
    have HS4 := hid (HS3.out.stays (Joins.below_draws _ _ q))
    clear HS3 HR2 HR3
    go_wp2_with fail
    refine (known_any _ HS4.out.tab).mono ?_
    rintro r w5 ⟨rfl, hb5⟩
    have HS5 := hid (HS4.out.stays hb5)
    clear hb5
    go_wp2_with fail
    go_ret
    exact ⟨rfl, HS5.out.below⟩
end Go.Proofs.YtlpmahdplilbiaaDoor
