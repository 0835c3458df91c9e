/-
  The walk of the law on ways.
-/
import Derived.Test.YtlpmahdplilbiaaDoorWalkRWay
namespace Go.Proofs.YtlpmahdplilbiaaDoor
open Go.RowKit

set_option maxHeartbeats 800000 in
theorem refway_wrong (W H : Int) (ao : Option Addr) (n cap : Nat) (Z : Nat → Int) (bo : Option Addr) (m bcap : Nat) (B : Nat → Bool) (hn : n ≤ 9223372036854775807) (hm : m ≤ 9223372036854775807) (l : Value) (hR : ¬ Right W H n m Z B) (w : World) (hT : Tab w) (hI : Ints w ao n Z) (hB : Bools w bo m B) :
    Calls Tryd.prog 37 #[rv W H (.slice ao n cap) (.slice bo m bcap), l] w fun r w' => r = .returned (.int .i64 1) ∧ Below w.heap.size w w' := by
  have HR0 := hid (rb_start (Wd := W) (Hd := H) (cap := cap) (bcap := bcap) hT hI hB)
  have HV := hid (verr_no hR)
  clear hI hB hT hR
  go_enter Tryd.func37, Tryd.ntmps37
  go_wp2_with fail
  refine (refvalidate_any W H ao n cap Z bo m bcap B hn hm _ HR0.out.ints HR0.out.bools 1 HV.out).mono ?_
  rintro r w1 ⟨rfl, hb1⟩
  have H1 := hid (HR0.out.stays hb1)
  clear hb1
  go_wp2_with fail
  go_ret
  exact ⟨rfl, H1.out.below⟩
theorem refway_to (W H : Int) (ao : Option Addr) (n cap : Nat) (Z : Nat → Int) (bo : Option Addr) (m bcap : Nat) (B : Nat → Bool) (hn : n ≤ 9223372036854775807) (hm : m ≤ 9223372036854775807) (lo : Option Addr) (k lcap : Nat) (hk : k ≤ 3000) (S : Nat → Int × Int × Int) (e : Int) (h : WayIs W H n m Z B k S e)
    (w : World) (hT : Tab w) (hI : Ints w ao n Z) (hB : Bools w bo m B) (hS : SpotsAt w lo k S) :
    Calls Tryd.prog 37 #[rv W H (.slice ao n cap) (.slice bo m bcap), .slice lo k lcap] w fun r w' => r = .returned (.int .i64 e) ∧ Below w.heap.size w w' := by
  obtain ⟨e0, ⟨rfl, hR⟩ | ⟨hR, hL⟩, h⟩ := h
  · rcases h with ⟨_, rfl⟩ | ⟨h, _⟩
    · exact refway_wrong W H ao n cap Z bo m bcap B hn hm _ hR w hT hI hB
    · cases h
  · exact refway_right W H ao n cap Z bo m bcap B hn hm lo k lcap hk S e e0 hR hL h w hT hI hB hS

section
variable {W H : Int} {ao bo : Option Addr} {n cap m bcap : Nat} {Z : Nat → Int} {B : Nat → Bool} {w a b : World} {P : Prop}
theorem rby_keep {X : Nat} (hX : X = w.heap.size) (h : RB W H ao n cap Z bo m bcap B w a ∧ P) (hb : Below a.heap.size a b) :
    RB W H ao n cap Z bo m bcap B w b ∧ b.cell? ⟨X, 0, none⟩ = some (.int .i64 W) ∧ b.cell? ⟨X, 1, none⟩ = some (.int .i64 H) ∧ b.cell? ⟨X, 2, none⟩ = some (.slice ao n cap) ∧ b.cell? ⟨X, 3, none⟩ = some (.slice bo m bcap) := by
  subst hX
  have j := h.1.stays hb
  exact ⟨j, j.c0, j.c1, j.c2, j.c3⟩
theorem rby_bools (h : RB W H ao n cap Z bo m bcap B w a ∧ P) : Bools a bo m B := h.1.bools
theorem rby_spots {lo : Option Addr} {k : Nat} {S : Nat → Int × Int × Int} (h : RB W H ao n cap Z bo m bcap B w a ∧ P) (hS : SpotsAt w lo k S) : SpotsAt a lo k S := hS.stays h.1.below
end

set_option maxRecDepth 20000 in
set_option maxHeartbeats 3200000 in
theorem walk_ways (Wd Hd : Int) (ao : Option Addr) (n cap : Nat) (Z : Nat → Int) (bo : Option Addr) (m bcap : Nat) (B : Nat → Bool) (hn : n ≤ 9223372036854775807) (hm : m ≤ 9223372036854775807) (lo : Option Addr) (k lcap : Nat) (hk : k ≤ 9223372036854775807) (S : Nat → Int × Int × Int)
    (w : World) (hT : Tab w) (hI : Ints w ao n Z) (hB : Bools w bo m B) (hSP : SpotsAt w lo k S) :
    Calls Tryd.prog 14 #[rv Wd Hd (.slice ao n cap) (.slice bo m bcap), .slice lo k lcap] w fun r w' => r = .returned (.bool true) ∧ Below w.heap.size w w' := by
  obtain ⟨e, hE⟩ := WayIs.ex Wd Hd n m Z B k S
  have HE := hid hE
  have HSP := hid hSP
  have HS := hid (rb_start (Wd := Wd) (Hd := Hd) (cap := cap) (bcap := bcap) hT hI hB)
  clear hT hI hB hE hSP
  obtain ⟨X, hX⟩ : ∃ X, X = w.heap.size := ⟨_, rfl⟩
  have HX := hid hX
  by_cases hf : Far n m
  · have HF := hid hf
    clear hf
    go_enter Tryd.func14, Tryd.ntmps14
    go_wp2_with fail
    refine (far_yes Wd Hd ao n cap bo m bcap (by omega) (by omega) HF.out _).mono ?_
    rintro r w1 ⟨rfl, hb1⟩
    have HS1 := hid (HS.out.stays hb1)
    clear hb1
    go_wp2_with fail
    refine (known_any _ HS1.out.tab).mono ?_
    rintro r w2 ⟨rfl, hb2⟩
    have HS2 := hid (HS1.out.stays hb2)
    clear hb2
    go_wp2_with fail
    go_ret
    exact ⟨rfl, HS2.out.below⟩
  · have HF : Hid (n ≤ 3000 ∧ m ≤ 3000) := hid (by unfold Far at hf; omega)
    clear hf
    by_cases hk3 : 3000 < k
    · go_enter Tryd.func14, Tryd.ntmps14
      go_wp2_with fail
      refine (far_no Wd Hd ao n cap bo m bcap HF.out _).mono ?_
      rintro r w1 ⟨rfl, hb1⟩
      have HS1 := hid (HS.out.stays hb1)
      clear hb1
      go_wp2_with fail
      refine (known_any _ HS1.out.tab).mono ?_
      rintro r w2 ⟨rfl, hb2⟩
      have HS2 := hid (HS1.out.stays hb2)
      clear hb2
      go_wp2_with fail
      go_ret
      exact ⟨rfl, HS2.out.below⟩
    · have hk4 : k ≤ 3000 := by omega
      have HK := hid hk4
      clear hk3
      go_enter Tryd.func14, Tryd.ntmps14
      go_wp2_with fail
      refine (far_no Wd Hd ao n cap bo m bcap HF.out _).mono ?_
      rintro r w1 ⟨rfl, hb1⟩
      have HS1 := hid (HS.out.stays hb1)
      simp only [← hX]
      clear hb1 HS hX
      go_wp2_with fail
      go_region_held3 (fun w' => RB Wd Hd ao n cap Z bo m bcap B w w' ∧ w'.cell? ⟨X, 0, none⟩ = some (.int .i64 Wd) ∧ w'.cell? ⟨X, 1, none⟩ = some (.int .i64 Hd) ∧ w'.cell? ⟨X, 2, none⟩ = some (.slice ao n cap) ∧ w'.cell? ⟨X, 3, none⟩ = some (.slice bo m bcap))
        (first
          | exact rby_keep HX.out (And.intro HS1.out trivial) ((Below.refl _ _).drew)
          | exact rby_keep HX.out (by assumption) hb
          | assumption)
        (first
          | (go_at_call 37; (refine (refway_to Wd Hd ao n cap Z bo m bcap B hn hm lo k lcap HK.out S e HE.out _ (rbx_tab (by assumption)) (rbx_ints (by assumption)) (rby_bools (by assumption)) (rby_spots (by assumption) HSP.out)).mono ?_); rintro r w6 ⟨rfl, hb⟩)
          | (go_at_call 38; (refine (way_to Wd Hd ao n cap Z bo m bcap B hn hm lo k lcap HK.out S e HE.out _ (rbx_tab (by assumption)) (rbx_ints (by assumption)) (rby_bools (by assumption)) (rby_spots (by assumption) HSP.out)).mono ?_); rintro r w6 ⟨rfl, hb⟩)
          | (go_at_call 16; (refine (known_any _ (rbx_tab (by assumption))).mono ?_); rintro r w6 ⟨rfl, hb⟩))
      all_goals
        have HW3 : Hid (RB Wd Hd ao n cap Z bo m bcap B w _) := hid (rbx_of (by assumption))
        go_wp2_with fail
        go_ret
        exact ⟨rfl, HW3.out.below⟩
end Go.Proofs.YtlpmahdplilbiaaDoor
