/-
  The walks of Clone and clone of the program: streets in memory of their own.
-/
import Derived.Test.YtaepiegbpgkciaaArms
namespace Go.Proofs.Ytaepiegbpgkciaa
open Go.RowKit

set_option maxHeartbeats 1600000 in
theorem cloneI_any (ao : Option Addr) (n cap : Nat) (F : Nat → Value) (hn1 : 0 < n) (hn : n ≤ 1089) (hF : ∀ j, j < n → (F j).oneCell' = true) (w : World) (hI : Vals w ao n F) : Calls Try.prog 66 #[.slice ao n cap] w fun r w' =>
    ∃ g c, r = .returned (.slice (some ⟨g, 0, none⟩) n c) ∧ w'.ownsRow w.heap.size 3 1 (.slice (some ⟨g, 0, none⟩) n c) n (vals n F) ∧ Below w.heap.size w w' := by
  obtain ⟨i0, hi, hz0, hz1, hz2⟩ := info_parts info3
  have HIN := hid (And.intro hi (And.intro hz0 (And.intro hz1 hz2)))
  clear hi hz0 hz1 hz2
  obtain ⟨b, off, rfl, hbz, hcell⟩ := hI.one hn1
  have HC := hid hcell
  have HF := hid hF
  clear hcell hI hF
  have q22 : ∀ (w : World) (a : Option Addr) (n c n' c' : Nat), (binOp .eql 22 (.slice a n c) (.slice none n' c')).run Try.prog w = .ok (.bool a.isNone) w := fun w a n c n' c' => Lib.run_eql_slice_nil w _ _ a n c n' c' Try.underlying22
  have u22 : ∀ w, Sem.run Try.prog (underlying 22) w = .ok (TypeDesc.slice 3) w := run_underlying Try.underlying22
  go_enter Try.func66, Try.ntmps66
  go_wp2_with (at_builtin; refine wpList_append_own _ rfl _ _ 22 rfl w.heap.size 3 i0 (.int .i64 0) 1 8 Try.underlying22 HIN.out.1 HIN.out.2.1 HIN.out.2.2.1 HIN.out.2.2.2 rfl (by decide) _ _ _ rfl (World.ownsRow_made w #[] 0 (Nat.le_refl _) (Nat.zero_le _) rfl) ⟨b, off, none⟩ n cap (vals n F) rfl ?qc1 ?qc2 ?qc3 ?qc4 ?qc5 ?qc6 ?_)
  case qc1 => simp [vals_length]
  case qc2 =>
    intro j u hj
    have hjn : j < n := by have := (List.getElem?_eq_some_iff.1 hj).1; rwa [vals_length] at this
    rw [vals_get _ hjn] at hj
    rw [Addr.add_lit, World.cell?_alloc_past _ _ _ hbz, HC.out j hjn]
    exact hj
  case qc3 =>
    intro u hu
    obtain ⟨x, hx, rfl⟩ := List.mem_map.1 hu
    exact HF.out x (by simpa using hx)
  case qc4 => unfold maxLen; omega
  case qc5 => omega
  case qc6 => simp
  intro v' w1 hown hgrow hnil
  have hown' : w1.ownsRow w.heap.size 3 1 v' n (vals n F) := by simpa using hown
  obtain ⟨g, c, rfl, _, _⟩ := hown'.form (by omega)
  have HO := hid hown'
  have HG := hid hgrow
  clear hown hown' hgrow hnil
  go_wp2
  go_ret
  refine ⟨g, c, rfl, HO.out, ?_⟩
  exact ((Below.refl _ w).alloc (Nat.le_refl _) _).grown HG.out (by simp) (by intro k hk; simp [Value.ownBlock] at hk; omega)

theorem set4_row {w : World} {g B : Nat} {e : TypeId} {size n : Nat} {v : Value} {xs : List Value} (h : w.ownsRow B e size v n xs) (hv : v.ownBlock ≠ some g) (a b c d : Value) :
    ((((w.setCell ⟨g, 0, none⟩ a).setCell ⟨g, 1, none⟩ b).setCell ⟨g, 2, none⟩ c).setCell ⟨g, 3, none⟩ d).ownsRow B e size v n xs :=
  row_other (a := ⟨g, 3, none⟩) (row_other (a := ⟨g, 2, none⟩) (row_other (a := ⟨g, 1, none⟩) (row_other (a := ⟨g, 0, none⟩) h hv a) hv b) hv c) hv d
/-- Streets in memory of the call's own. -/
def Cloned (W H : Int) (n : Nat) (Z Y : Nat → Int) (w : World) (r : Ending) (w' : World) : Prop :=
  ∃ g c k d, r = .returned (rv W H (.slice (some ⟨g, 0, none⟩) n c) (.slice (some ⟨k, 0, none⟩) n d)) ∧ w'.ownsRow w.heap.size 3 1 (.slice (some ⟨g, 0, none⟩) n c) n (vals n (iv Z)) ∧
    w'.ownsRow w.heap.size 3 1 (.slice (some ⟨k, 0, none⟩) n d) n (vals n (iv Y)) ∧ g ≠ k ∧ Below w.heap.size w w'

set_option maxHeartbeats 3200000 in
theorem clone_any (W H : Int) (ao : Option Addr) (n cap : Nat) (Z : Nat → Int) (bo : Option Addr) (bcap : Nat) (Y : Nat → Int) (hn1 : 0 < n) (hn : n ≤ 1089) (w : World) (hI : Ints w ao n Z) (hB : Ints w bo n Y) :
    Calls Try.prog 53 #[rv W H (.slice ao n cap) (.slice bo n bcap)] w (Cloned W H n Z Y w) := by
  have hst := bx2_start w 24 24 #[.int .i64 W, .int .i64 H, .slice ao n cap, .slice bo n bcap] #[.int .i64 0, .int .i64 0, .slice none 0 0, .slice none 0 0]
  have HI := hid (hI.stays hst.below)
  have HB0 := hid hB
  have HST := hid hst
  clear hI hB hst
  go_enter Try.func53, Try.ntmps53
  go_wp2_with fail
  refine (cloneI_any ao n cap (iv Z) hn1 hn (fun _ _ => rfl) _ HI.out).mono ?_
  rintro r w1 ⟨g, c, rfl, hr1, hb1⟩
  have H1 := hid (HST.out.stays hb1)
  have HR1 := hid hr1
  obtain ⟨A, hA⟩ : ∃ A, A = w.heap.size := ⟨_, rfl⟩
  have HA := hid hA
  have hgA : A + 1 < g ∧ g < w1.heap.size := by have := hr1.lt g rfl; simp at this; omega
  simp only [← hA] at H1 ⊢
  clear hA hb1 hr1 HST HI
  obtain ⟨hg1, hg2⟩ := hgA
  have b0 : w1.cell? ⟨A, 0, none⟩ = some (.int .i64 W) := cell_of_row w1 A 0 _ _ _ H1.out.hb
  have b1 : w1.cell? ⟨A, 1, none⟩ = some (.int .i64 H) := cell_of_row w1 A 1 _ _ _ H1.out.hb
  have b2 : w1.cell? ⟨A, 2, none⟩ = some (.slice ao n cap) := cell_of_row w1 A 2 _ _ _ H1.out.hb
  have b3 : w1.cell? ⟨A, 3, none⟩ = some (.slice bo n bcap) := cell_of_row w1 A 3 _ _ _ H1.out.hb
  have f2 : w1.frozen? ⟨A, 2, none⟩ = false := frozen_of_row w1 A 2 _ _ H1.out.hb
  go_wp2_with fail
  have HR2 := hid (row_other (a := ⟨A, 2, none⟩) HR1.out (by simp [Value.ownBlock]; omega) (.slice (some ⟨g, 0, none⟩) n c))
  have hb2 : (w1.setCell ⟨A, 2, none⟩ (.slice (some ⟨g, 0, none⟩) n c)).heap[A]? = some (.cells #[.int .i64 W, .int .i64 H, .slice (some ⟨g, 0, none⟩) n c, .slice bo n bcap] 24 (0, 0)) := heap_setCell_same _ _ 2 _ _ _ H1.out.hb
  have hr2 : (w1.setCell ⟨A, 2, none⟩ (.slice (some ⟨g, 0, none⟩) n c)).heap[A + 1]? = some (.cells #[.int .i64 0, .int .i64 0, .slice none 0 0, .slice none 0 0] 24 (0, 0)) := (Below.heap_setCell _ _ _ (A + 1) (by simp)).trans H1.out.hr
  have hw2 := H1.out.below.setCell (p := ⟨A, 2, none⟩) (Nat.le_refl _) (.slice (some ⟨g, 0, none⟩) n c)
  have HV2 := hid (HB0.out.stays (by rw [← HA.out]; exact hw2))
  have HX2 : Hid (Bx2 A 24 24 #[.int .i64 W, .int .i64 H, .slice (some ⟨g, 0, none⟩) n c, .slice bo n bcap] #[.int .i64 0, .int .i64 0, .slice none 0 0, .slice none 0 0] w (w1.setCell ⟨A, 2, none⟩ (.slice (some ⟨g, 0, none⟩) n c))) := hid ⟨hw2, hb2, hr2⟩
  have hg3 : g < (w1.setCell ⟨A, 2, none⟩ (.slice (some ⟨g, 0, none⟩) n c)).heap.size := by simpa using hg2
  clear hb2 hr2 hw2 b0 b1 b2 b3 f2 H1 HR1 hg2
  generalize w1.setCell _ _ = w2 at HR2 HV2 HX2 hg3 ⊢
  refine (cloneI_any bo n bcap (iv Y) hn1 hn (fun _ _ => rfl) _ HV2.out).mono ?_
  rintro r w3 ⟨k, d, rfl, hr3, hb3⟩
  have hk := hr3.lt k rfl
  have HR3 := hid (row_mono (base' := A) hr3 (by omega))
  have HG3 := hid (row_mono (base' := A) (row_stays HR2.out hb3) (by have := HA.out; simp; omega))
  have H3 := hid (HX2.out.stays hb3)
  obtain ⟨hk1, hk2⟩ := hk
  have hgk : g ≠ k := by omega
  have hkA : A + 1 < k := by omega
  clear hr3 hb3 HR2 HV2 HX2
  have b0 : w3.cell? ⟨A, 0, none⟩ = some (.int .i64 W) := cell_of_row w3 A 0 _ _ _ H3.out.hb
  have b1 : w3.cell? ⟨A, 1, none⟩ = some (.int .i64 H) := cell_of_row w3 A 1 _ _ _ H3.out.hb
  have b2 : w3.cell? ⟨A, 2, none⟩ = some (.slice (some ⟨g, 0, none⟩) n c) := cell_of_row w3 A 2 _ _ _ H3.out.hb
  have b3 : w3.cell? ⟨A, 3, none⟩ = some (.slice bo n bcap) := cell_of_row w3 A 3 _ _ _ H3.out.hb
  have f3 : w3.frozen? ⟨A, 3, none⟩ = false := frozen_of_row w3 A 3 _ _ H3.out.hb
  have r0 : w3.cell? ⟨A + 1, 0, none⟩ = some (.int .i64 0) := cell_of_row w3 (A + 1) 0 _ _ _ H3.out.hr
  have r1 : w3.cell? ⟨A + 1, 1, none⟩ = some (.int .i64 0) := cell_of_row w3 (A + 1) 1 _ _ _ H3.out.hr
  have r2 : w3.cell? ⟨A + 1, 2, none⟩ = some (.slice none 0 0) := cell_of_row w3 (A + 1) 2 _ _ _ H3.out.hr
  have r3 : w3.cell? ⟨A + 1, 3, none⟩ = some (.slice none 0 0) := cell_of_row w3 (A + 1) 3 _ _ _ H3.out.hr
  have g0 : w3.frozen? ⟨A + 1, 0, none⟩ = false := frozen_of_row w3 (A + 1) 0 _ _ H3.out.hr
  have g1 : w3.frozen? ⟨A + 1, 1, none⟩ = false := frozen_of_row w3 (A + 1) 1 _ _ H3.out.hr
  have g2 : w3.frozen? ⟨A + 1, 2, none⟩ = false := frozen_of_row w3 (A + 1) 2 _ _ H3.out.hr
  have g3 : w3.frozen? ⟨A + 1, 3, none⟩ = false := frozen_of_row w3 (A + 1) 3 _ _ H3.out.hr
  go_wp2_with fail
  have k2 : (w3.setCell ⟨A, 3, none⟩ (.slice (some ⟨k, 0, none⟩) n d)).heap[A + 1]? = some (.cells #[.int .i64 0, .int .i64 0, .slice none 0 0, .slice none 0 0] 24 (0, 0)) :=
    (Below.heap_setCell _ _ _ (A + 1) (by simp)).trans H3.out.hr
  have k3 := set4 k2 (.int .i64 W) (.int .i64 H) (.slice (some ⟨g, 0, none⟩) n c) (.slice (some ⟨k, 0, none⟩) n d)
  have k4 := set4_below (g := A + 1) (H3.out.below.setCell (p := ⟨A, 3, none⟩) (Nat.le_refl _) (.slice (some ⟨k, 0, none⟩) n d)) (Nat.le_succ _) (.int .i64 W) (.int .i64 H) (.slice (some ⟨g, 0, none⟩) n c) (.slice (some ⟨k, 0, none⟩) n d)
  have k5 := set4_row (g := A + 1) (row_other (a := ⟨A, 3, none⟩) HG3.out (by simp [Value.ownBlock]; omega) (.slice (some ⟨k, 0, none⟩) n d)) (by simp [Value.ownBlock]; omega) (.int .i64 W) (.int .i64 H) (.slice (some ⟨g, 0, none⟩) n c) (.slice (some ⟨k, 0, none⟩) n d)
  have k6 := set4_row (g := A + 1) (row_other (a := ⟨A, 3, none⟩) HR3.out (by simp [Value.ownBlock]; omega) (.slice (some ⟨k, 0, none⟩) n d)) (by simp [Value.ownBlock]; omega) (.int .i64 W) (.int .i64 H) (.slice (some ⟨g, 0, none⟩) n c) (.slice (some ⟨k, 0, none⟩) n d)
  clear b0 b1 b2 b3 f3 r0 r1 r2 r3 g0 g1 g2 g3 k2
  generalize World.setCell _ _ _ = w5 at k3 k4 k5 k6 ⊢
  have q0 := cell_of_row w5 (A + 1) 0 _ _ _ k3
  have q1 := cell_of_row w5 (A + 1) 1 _ _ _ k3
  have q2 := cell_of_row w5 (A + 1) 2 _ _ _ k3
  have q3 := cell_of_row w5 (A + 1) 3 _ _ _ k3
  simp at q0 q1 q2 q3
  refine bodyPost_ret (v := rv W H (.slice (some ⟨g, 0, none⟩) n c) (.slice (some ⟨k, 0, none⟩) n d)) (by simp [results, Try.results53, go_sem, q0, q1, q2, q3]) rfl ⟨g, c, k, d, rfl, ?_, ?_, hgk, ?_⟩
  · rw [← HA.out]; exact k5
  · rw [← HA.out]; exact k6
  · rw [← HA.out]; exact k4

end Go.Proofs.Ytaepiegbpgkciaa
