/-
  Waters in memory of a call's own: Clone, clone, rebuild, cost of the program.
-/
import Derived.Test.YtkpnngpnjimogaaWLawJnd
import Derived.Test.YtkpnngpnjimogaaWShelf
import Derived.Deep.RegionHeld3
namespace Go.Proofs.Ytkpnngpnjimogaa
open Go.RowKit

theorem own_ne {w : World} {B : Nat} {e : TypeId} {size n : Nat} {v : Value} {xs : List Value} (h : w.ownsRow B e size v n xs) {a : Addr} (ha : a.block < B) : v.ownBlock ≠ some a.block := fun hk => by
  have := (h.lt _ hk).1; omega
theorem ints_of_vals {w : World} {B n cap : Nat} {ao : Option Addr} {Z : Nat → Int} (h : w.ownsRow B 3 1 (.slice ao n cap) n (vals n (iv Z))) : Ints w ao n Z := fun j hj => by
  obtain ⟨g, c, e, _, hl⟩ := h.form (by omega)
  cases e
  exact ⟨g, 0, rfl, hl, by rw [Nat.zero_add, h.cellAt j (by omega), vals_get _ hj]⟩
/-- Clone, of any slice of numbers. -/
theorem clone_ints (ao : Option Addr) (n cap : Nat) (Z : Nat → Int) (hn : n ≤ 4000) (w : World) (hI : Ints w ao n Z) : Calls Try.prog 86 #[.slice ao n cap] w fun r w' =>
    ∃ bo c, r = .returned (.slice bo n c) ∧ w'.ownsRow w.heap.size 3 1 (.slice bo n c) n (vals n (iv Z)) ∧ Below w.heap.size w w' := by
  by_cases h0 : n = 0
  · subst h0
    cases ao with
    | none =>
      refine (Try.slices_Clone_int_nil 0 cap w).mono ?_
      rintro r w' ⟨rfl, rfl⟩
      exact ⟨none, 0, rfl, World.ownsRow_nil _ _ _ _, Below.refl _ _⟩
    | some a =>
      refine (Try.slices_Clone_int_zero a cap w).mono ?_
      rintro r w' ⟨v, rfl, hr, _, hb⟩
      obtain ⟨bo, c, rfl⟩ := row_slice hr
      exact ⟨bo, c, rfl, hr, hb⟩
  · obtain ⟨b, off, rfl, hz, hc⟩ := hI.one (by omega)
    have h := Try.slices_Clone_int b off n cap ((List.range n).map Z) w (by simp) (by omega) (fun j hj => by
      have hj : j < n := by simpa using hj
      rw [hc j hj]; simp [List.getD, hj])
    refine h.mono ?_
    rintro r w' ⟨v, rfl, hr, _, hb⟩
    obtain ⟨bo, c, rfl⟩ := row_slice hr
    refine ⟨bo, c, rfl, ?_, hb⟩
    have e : ((List.range n).map Z).take n = (List.range n).map Z := List.take_of_length_le (by simp)
    rw [e, List.map_map] at hr
    exact hr
theorem set2 {w : World} {g : Nat} {t : TypeId} {p q : Value} (h : w.heap[g]? = some (.cells #[p, q] t (0, 0))) (a b : Value) :
    ((w.setCell ⟨g, 0, none⟩ a).setCell ⟨g, 1, none⟩ b).heap[g]? = some (.cells #[a, b] t (0, 0)) :=
  heap_setCell_same _ g 1 _ _ b (heap_setCell_same _ g 0 _ _ a h)
theorem set2_below {w wr : World} {B g : Nat} (h : Below B w wr) (hg : B ≤ g) (a b : Value) : Below B w ((wr.setCell ⟨g, 0, none⟩ a).setCell ⟨g, 1, none⟩ b) :=
  (h.setCell (p := ⟨g, 0, none⟩) hg a).setCell (p := ⟨g, 1, none⟩) hg b
theorem set2_row {w : World} {g B : Nat} {e : TypeId} {size n : Nat} {v : Value} {xs : List Value} (h : w.ownsRow B e size v n xs) (hv : v.ownBlock ≠ some g) (a b : Value) :
    ((w.setCell ⟨g, 0, none⟩ a).setCell ⟨g, 1, none⟩ b).ownsRow B e size v n xs :=
  row_other (a := ⟨g, 1, none⟩) (row_other (a := ⟨g, 0, none⟩) h hv a) hv b
/-- Waters in two rows of the call's own, the second behind the first. -/
def Clnd (m q : Nat) (K Y : Nat → Int) (w : World) (r : Ending) (w' : World) : Prop :=
  ∃ ko kc bo bc N, r = .returned (.agg #[.slice ko m kc, .slice bo q bc]) ∧ w'.ownsRow w.heap.size 3 1 (.slice ko m kc) m (vals m (iv K)) ∧ (∀ k, (Value.slice ko m kc).ownBlock = some k → k < N) ∧
    w'.ownsRow N 3 1 (.slice bo q bc) q (vals q (iv Y)) ∧ w.heap.size ≤ N ∧ Below w.heap.size w w'
set_option maxHeartbeats 3200000 in
theorem wclone_any (ko : Option Addr) (m kcap : Nat) (K : Nat → Int) (bo : Option Addr) (q bcap : Nat) (Y : Nat → Int) (hm : m ≤ 4000) (hq : q ≤ 4000) (w : World) (hK : Ints w ko m K) (hY : Ints w bo q Y) :
    Calls Try.prog 60 #[.agg #[.slice ko m kcap, .slice bo q bcap]] w (Clnd m q K Y w) := by
  have hst := bx2_start w 26 26 #[.slice ko m kcap, .slice bo q bcap] #[.slice none 0 0, .slice none 0 0]
  have HI := hid (hK.stays hst.below)
  have HB0 := hid hY
  have HST := hid hst
  clear hK hY hst
  go_enter Try.func60, Try.ntmps60
  go_wp2_with fail
  refine (clone_ints ko m kcap K hm _ HI.out).mono ?_
  rintro r w1 ⟨go, c, rfl, hr1, hb1⟩
  have H1 := hid (HST.out.stays hb1)
  obtain ⟨A, hA⟩ : ∃ A, A = w.heap.size := ⟨_, rfl⟩
  have HA := hid hA
  have HR1 := hid hr1
  have hgA : ∀ k, (Value.slice go m c).ownBlock = some k → A + 1 < k ∧ k < w1.heap.size := fun k hk => by have := hr1.lt k hk; simp at this; omega
  have HGA := hid hgA
  simp only [← hA] at H1 ⊢
  clear hA hb1 hr1 HST HI hgA
  have b0 : w1.cell? ⟨A, 0, none⟩ = some (.slice ko m kcap) := cell_of_row w1 A 0 _ _ _ H1.out.hb
  have b1 : w1.cell? ⟨A, 1, none⟩ = some (.slice bo q bcap) := cell_of_row w1 A 1 _ _ _ H1.out.hb
  have f0 : w1.frozen? ⟨A, 0, none⟩ = false := frozen_of_row w1 A 0 _ _ H1.out.hb
  go_wp2_with fail
  have HR2 := hid (row_other (a := ⟨A, 0, none⟩) HR1.out (own_ne HR1.out (by have := HA.out; simp; omega)) (.slice go m c))
  have hb2 : (w1.setCell ⟨A, 0, none⟩ (.slice go m c)).heap[A]? = some (.cells #[.slice go m c, .slice bo q bcap] 26 (0, 0)) := heap_setCell_same _ _ 0 _ _ _ H1.out.hb
  have hr2 : (w1.setCell ⟨A, 0, none⟩ (.slice go m c)).heap[A + 1]? = some (.cells #[.slice none 0 0, .slice none 0 0] 26 (0, 0)) := (Below.heap_setCell _ _ _ (A + 1) (by simp)).trans H1.out.hr
  have hw2 := H1.out.below.setCell (p := ⟨A, 0, none⟩) (Nat.le_refl _) (.slice go m c)
  have HV2 := hid (HB0.out.stays (by rw [← HA.out]; exact hw2))
  have HX2 : Hid (Bx2 A 26 26 #[.slice go m c, .slice bo q bcap] #[.slice none 0 0, .slice none 0 0] w (w1.setCell ⟨A, 0, none⟩ (.slice go m c))) := hid ⟨hw2, hb2, hr2⟩
  have HG2 : Hid (∀ k, (Value.slice go m c).ownBlock = some k → A + 1 < k ∧ k < (w1.setCell ⟨A, 0, none⟩ (.slice go m c)).heap.size) := hid (fun k hk => by simpa using HGA.out k hk)
  clear hb2 hr2 hw2 b0 b1 f0 H1 HR1 HGA
  generalize w1.setCell _ _ = w2 at HR2 HV2 HX2 HG2 ⊢
  refine (clone_ints bo q bcap Y hq _ HV2.out).mono ?_
  rintro r w3 ⟨ho, d, rfl, hr3, hb3⟩
  have HR3 := hid hr3
  have HG3 := hid (row_mono (base' := A) (row_stays HR2.out hb3) (by have := HA.out; simp; omega))
  have H3 := hid (HX2.out.stays hb3)
  have hA2 : A + 1 < w2.heap.size := heap_lt HX2.out.hr
  clear hr3 hb3 HR2 HV2 HX2
  have b0 : w3.cell? ⟨A, 0, none⟩ = some (.slice go m c) := cell_of_row w3 A 0 _ _ _ H3.out.hb
  have b1 : w3.cell? ⟨A, 1, none⟩ = some (.slice bo q bcap) := cell_of_row w3 A 1 _ _ _ H3.out.hb
  have f1 : w3.frozen? ⟨A, 1, none⟩ = false := frozen_of_row w3 A 1 _ _ H3.out.hb
  have r0 : w3.cell? ⟨A + 1, 0, none⟩ = some (.slice none 0 0) := cell_of_row w3 (A + 1) 0 _ _ _ H3.out.hr
  have r1 : w3.cell? ⟨A + 1, 1, none⟩ = some (.slice none 0 0) := cell_of_row w3 (A + 1) 1 _ _ _ H3.out.hr
  have g0 : w3.frozen? ⟨A + 1, 0, none⟩ = false := frozen_of_row w3 (A + 1) 0 _ _ H3.out.hr
  have g1 : w3.frozen? ⟨A + 1, 1, none⟩ = false := frozen_of_row w3 (A + 1) 1 _ _ H3.out.hr
  go_wp2_with fail
  have k2 : (w3.setCell ⟨A, 1, none⟩ (.slice ho q d)).heap[A + 1]? = some (.cells #[.slice none 0 0, .slice none 0 0] 26 (0, 0)) :=
    (Below.heap_setCell _ _ _ (A + 1) (by simp)).trans H3.out.hr
  have k3 := set2 k2 (.slice go m c) (.slice ho q d)
  have k4 := set2_below (g := A + 1) (H3.out.below.setCell (p := ⟨A, 1, none⟩) (Nat.le_refl _) (.slice ho q d)) (Nat.le_succ _) (.slice go m c) (.slice ho q d)
  have gA : ∀ i : Nat, i ≤ A + 1 → (Value.slice go m c).ownBlock ≠ some i := fun i hi hk => by have := (HG2.out i hk).1; omega
  have hA3 : ∀ i : Nat, i ≤ A + 1 → (Value.slice ho q d).ownBlock ≠ some i := fun i hi hk => by have := (HR3.out.lt i hk).1; omega
  have k5 := set2_row (g := A + 1) (row_other (a := ⟨A, 1, none⟩) HG3.out (gA A (by omega)) (.slice ho q d)) (gA (A + 1) (by omega)) (.slice go m c) (.slice ho q d)
  have k6 := set2_row (g := A + 1) (row_other (a := ⟨A, 1, none⟩) HR3.out (hA3 A (by omega)) (.slice ho q d)) (hA3 (A + 1) (by omega)) (.slice go m c) (.slice ho q d)
  clear b0 b1 f1 r0 r1 g0 g1 k2
  generalize World.setCell _ _ _ = w5 at k3 k4 k5 k6 ⊢
  have q0 := cell_of_row w5 (A + 1) 0 _ _ _ k3
  have q1 := cell_of_row w5 (A + 1) 1 _ _ _ k3
  simp at q0 q1
  refine bodyPost_ret (v := .agg #[.slice go m c, .slice ho q d]) (by simp [results, Try.results60, go_sem, q0, q1]) rfl ⟨go, c, ho, d, w2.heap.size, rfl, ?_, fun k hk => (HG2.out k hk).2, k6, ?_, ?_⟩
  · rw [← HA.out]; exact k5
  · have := HA.out; omega
  · rw [← HA.out]; exact k4
end Go.Proofs.Ytkpnngpnjimogaa
