/-
  rebuild, cost of the program; marked of the reference; what tells waters alike.
-/
import Derived.Test.YtkpnngpnjimogaaWCln
import Derived.Test.YtkpnngpnjimogaaWRNext
namespace Go.Proofs.Ytkpnngpnjimogaa
open Go.RowKit

/-- Kinds with one of them another. -/
def upK (K : Nat → Int) (t : Nat) (k : Int) : Nat → Int := fun j => if j = t then k else K j
theorem upK_same (K : Nat → Int) (t : Nat) (k : Int) : upK K t k t = k := by simp [upK]
theorem upK_other (K : Nat → Int) {t j : Nat} (k : Int) (h : j ≠ t) : upK K t k j = K j := by simp [upK, h]
theorem vals_upK (n : Nat) (K : Nat → Int) (t : Nat) (k : Int) : (vals n (iv K)).set t (.int .i64 k) = vals n (iv (upK K t k)) := by
  rw [vals_set]
  exact vals_congr fun i _ => by unfold iv upK; by_cases h : i = t <;> simp [h]
/-- Waters in memory of the call's own. -/
def WtR (m q : Nat) (K Y : Nat → Int) (w : World) (r : Ending) (w' : World) : Prop :=
  ∃ ko kc bo bc, r = .returned (.agg #[.slice ko m kc, .slice bo q bc]) ∧ w'.ownsRow w.heap.size 3 1 (.slice ko m kc) m (vals m (iv K)) ∧ w'.ownsRow w.heap.size 3 1 (.slice bo q bc) q (vals q (iv Y)) ∧ Below w.heap.size w w'
set_option maxHeartbeats 3200000 in
theorem rebuild_any (ko : Option Addr) (m kcap : Nat) (K : Nat → Int) (bo : Option Addr) (q bcap : Nat) (Y : Nat → Int) (hm : m ≤ 4000) (hq : q ≤ 4000) (t : Nat) (ht : t < m) (k : Int) (w : World) (hK : Ints w ko m K) (hY : Ints w bo q Y) :
    Calls Try.prog 47 #[.agg #[.slice ko m kcap, .slice bo q bcap], .int .i64 t, .int .i64 k] w (WtR m q (upK K t k) Y w) := by
  have hst := bx2_start w 26 26 #[.slice ko m kcap, .slice bo q bcap] #[.slice none 0 0, .slice none 0 0]
  have HK := hid (hK.stays hst.below)
  have HY := hid (hY.stays hst.below)
  have HST := hid hst
  have ht' : (t : Int) < (m : Int) := by omega
  clear hK hY hst
  go_enter Try.func47, Try.ntmps47
  go_wp2_with fail
  refine (wclone_any ko m kcap K bo q bcap Y hm hq _ HK.out HY.out).mono ?_
  rintro r w1 ⟨go, c, ho, d, N, rfl, hr1, hN, hr2, hNN, hb1⟩
  obtain ⟨g, c', e, _, hgl⟩ := hr1.form (by omega)
  cases e
  have H1 := hid (HST.out.stays hb1)
  obtain ⟨A, hA⟩ : ∃ A, A = w.heap.size := ⟨_, rfl⟩
  have HA := hid hA
  have hg1 := hr1.lt g rfl
  have hgN := hN g rfl
  simp at hg1 hNN
  obtain ⟨hg2, hg3⟩ := hg1
  have gN : g ≠ A ∧ g ≠ A + 1 := by omega
  obtain ⟨gA, gA1⟩ := gN
  have gA0 : A ≤ g := by omega
  have hNA : A + 2 ≤ N := by omega
  have HR1 := hid (row_mono (base' := A) hr1 (by simp; omega))
  have HR2 := hid hr2
  simp only [← hA] at H1 ⊢
  clear hA hb1 hr1 hr2 HST HK HY hg2 hNN hN
  have b0 : w1.cell? ⟨A, 0, none⟩ = some (.slice ko m kcap) := cell_of_row w1 A 0 _ _ _ H1.out.hb
  have b1 : w1.cell? ⟨A, 1, none⟩ = some (.slice bo q bcap) := cell_of_row w1 A 1 _ _ _ H1.out.hb
  have f0 : w1.frozen? ⟨A, 0, none⟩ = false := frozen_of_row w1 A 0 _ _ H1.out.hb
  have f1 : w1.frozen? ⟨A, 1, none⟩ = false := frozen_of_row w1 A 1 _ _ H1.out.hb
  go_upto_region 2 with fail
  have k1 := set2 H1.out.hb (.slice (some ⟨g, 0, none⟩) m c) (.slice ho q d)
  have k2 : ((w1.setCell ⟨A, 0, none⟩ (.slice (some ⟨g, 0, none⟩) m c)).setCell ⟨A, 1, none⟩ (.slice ho q d)).heap[A + 1]? = some (.cells #[.slice none 0 0, .slice none 0 0] 26 (0, 0)) :=
    (Below.heap_setCell _ _ _ (A + 1) (by simp)).trans ((Below.heap_setCell _ _ _ (A + 1) (by simp)).trans H1.out.hr)
  have k3 := set2_below (g := A) H1.out.below (Nat.le_refl _) (.slice (some ⟨g, 0, none⟩) m c) (.slice ho q d)
  have k4 := set2_row (g := A) HR1.out (by simp [Value.ownBlock]; omega) (.slice (some ⟨g, 0, none⟩) m c) (.slice ho q d)
  have k5 := set2_row (g := A) HR2.out (own_ne HR2.out (a := ⟨A, 0, none⟩) (by show A < N; omega)) (.slice (some ⟨g, 0, none⟩) m c) (.slice ho q d)
  clear b0 b1 f0 f1 H1 HR1 HR2
  have hg4 : g < ((w1.setCell ⟨A, 0, none⟩ (.slice (some ⟨g, 0, none⟩) m c)).setCell ⟨A, 1, none⟩ (.slice ho q d)).heap.size := by simpa using hg3
  generalize World.setCell _ _ _ = w2 at k1 k2 k3 k4 k5 hg4 ⊢
  have b0 : w2.cell? ⟨A, 0, none⟩ = some (.slice (some ⟨g, 0, none⟩) m c) := cell_of_row w2 A 0 _ _ _ k1
  have b1 : w2.cell? ⟨A, 1, none⟩ = some (.slice ho q d) := cell_of_row w2 A 1 _ _ _ k1
  have c1 := (k4.cellAt t (by omega)).trans (vals_get _ ht)
  have c2 := k4.frozenAt t
  have K1 := hid k1
  have K2 := hid k2
  have K3 := hid k3
  have K4 := hid k4
  have K5 := hid k5
  clear k1 k2 k3 k4 k5 hg3
  go_upto_region 3 with fail
  have k1 := (Below.heap_setCell w2 ⟨g, t, none⟩ (.int .i64 k) A (Ne.symm gA)).trans K1.out
  have k2 := (Below.heap_setCell w2 ⟨g, t, none⟩ (.int .i64 k) (A + 1) (Ne.symm gA1)).trans K2.out
  have k3 := K3.out.setCell (p := ⟨g, t, none⟩) gA0 (.int .i64 k)
  have k4 := K4.out.stored t (.int .i64 k)
  have k5 := row_other (a := ⟨g, t, none⟩) K5.out (own_ne K5.out (a := ⟨g, t, none⟩) hgN) (.int .i64 k)
  rw [vals_upK] at k4
  have k4 := k4.1
  clear K1 K2 K3 K4 K5 b0 b1 c1 c2
  generalize World.setCell _ _ _ = w3 at k1 k2 k3 k4 k5 ⊢
  have b0 : w3.cell? ⟨A, 0, none⟩ = some (.slice (some ⟨g, 0, none⟩) m c) := cell_of_row w3 A 0 _ _ _ k1
  have b1 : w3.cell? ⟨A, 1, none⟩ = some (.slice ho q d) := cell_of_row w3 A 1 _ _ _ k1
  have r0 : w3.cell? ⟨A + 1, 0, none⟩ = some (.slice none 0 0) := cell_of_row w3 (A + 1) 0 _ _ _ k2
  have r1 : w3.cell? ⟨A + 1, 1, none⟩ = some (.slice none 0 0) := cell_of_row w3 (A + 1) 1 _ _ _ k2
  have g0 : w3.frozen? ⟨A + 1, 0, none⟩ = false := frozen_of_row w3 (A + 1) 0 _ _ k2
  have g1 : w3.frozen? ⟨A + 1, 1, none⟩ = false := frozen_of_row w3 (A + 1) 1 _ _ k2
  have K2 := hid k2
  have K3 := hid k3
  have K4 := hid k4
  have K5 := hid k5
  clear k1 k2 k3 k4 k5
  go_wp2_with fail
  have k3 := set2 K2.out (.slice (some ⟨g, 0, none⟩) m c) (.slice ho q d)
  have k4 := set2_below (g := A + 1) K3.out (Nat.le_succ _) (.slice (some ⟨g, 0, none⟩) m c) (.slice ho q d)
  have k5 := set2_row (g := A + 1) K4.out (by simp [Value.ownBlock]; omega) (.slice (some ⟨g, 0, none⟩) m c) (.slice ho q d)
  have k6 := set2_row (g := A + 1) K5.out (own_ne K5.out (a := ⟨A + 1, 0, none⟩) (by show A + 1 < N; omega)) (.slice (some ⟨g, 0, none⟩) m c) (.slice ho q d)
  clear b0 b1 r0 r1 g0 g1
  generalize World.setCell _ _ _ = w5 at k3 k4 k5 k6 ⊢
  have q0 := cell_of_row w5 (A + 1) 0 _ _ _ k3
  have q1 := cell_of_row w5 (A + 1) 1 _ _ _ k3
  simp at q0 q1
  refine bodyPost_ret (v := .agg #[.slice (some ⟨g, 0, none⟩) m c, .slice ho q d]) (by simp [results, Try.results47, go_sem, q0, q1]) rfl ⟨some ⟨g, 0, none⟩, c, ho, d, rfl, ?_, ?_, ?_⟩
  · rw [← HA.out]; exact k5
  · rw [← HA.out]; exact row_mono k6 (by omega)
  · rw [← HA.out]; exact k4
/-- What digging costs. -/
def costK (k : Int) : Int := if k = 2 then 2000 else if k = 3 then 1000 else 500
set_option maxHeartbeats 800000 in
theorem cost_any (k : Int) (w : World) : Calls Try.prog 48 #[.int .i64 k] w fun e w' => e = .returned (.int .i64 (costK k)) ∧ w = w' := by
  unfold costK
  by_cases h2 : k = 2
  · rw [if_pos h2]
    go_enter Try.func48, Try.ntmps48
    go_wp2
    go_ret
    exact ⟨rfl, rfl⟩
  · rw [if_neg h2]
    by_cases h3 : k = 3
    · rw [if_pos h3]
      go_enter Try.func48, Try.ntmps48
      go_wp2
      go_ret
      exact ⟨rfl, rfl⟩
    · rw [if_neg h3]
      have g2 : (k == 2) = false := by simpa using h2
      have g3 : (k == 3) = false := by simpa using h3
      go_enter Try.func48, Try.ntmps48
      go_wp2
      go_ret
      exact ⟨rfl, rfl⟩
/-- Whether a number is among the first n of a row. -/
def memK (n : Nat) (Y : Nat → Int) (t : Int) : Bool := (List.range n).any fun i => decide (Y i = t)
theorem memK_yes {n i : Nat} {Y : Nat → Int} {t : Int} (hi : i < n) (h : Y i = t) : memK n Y t = true := by
  unfold memK; rw [List.any_eq_true]; exact ⟨i, List.mem_range.2 hi, by simp [h]⟩
theorem memK_no {n : Nat} {Y : Nat → Int} {t : Int} (h : ∀ i, i < n → Y i ≠ t) : memK n Y t = false := by
  unfold memK; rw [List.any_eq_false]; exact fun i hi => by simpa using h i (List.mem_range.1 hi)
set_option maxRecDepth 20000 in
set_option maxHeartbeats 1600000 in
theorem marked_any (ko : Option Addr) (m kcap : Nat) (bo : Option Addr) (q bcap : Nat) (Y : Nat → Int) (hq : q ≤ 4000) (t : Int) (r : Bool) (hr : r = memK q Y t) (w : World) (hY : Ints w bo q Y) :
    Calls Try.prog 52 #[.agg #[.slice ko m kcap, .slice bo q bcap], .int .i64 t] w fun e w' => e = .returned (.bool r) ∧ Below w.heap.size w w' := by
  have HB := hid (Joins.below_alloc1 w (.cells #[.slice ko m kcap, .slice bo q bcap] 26))
  have HY := hid (hY.stays HB.out)
  have HR := hid hr
  clear hY hr
  go_enter Try.func52, Try.ntmps52
  go_wp2_with fail
  generalize World.alloc _ _ = w1 at HB HY ⊢
  go_loop [10] (fun iv => ∃ j : Nat, j ≤ q ∧ iv = .int .i64 j ∧ Hid (∀ i, i < j → Y i ≠ t)) (fun iv => q - (intOf iv).toNat)
  case atStart => exact ⟨0, Nat.zero_le _, rfl, hid (fun i hi => absurd hi (Nat.not_lt_zero i))⟩
  case round =>
    obtain ⟨j, hj, rfl, hk⟩ := hrel
    by_cases hlt : j < q
    · obtain ⟨b, off, rfl, hz, hc⟩ := HY.out j hlt
      obtain ⟨x, hx⟩ : ∃ x, x = Y j := ⟨_, rfl⟩
      rw [← hx] at hc
      have HX := hid hx
      clear hx
      by_cases he : x = t
      · subst he
        obtain rfl : r = true := HR.out.trans (memK_yes hlt HX.out.symm)
        go_wp2_with fail
        go_ret
        exact ⟨rfl, HB.out⟩
      · have g1 : (x == t) = false := by simpa using he
        have HE := hid he
        clear he
        go_wp2_with fail
        go_round
        case rel =>
          refine ⟨j + 1, by omega, by go_num, hid (fun i hi => ?_)⟩
          by_cases h : i < j
          · exact hk.out i h
          · obtain rfl : i = j := by omega
            rw [← HX.out]; exact HE.out
        case measure => simp [intOf]; omega
    · obtain rfl : j = q := by omega
      obtain rfl : r = false := HR.out.trans (memK_no hk.out)
      go_wp2_with fail
      go_ret
      exact ⟨rfl, HB.out⟩
set_option maxHeartbeats 1600000 in
theorem waters_same (a1 a2 b1 b2 : Option Addr) (m q c1 c2 d1 d2 : Nat) (K Y : Nat → Int) (hm : m ≤ 9223372036854775807) (hq : q ≤ 9223372036854775807) (w : World) (h1 : Ints w a1 m K) (h2 : Ints w a2 q Y) (h3 : Ints w b1 m K) (h4 : Ints w b2 q Y) :
    Calls Try.prog 20 #[.agg #[.slice a1 m c1, .slice a2 q c2], .agg #[.slice b1 m d1, .slice b2 q d2]] w fun e w' => e = .returned (.bool true) ∧ Below w.heap.size w w' := by
  have hst := Joins.below_alloc2 w (.cells #[.slice a1 m c1, .slice a2 q c2] 26) (.cells #[.slice b1 m d1, .slice b2 q d2] 26)
  have hbx := bx2_start w 26 26 #[.slice a1 m c1, .slice a2 q c2] #[.slice b1 m d1, .slice b2 q d2]
  have HX := hid hbx
  have H1 := hid (h1.stays hst)
  have H2 := hid (h2.stays hst)
  have H3 := hid (h3.stays hst)
  have H4 := hid (h4.stays hst)
  obtain ⟨A, hA⟩ : ∃ A, A = w.heap.size := ⟨_, rfl⟩
  have HA := hid hA
  clear h1 h2 h3 h4 hst hbx
  go_enter Try.func20, Try.ntmps20
  go_wp2_with fail
  simp only [← hA] at HX ⊢
  clear hA
  refine (ints_same a1 b1 m c1 d1 K hm _ H1.out H3.out).mono ?_
  rintro r w1 ⟨rfl, hb1⟩
  have HX1 := hid (HX.out.stays hb1)
  have H2' := hid (H2.out.stays hb1)
  have H4' := hid (H4.out.stays hb1)
  clear hb1 HX H1 H2 H3 H4
  have x0 : w1.cell? ⟨A, 1, none⟩ = some (.slice a2 q c2) := cell_of_row w1 A 1 _ _ _ HX1.out.hb
  have x1 : w1.cell? ⟨A + 1, 1, none⟩ = some (.slice b2 q d2) := cell_of_row w1 (A + 1) 1 _ _ _ HX1.out.hr
  go_wp2_with fail
  refine (ints_same a2 b2 q c2 d2 Y hq _ H2'.out H4'.out).mono ?_
  rintro r w2 ⟨rfl, hb2⟩
  have HX2 := hid (HX1.out.stays hb2)
  clear hb2
  go_wp2_with fail
  go_ret
  exact ⟨rfl, by rw [← HA.out]; exact HX2.out.below⟩
end Go.Proofs.Ytkpnngpnjimogaa
