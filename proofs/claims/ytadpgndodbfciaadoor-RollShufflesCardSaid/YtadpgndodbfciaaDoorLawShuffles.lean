/-
  The walk of the law on the order in which numbers come.
-/
import Derived.Test.YtadpgndodbfciaaDoorWalkRefShuf
namespace Go.Proofs.YtadpgndodbfciaaDoor
open Go.RowKit

/-- Two slices of ints that hold the same numbers are told alike. -/
theorem Own.stays {B : Nat} {w w' : World} {v : Value} {L : List Int} (h : Own B w v L) (hb : Below w.heap.size w w') : Own B w' v L := by
  obtain ⟨ao, cap, rfl, hj⟩ := h
  refine ⟨ao, cap, rfl, fun j hl => ?_⟩
  obtain ⟨g, rfl, h1, h2, h3⟩ := hj j hl
  exact ⟨g, rfl, h1, by have := hb.size; omega, (hb.cell (p := ⟨g, j, none⟩) h2).trans h3⟩

set_option maxHeartbeats 1600000 in
theorem list_same (ao ao' : Option Addr) (L : List Int) (cap cap' : Nat) (hL : L.length ≤ 1000) (w : World)
    (h : ∀ j, j < L.length → ∃ g, ao = some ⟨g, 0, none⟩ ∧ w.cell? ⟨g, j, none⟩ = some (.int .i64 (L.getD j 0)))
    (h' : ∀ j, j < L.length → ∃ g, ao' = some ⟨g, 0, none⟩ ∧ w.cell? ⟨g, j, none⟩ = some (.int .i64 (L.getD j 0))) :
    Calls Tryd.prog 28 #[.slice ao L.length cap, .slice ao' L.length cap'] w fun e w' => e = .returned (.bool true) ∧ Below w.heap.size w w' := by
  have H := hid h
  have H' := hid h'
  clear h h'
  go_enter Tryd.func28, Tryd.ntmps28
  go_wp2
  go_loopw [5] (fun iv wr => ∃ (j k : Nat), j ≤ L.length ∧ iv = .int .i64 j ∧ wr = w.drewN k) (fun iv _ => L.length - (intOf iv).toNat)
  case atStart => exact ⟨0, 0, Nat.zero_le _, rfl, rfl⟩
  case round =>
    obtain ⟨j, k, hj, rfl, rfl⟩ := hrel
    by_cases hlt : j < L.length
    · obtain ⟨g, rfl, hc⟩ := H.out j hlt
      obtain ⟨g', rfl, hc'⟩ := H'.out j hlt
      obtain ⟨x, hx⟩ : ∃ x, x = L.getD j 0 := ⟨_, rfl⟩
      rw [← hx] at hc hc'
      have b1 : (j : Int) < (L.length : Int) := by omega
      have b2 : (0 : Int) ≤ (j : Int) := by omega
      clear hx
      go_wp2
      go_quiet (fail)
      go_wp2
      go_roundw
      case rel => exact ⟨j + 1, _, by omega, by go_num, rfl⟩
      case measure => simp [intOf]; omega
    · go_wp2
      go_ret
      exact ⟨rfl, Joins.below_draws _ _ _⟩

theorem info4 : (Tryd.prog.info? 4).map (fun i => (i.zero, i.size, i.bytes)) = some (some (.bool false), 1, 1) := by kernel_rfl
theorem info_of {t : TypeId} {z : Value} {a b : Nat} (h : (Tryd.prog.info? t).map (fun i => (i.zero, i.size, i.bytes)) = some (some z, a, b)) :
    ∃ i, Tryd.prog.info? t = some i ∧ i.zero = some z ∧ i.size = a ∧ i.bytes = b := by
  cases h1 : Tryd.prog.info? t with
  | none => rw [h1] at h; cases h
  | some i => rw [h1] at h; simp at h; exact ⟨i, rfl, h.1, h.2.1, h.2.2⟩

/-- The memory of the law's loop: the numbers, and which of them were seen among the first j. -/
structure Seen (B g : Nat) (ao : Option Addr) (L : List Int) (sn : Nat → Bool) (j : Nat) (w w' : World) : Prop where
  below : Below B w w'
  hg : g < w'.heap.size
  hB : B ≤ g
  lc : ∀ p, p < L.length → ∃ gl, ao = some ⟨gl, 0, none⟩ ∧ gl < g ∧ w'.cell? ⟨gl, p, none⟩ = some (.int .i64 (L.getD p 0))
  sc : ∀ p, p < L.length → w'.cell? ⟨g, p, none⟩ = some (.bool (sn p))
  sf : ∀ p, p < L.length → w'.frozen? ⟨g, p, none⟩ = false
  hs : ∀ p, p < L.length → sn p = true → ∃ q, q < j ∧ L.getD q 0 = p
theorem Seen.set {B g : Nat} {ao : Option Addr} {L : List Int} {sn : Nat → Bool} {j : Nat} {w w' : World} (h : Seen B g ao L sn j w w') (q : Nat) (hq : q < L.length) (e : L.getD j 0 = q) :
    Seen B g ao L (fun p => if p = q then true else sn p) (j + 1) w (w'.setCell ⟨g, q, none⟩ (.bool true)) := by
  refine ⟨h.below.setCell (p := ⟨g, q, none⟩) h.hB _, by rw [World.size_setCell]; exact h.hg, h.hB, fun p hp => ?_, fun p hp => ?_, fun p hp => by rw [World.frozen?_setCell]; exact h.sf p hp, fun p hp hsn => ?_⟩
  · obtain ⟨gl, h1, h2, h3⟩ := h.lc p hp
    exact ⟨gl, h1, h2, (World.cell?_setCell_other _ _ _ _ (by intro k; cases k; omega)).trans h3⟩
  · by_cases hpq : p = q
    · subst hpq; rw [World.cell?_setCell_same _ _ _ (h.sc p hp), if_pos rfl]
    · rw [World.cell?_setCell_other _ _ _ _ (by intro k; cases k; exact hpq rfl), if_neg hpq]; exact h.sc p hp
  · by_cases hpq : p = q
    · subst hpq; exact ⟨j, by omega, e⟩
    · simp only [hpq, if_false] at hsn
      obtain ⟨q', h1, h2⟩ := h.hs p hp hsn
      exact ⟨q', by omega, h2⟩
/-- A number that comes now was not seen before. -/
theorem Seen.new {B g : Nat} {ao : Option Addr} {L : List Int} {sn : Nat → Bool} {j q : Nat} {w w' : World} (h : Seen B g ao L sn j w w') (hG : Good L L.length) (hj : j < L.length) (hq : q < L.length) (e : L.getD j 0 = q) : sn q = false := by
  cases hsn : sn q with
  | false => rfl
  | true =>
    obtain ⟨q', h1, h2⟩ := h.hs q hq hsn
    have := hG.2.2 q' j (by omega) hj (by rw [h2, e])
    omega
theorem Seen.drewN {B g : Nat} {ao : Option Addr} {L : List Int} {sn : Nat → Bool} {j : Nat} {w w' : World} (h : Seen B g ao L sn j w w') (k : Nat) : Seen B g ao L sn j w (w'.drewN k) := by
  have hk : Below w'.heap.size w' (w'.drewN k) := Joins.below_draws _ _ _
  have hz := hk.size
  have h2 := h.hg
  have h3 := h.hB
  exact ⟨h.below.trans (hk.mono (by omega)), by omega, h.hB, fun p hp => by
    obtain ⟨gl, h1, h4, h5⟩ := h.lc p hp
    exact ⟨gl, h1, h4, (hk.cell (p := ⟨gl, p, none⟩) (by show gl < _; omega)).trans h5⟩, fun p hp => (hk.cell (p := ⟨g, p, none⟩) h2).trans (h.sc p hp), fun p hp => (hk.frozen (p := ⟨g, p, none⟩) h2).trans (h.sf p hp), h.hs⟩
/-- What the make lays. -/
theorem seen_made {B B' : Nat} {w w0 w1 : World} {ao : Option Addr} {L : List Int} {cap : Nat} (hB : B ≤ w0.heap.size) (hb : Below B w w0) (hO : Own B' w0 (.slice ao L.length cap) L)
    (hown : w1.ownsRow 0 4 1 (.slice (some ⟨w0.heap.size, 0, none⟩) L.length L.length) L.length (madeCells (Value.bool false).cells (L.length * 1)).toList) (hgrow : w0.grownBy w1 none) :
    Seen B w0.heap.size ao L (fun _ => false) 0 w w1 := by
  have hgs : w0.heap.size < w1.heap.size := by
    rcases hown.2 with ⟨h, _⟩ | ⟨g, cap, cur, hv, _, hh, _⟩
    · cases h
    · simp only [Value.slice.injEq, Option.some.injEq, Addr.mk.injEq] at hv
      obtain ⟨⟨rfl, _⟩, _⟩ := hv
      by_cases hl : w0.heap.size < w1.heap.size
      · exact hl
      · rw [Array.getElem?_eq_none (by omega)] at hh; cases hh
  have hk : Below w0.heap.size w0 w1 := (Below.refl _ _).grown hgrow (Nat.le_refl _) (fun k hk => by cases hk)
  refine ⟨hb.trans (hk.mono hB), hgs, hB, fun p hp => ?_, fun p hp => ?_, fun p hp => hown.frozenAt p, fun p _ h => by cases h⟩
  · obtain ⟨ao', cap', e, hc⟩ := hO
    cases e
    obtain ⟨gl, h1, h2, h3, h4⟩ := hc p hp
    exact ⟨gl, h1, h3, (hk.cell (p := ⟨gl, p, none⟩) h3).trans h4⟩
  · rw [hown.cellAt p (by omega)]
    have : (madeCells (Value.bool false).cells (L.length * 1)).toList = List.replicate L.length (Value.bool false) := by rw [Nat.mul_one]; exact toList_madeCells_one _ _
    rw [this]; simp [hp]

set_option maxHeartbeats 1600000 in
theorem shuffles_gen (s n t c : Int) (L : List Int) (hG : Good L L.length) (hL : L.length ≤ 1000) (w : World) (hT : Tab w)
    (hA : ∀ w, Calls Tryd.prog 27 #[.agg #[.int .u64 s], .int .i64 n] w fun e w' => ∃ v, e = .returned (.tuple #[v, .agg #[.int .u64 t], .int .i64 c]) ∧ Own w.heap.size w' v L ∧ Below w.heap.size w w')
    (hR : ∀ w, Calls Tryd.prog 26 #[.agg #[.int .u64 s], .int .i64 n] w fun e w' => ∃ v, e = .returned (.tuple #[v, .agg #[.int .u64 t], .int .i64 c]) ∧ Own w.heap.size w' v L ∧ Below w.heap.size w w') :
    Calls Tryd.prog 8 #[.agg #[.int .u64 s], .int .i64 n] w fun e w' => e = .returned (.bool true) ∧ Below w.heap.size w w' := by
  obtain ⟨i0, hi, hz0, hz1, hz2⟩ := info_of info4
  have hbytes : i0.bytes * L.length ≤ 281474976710656 := by rw [hz2]; omega
  have hmax : L.length ≤ maxLen := by unfold maxLen; omega
  have HG := hid hG
  clear hG
  go_enter Tryd.func8, Tryd.ntmps8
  go_wp2_with fail
  refine (hR _).mono ?_
  rintro e w1 ⟨v1, rfl, ho1, hb1⟩
  obtain ⟨ao1, cap1, rfl, -⟩ := id ho1
  obtain ⟨hz1', hc1, hb1'⟩ := after hb1
  have c1 : w1.cell? ⟨w.heap.size, 0, none⟩ = some (.int .u64 s) := hc1 0
  have HO1 := hid ho1
  clear hc1 hb1 ho1
  go_wp2_with fail
  refine (hA _).mono ?_
  rintro e w2 ⟨v2, rfl, ho2, hb2⟩
  obtain ⟨ao2, cap2, rfl, -⟩ := id ho2
  obtain ⟨hz2', hc2, hb2'⟩ := after hb2
  have d2 : w2.cell? ⟨w1.heap.size, 0, none⟩ = some (.int .u64 t) := hc2 0
  have HB2 := hid (step hb1' hb2')
  have HO2 := hid ((HO1.out.stays hb2').stays (Joins.below_alloc1 w2 (.cells #[.int .u64 t] 25)))
  have HO3 := hid (ho2.stays (Joins.below_alloc1 w2 (.cells #[.int .u64 t] 25)))
  clear hc2 hb2 ho2 hb1' hb2' c1 hz1' HO1 hA hR
  go_wp2_with fail
  refine (list_same ao2 ao1 L cap2 cap1 hL _ (fun j hj => ?_) (fun j hj => ?_)).mono ?_
  · obtain ⟨ao, cap, e, h⟩ := HO3.out
    cases e
    obtain ⟨g, h1, _, _, h4⟩ := h j hj
    exact ⟨g, h1, h4⟩
  · obtain ⟨ao, cap, e, h⟩ := HO2.out
    cases e
    obtain ⟨g, h1, _, _, h4⟩ := h j hj
    exact ⟨g, h1, h4⟩
  rintro e w3 ⟨rfl, hb3⟩
  have HO4 := hid (HO3.out.stays hb3)
  have HB3 := hid (step (add HB2.out _) hb3)
  clear HO3 HO2 HB2 hb3 hz2' d2
  go_wp2_with (at_make; refine wpList_make_full _ rfl _ _ 45 rfl 0 4 i0 (.bool false) 1 Tryd.underlying45 hi hz0 hz1 .i64 .i64 (L.length : Int) (L.length : Int) L.length rfl rfl rfl rfl hbytes hmax (Nat.zero_le _) ?_; intro w4 hown4 hgrow4)
  have hsn := hid (seen_made HB3.out.size HB3.out HO4.out hown4 hgrow4)
  generalize w3.heap.size = g at hsn ⊢
  clear hown4 hgrow4 HO4 HB3 hi hz0 hz1 hz2 hbytes hmax
  go_loopw [12] (fun iv wr => ∃ (j : Nat) (sn : Nat → Bool), j ≤ L.length ∧ iv = .int .i64 j ∧ Hid (Seen w.heap.size g ao2 L sn j w wr)) (fun iv _ => L.length - (intOf iv).toNat)
  case atStart => exact ⟨0, _, Nat.zero_le _, rfl, hsn⟩
  case round =>
    obtain ⟨j, sn, hj, rfl, hS⟩ := hrel
    clear hsn
    by_cases hlt : j < L.length
    · obtain ⟨gl, rfl, hgl, hc⟩ := hS.out.lc j hlt
      obtain ⟨q, hq⟩ : ∃ q : Nat, L.getD j 0 = q := ⟨(L.getD j 0).toNat, by have := HG.out.2.1 j hlt; omega⟩
      have hql : q < L.length := by have := HG.out.2.1 j hlt; omega
      have hnew := hS.out.new HG.out hlt hql hq
      have hsc := hS.out.sc q hql
      have hsf := hS.out.sf q hql
      rw [hq] at hc
      rw [hnew] at hsc
      have HQ := hid hq
      have b1 : (j : Int) < (L.length : Int) := by omega
      have b2 : (q : Int) < (L.length : Int) := by omega
      have b3 : (0 : Int) ≤ (q : Int) := by omega
      clear hq hnew
      go_wp2_with fail
      exact ⟨⟨j + 1, _, by omega, by go_num, hid (hS.out.set q hql HQ.out)⟩, by simp [intOf]; omega⟩
    · go_wp2_with fail
      refine (known_any _ (hT.stays hS.out.below)).mono ?_
      rintro e w5 ⟨rfl, hb5⟩
      go_wp2
      go_ret
      exact ⟨rfl, step hS.out.below hb5⟩

theorem good_nil : Good [] ([] : List Int).length := ⟨rfl, fun p (hp : p < 0) => absurd hp (Nat.not_lt_zero p), fun p _ (hp : p < 0) => absurd hp (Nat.not_lt_zero p)⟩
theorem walk_shuffles (s n : Int) (w : World) (hT : Tab w) : Calls Tryd.prog 8 #[.agg #[.int .u64 s], .int .i64 n] w fun e w' => e = .returned (.bool true) ∧ Below w.heap.size w w' := by
  by_cases h : n < 0 ∨ 1000 < n
  · refine shuffles_gen s n 0 (if 1000 < n then 4 else 1) [] good_nil (Nat.zero_le _) w hT (fun w => (shuf_no s n h w).mono ?_) (fun w => (refshuf_no s n h w).mono ?_)
    all_goals
      rintro e w' ⟨rfl, hb⟩
      exact ⟨_, rfl, ⟨none, 0, rfl, fun j hj => by cases hj⟩, hb⟩
  · obtain ⟨N, rfl⟩ : ∃ N : Nat, n = N := ⟨n.toNat, by omega⟩
    have hg : Good (shuf (N - 1) (iota N) s).1 N := Good.shuf (iota_good N) (by omega)
    have hl := hg.1
    exact shuffles_gen s N (shuf (N - 1) (iota N) s).2 0 (shuf (N - 1) (iota N) s).1 (by rw [hl]; exact hg) (by omega) w hT
      (fun w => (shuf_yes s N (by omega) w).mono fun e w' h => h) (fun w => (refshuf_yes s N (by omega) w).mono fun e w' h => h)
end Go.Proofs.YtadpgndodbfciaaDoor
