/-
  The walks of the laws on the number below a bound and on chances.
-/
import Derived.Test.YtadpgndodbfciaaDoorWalkBelow
namespace Go.Proofs.YtadpgndodbfciaaDoor
open Go.RowKit

set_option maxHeartbeats 800000 in
theorem below_none (a n : Int) (h : n < 1) (w : World) : Calls Tryd.prog 21 #[.agg #[.int .u64 a], .int .i64 n] w fun e w' => e = .returned (.tuple #[.int .i64 0, .agg #[.int .u64 a]]) ∧ Below w.heap.size w w' := by
  go_enter Tryd.func21, Tryd.ntmps21
  go_wp2_with fail
  go_region
  go_wp2
  refine bodyPost_ret (v := .tuple #[.int .i64 0, .agg #[.int .u64 a]]) (by simp [results, Tryd.results21, go_sem]) rfl ⟨rfl, ?_⟩
  exact (Joins.below_alloc2 _ _ _).drew
set_option maxHeartbeats 800000 in
theorem refbelow_none (a n : Int) (h : n < 1) (w : World) : Calls Tryd.prog 20 #[.agg #[.int .u64 a], .int .i64 n] w fun e w' => e = .returned (.tuple #[.int .i64 0, .agg #[.int .u64 a]]) ∧ Below w.heap.size w w' := by
  go_enter Tryd.func20, Tryd.ntmps20
  go_wp2_with fail
  go_region
  go_wp2
  refine bodyPost_ret (v := .tuple #[.int .i64 0, .agg #[.int .u64 a]]) (by simp [results, Tryd.results20, go_sem]) rfl ⟨rfl, ?_⟩
  exact (Joins.below_alloc2 _ _ _).drew

set_option maxHeartbeats 1600000 in
theorem walk_below (a n : Int) (hn : n ≤ 9223372036854775807) (w : World) (hT : Tab w) : Calls Tryd.prog 5 #[.agg #[.int .u64 a], .int .i64 n] w fun e w' => e = .returned (.bool true) ∧ Below w.heap.size w w' := by
  by_cases h1 : n < 1
  · go_enter Tryd.func5, Tryd.ntmps5
    go_wp2_with fail
    refine (refbelow_none a n h1 _).mono ?_
    rintro e w1 ⟨rfl, hb1⟩
    obtain ⟨hz1, hc1, hb1'⟩ := after hb1
    have c1 : w1.cell? ⟨w.heap.size, 0, none⟩ = some (.int .u64 a) := hc1 0
    clear hc1 hb1
    go_wp2_with fail
    refine (below_none a n h1 _).mono ?_
    rintro e w2 ⟨rfl, hb2⟩
    obtain ⟨hz2, hc2, hb2'⟩ := after hb2
    have c2 : w2.cell? ⟨w.heap.size, 0, none⟩ = some (.int .u64 a) := (hb2'.cell (p := ⟨w.heap.size, 0, none⟩) hz1).trans c1
    have d2 : w2.cell? ⟨w1.heap.size, 0, none⟩ = some (.int .u64 a) := hc2 0
    have hz2' : w.heap.size < w2.heap.size := by omega
    have HB2 := hid (step hb1' hb2')
    have hT2 := hT.stays (add HB2.out (.cells #[.int .u64 a] 25))
    clear hc2 hb2 hb1' hb2' c1 hz1 hT
    go_wp2_with fail
    refine (known_any _ hT2).mono ?_
    rintro e w4 ⟨rfl, hb4⟩
    go_wp2
    go_ret
    exact ⟨rfl, step (add HB2.out _) hb4⟩
  · go_enter Tryd.func5, Tryd.ntmps5
    go_wp2_with fail
    refine (refbelow_any a n (by omega) hn _).mono ?_
    rintro e w1 ⟨k, hk, rfl, hb1⟩
    have HK := hid hk
    obtain ⟨v, hv⟩ : ∃ v, v = skipTo a (k : Int) := ⟨_, rfl⟩
    obtain ⟨x, hx⟩ : ∃ x, x = numAt a (k : Int) % n := ⟨_, rfl⟩
    rw [← hv, ← hx]
    obtain ⟨hz1, hc1, hb1'⟩ := after hb1
    have c1 : w1.cell? ⟨w.heap.size, 0, none⟩ = some (.int .u64 a) := hc1 0
    have HV := hid hv
    have HX := hid hx
    have hx0 : 0 ≤ x := by rw [hx]; exact Int.emod_nonneg _ (by omega)
    have hx1 : x < n := by rw [hx]; exact Int.emod_lt_of_pos _ (by omega)
    clear hc1 hb1 hk hv hx
    go_wp2_with fail
    refine (below_any a n (by omega) hn _).mono ?_
    rintro e w2 ⟨k', hk', rfl, hb2⟩
    obtain rfl := found_one HK.out hk'
    rw [← HV.out, ← HX.out]
    obtain ⟨hz2, hc2, hb2'⟩ := after hb2
    have c2 : w2.cell? ⟨w.heap.size, 0, none⟩ = some (.int .u64 a) := (hb2'.cell (p := ⟨w.heap.size, 0, none⟩) hz1).trans c1
    have d2 : w2.cell? ⟨w1.heap.size, 0, none⟩ = some (.int .u64 v) := hc2 0
    have hz2' : w.heap.size < w2.heap.size := by omega
    have HB2 := hid (step hb1' hb2')
    have hT2 := hT.stays (add HB2.out (.cells #[.int .u64 v] 25))
    clear hc2 hb2 hb1' hb2' c1 hz1 hT hk'
    go_wp2_with fail
    refine (known_any _ hT2).mono ?_
    rintro e w4 ⟨rfl, hb4⟩
    go_wp2
    go_ret
    exact ⟨rfl, step (add HB2.out _) hb4⟩

/-- Behind a call that writes the cell of one block, and else makes new blocks alone. -/
structure But (b : Nat) (v : Value) (w w' : World) : Prop where
  below : Below b w w'
  cell : ∀ x o, x < w.heap.size → x ≠ b → w'.cell? ⟨x, o, none⟩ = w.cell? ⟨x, o, none⟩
  frozen : ∀ x o, x < w.heap.size → w'.frozen? ⟨x, o, none⟩ = w.frozen? ⟨x, o, none⟩
  at_ : w'.cell? ⟨b, 0, none⟩ = some v
theorem But.size {b : Nat} {v : Value} {w w' : World} (h : But b v w w') : w.heap.size ≤ w'.heap.size := h.below.size
theorem but_of {b : Nat} {v u : Value} {w w1 : World} {o : Obj} (hb : Below w.heap.size w w1) (hz : b < w.heap.size) (hc : w1.cell? ⟨b, 0, none⟩ = some u) : But b v w ((w1.setCell ⟨b, 0, none⟩ v).alloc o) := by
  have hs := hb.size
  have e : (w1.setCell ⟨b, 0, none⟩ v).heap.size = w1.heap.size := World.size_setCell _ _ _
  refine ⟨((hb.mono (by omega)).setCell (p := ⟨b, 0, none⟩) (Nat.le_refl b) _).alloc (by rw [e]; omega) _, fun x o hx hne => ?_, fun x o hx => ?_, ?_⟩
  · rw [World.cell?_alloc_past _ _ _ (by rw [e]; omega), World.cell?_setCell_other _ _ _ _ (by intro h; cases h; exact hne rfl)]
    exact hb.cell (p := ⟨x, o, none⟩) hx
  · rw [World.frozen?_alloc_past _ _ _ (by rw [e]; omega), World.frozen?_setCell]
    exact hb.frozen (p := ⟨x, o, none⟩) hx
  · rw [World.cell?_alloc_past _ _ _ (by rw [e]; omega)]
    exact World.cell?_setCell_same _ _ _ hc

/-- The closure that draws: it hands back the number below n and leaves the stream behind it. -/
def DrawIs (a n : Int) (b : Nat) (w : World) (e : Ending) (w' : World) : Prop :=
  ∃ k : Nat, Found a n k ∧ e = .returned (.int .i64 (numAt a k % n)) ∧ But b (.int .u64 (skipTo a k)) w w'

set_option maxHeartbeats 800000 in
theorem draw_any (a n : Int) (h1 : 1 ≤ n) (h2 : n ≤ 9223372036854775807) (b c : Nat) (w : World) (hc : w.cell? ⟨c, 0, none⟩ = some (.pointer (some ⟨b, 0, none⟩)))
    (hb : w.cell? ⟨b, 0, none⟩ = some (.int .u64 a)) (hbf : w.frozen? ⟨b, 0, none⟩ = false) (hbz : b < w.heap.size) (hcz : c < w.heap.size) :
    Calls Tryd.prog 44 #[.int .i64 n, .pointer (some ⟨c, 0, none⟩)] w (DrawIs a n b w) := by
  go_enter Tryd.func44, Tryd.ntmps44
  go_wp2_with fail
  refine (below_any a n h1 h2 _).mono ?_
  rintro e w1 ⟨k, hk, rfl, hb1⟩
  have c1 : w1.cell? ⟨c, 0, none⟩ = some (.pointer (some ⟨b, 0, none⟩)) := (hb1.cell (p := ⟨c, 0, none⟩) hcz).trans hc
  have d1 : w1.cell? ⟨b, 0, none⟩ = some (.int .u64 a) := (hb1.cell (p := ⟨b, 0, none⟩) hbz).trans hb
  have f1 : w1.frozen? ⟨b, 0, none⟩ = false := (hb1.frozen (p := ⟨b, 0, none⟩) hbz).trans hbf
  have hz1 := hb1.size
  have hbz1 : b < w1.heap.size := by omega
  have hcz1 : c < w1.heap.size := by omega
  have HK := hid hk
  have HB := hid (show ∀ o v, But b v w ((w1.setCell ⟨b, 0, none⟩ v).alloc o) from fun o v => but_of hb1 hbz d1)
  clear hk hb1 hc hb hbf hbz hcz
  go_wp2
  go_ret
  exact ⟨k, HK.out, rfl, HB.out _ _⟩

set_option maxHeartbeats 400000 in
theorem drawer_any (b : Nat) (w : World) : Calls Tryd.prog 35 #[.pointer (some ⟨b, 0, none⟩)] w fun e w' =>
    e = .returned (.func (Fn.func 44) #[] #[.pointer (some ⟨w.heap.size, 0, none⟩)]) ∧ w.alloc (.cells #[.pointer (some ⟨b, 0, none⟩)] 59) = w' := by
  go_enter Tryd.func35, Tryd.ntmps35
  go_wp2
  go_ret
  exact ⟨rfl, rfl⟩

/-- Chance hands back whether the number that is drawn lies below a, and the stream behind it. -/
def ChanceIs (s a n : Int) (w : World) (e : Ending) (w' : World) : Prop :=
  ∃ k : Nat, Found s n k ∧ e = .returned (.tuple #[.bool (decide (numAt s k % n < a)), .agg #[.int .u64 (skipTo s k)]]) ∧ Below w.heap.size w w'

set_option maxHeartbeats 800000 in
theorem chance_none (s a n : Int) (h : n < 1) (w : World) : Calls Tryd.prog 23 #[.agg #[.int .u64 s], .int .i64 a, .int .i64 n] w fun e w' => e = .returned (.tuple #[.bool false, .agg #[.int .u64 s]]) ∧ Below w.heap.size w w' := by
  go_enter Tryd.func23, Tryd.ntmps23
  go_wp2_with fail
  go_region
  go_wp2
  refine bodyPost_ret (v := .tuple #[.bool false, .agg #[.int .u64 s]]) (by simp [results, Tryd.results23, go_sem]) rfl ⟨rfl, ?_⟩
  exact (Joins.below_alloc2 _ _ _).drew
set_option maxHeartbeats 800000 in
theorem refchance_none (s a n : Int) (h : n < 1) (w : World) : Calls Tryd.prog 22 #[.agg #[.int .u64 s], .int .i64 a, .int .i64 n] w fun e w' => e = .returned (.tuple #[.bool false, .agg #[.int .u64 s]]) ∧ Below w.heap.size w w' := by
  go_enter Tryd.func22, Tryd.ntmps22
  go_wp2_with fail
  go_region
  go_wp2
  refine bodyPost_ret (v := .tuple #[.bool false, .agg #[.int .u64 s]]) (by simp [results, Tryd.results22, go_sem]) rfl ⟨rfl, ?_⟩
  exact (Joins.below_alloc2 _ _ _).drew

set_option maxHeartbeats 800000 in
theorem refchance_any (s a n : Int) (h1 : 1 ≤ n) (h2 : n ≤ 9223372036854775807) (w : World) : Calls Tryd.prog 22 #[.agg #[.int .u64 s], .int .i64 a, .int .i64 n] w (ChanceIs s a n w) := by
  go_enter Tryd.func22, Tryd.ntmps22
  go_wp2_with fail
  refine (refbelow_any s n h1 h2 _).mono ?_
  rintro e w1 ⟨k, hk, rfl, hb1⟩
  have hs1 := hb1.size
  rw [World.size_alloc, World.size_alloc] at hs1
  have c1 : w1.cell? ⟨w.heap.size + 1, 0, none⟩ = some (.int .u64 0) := by
    rw [hb1.cell (p := ⟨w.heap.size + 1, 0, none⟩) (by simp)]; simp
  have f1 : w1.frozen? ⟨w.heap.size + 1, 0, none⟩ = false := by
    rw [hb1.frozen (p := ⟨w.heap.size + 1, 0, none⟩) (by simp)]; simp
  have hz : w.heap.size + 1 < w1.heap.size := by omega
  have HB := hid ((Joins.below_alloc2 w _ _).trans (hb1.mono (by simp; omega)))
  have HK := hid hk
  obtain ⟨v, hv⟩ : ∃ v, v = skipTo s (k : Int) := ⟨_, rfl⟩
  obtain ⟨x, hx⟩ : ∃ x, x = numAt s (k : Int) % n := ⟨_, rfl⟩
  rw [← hv, ← hx]
  have HV := hid hv
  have HX := hid hx
  clear hb1 hk hs1 hv hx
  go_wp2_with fail
  go_region
  go_wp2
  have hcell := fun o => show ((w1.setCell ⟨w.heap.size + 1, 0, none⟩ (.int .u64 v)).alloc o).cell? ⟨w.heap.size + 1, 0, none⟩ = some (.int .u64 v) by
    rw [World.cell?_alloc_past _ _ _ (by rw [World.size_setCell]; exact hz)]; exact World.cell?_setCell_same _ _ _ c1
  refine bodyPost_ret (v := .tuple #[.bool (decide (x < a)), .agg #[.int .u64 v]]) (by simp [results, Tryd.results22, go_sem, hcell]) rfl ⟨k, HK.out, by rw [← HV.out, ← HX.out], ?_⟩
  exact ((HB.out.setCell (p := ⟨w.heap.size + 1, 0, none⟩) (Nat.le_succ _) _).alloc (by rw [World.size_setCell]; omega) _).drew

set_option maxHeartbeats 1600000 in
theorem chance_any (s a n : Int) (h1 : 1 ≤ n) (h2 : n ≤ 9223372036854775807) (w : World) : Calls Tryd.prog 23 #[.agg #[.int .u64 s], .int .i64 a, .int .i64 n] w (ChanceIs s a n w) := by
  go_enter Tryd.func23, Tryd.ntmps23
  go_wp2_with fail
  refine (drawer_any _ _).mono ?_
  rintro e w0 ⟨rfl, rfl⟩
  go_wp2_with fail
  refine (draw_any s n h1 h2 w.heap.size (w.heap.size + 2) _ ?_ ?_ ?_ ?_ ?_).mono ?_
  · simp [go_sem]
  · simp [go_sem]
  · simp [go_sem]
  · simp; omega
  · simp
  rintro e w1 ⟨k, hk, rfl, hb1⟩
  have hs1 := hb1.size
  rw [World.size_alloc, World.size_alloc, World.size_alloc] at hs1
  have c1 : w1.cell? ⟨w.heap.size + 1, 0, none⟩ = some (.int .u64 0) := by
    rw [hb1.cell (w.heap.size + 1) 0 (by simp) (by omega)]; simp [go_sem]
  have f1 : w1.frozen? ⟨w.heap.size + 1, 0, none⟩ = false := by
    rw [hb1.frozen (w.heap.size + 1) 0 (by simp)]; simp [go_sem]
  have d1 := hb1.at_
  have hz : w.heap.size + 1 < w1.heap.size := by omega
  have hz' : w.heap.size < w1.heap.size := by omega
  have HB := hid (((Joins.below_alloc3 w _ _ _).trans (hb1.below)))
  have HK := hid hk
  obtain ⟨v, hv⟩ : ∃ v, v = skipTo s (k : Int) := ⟨_, rfl⟩
  obtain ⟨x, hx⟩ : ∃ x, x = numAt s (k : Int) % n := ⟨_, rfl⟩
  rw [← hv] at d1
  rw [← hx]
  have HV := hid hv
  have HX := hid hx
  clear hb1 hk hs1 hv hx
  go_wp2_with fail
  go_region
  go_wp2
  have hcell := show (w1.setCell ⟨w.heap.size + 1, 0, none⟩ (.int .u64 v)).cell? ⟨w.heap.size + 1, 0, none⟩ = some (.int .u64 v) from World.cell?_setCell_same _ _ _ c1
  refine bodyPost_ret (v := .tuple #[.bool (decide (x < a)), .agg #[.int .u64 v]]) (by simp [results, Tryd.results23, go_sem, hcell]) rfl ⟨k, HK.out, by rw [← HV.out, ← HX.out], ?_⟩
  exact (HB.out.setCell (p := ⟨w.heap.size + 1, 0, none⟩) (Nat.le_succ _) _).drew

set_option maxHeartbeats 1600000 in
theorem walk_chances (s a n : Int) (hn : n ≤ 9223372036854775807) (w : World) (hT : Tab w) : Calls Tryd.prog 6 #[.agg #[.int .u64 s], .int .i64 a, .int .i64 n] w fun e w' => e = .returned (.bool true) ∧ Below w.heap.size w w' := by
  by_cases h1 : n < 1
  · go_enter Tryd.func6, Tryd.ntmps6
    go_wp2_with fail
    refine (refchance_none s a n h1 _).mono ?_
    rintro e w1 ⟨rfl, hb1⟩
    obtain ⟨hz1, hc1, hb1'⟩ := after hb1
    have c1 : w1.cell? ⟨w.heap.size, 0, none⟩ = some (.int .u64 s) := hc1 0
    clear hc1 hb1
    go_wp2_with fail
    refine (chance_none s a n h1 _).mono ?_
    rintro e w2 ⟨rfl, hb2⟩
    obtain ⟨hz2, hc2, hb2'⟩ := after hb2
    have d2 : w2.cell? ⟨w1.heap.size, 0, none⟩ = some (.int .u64 s) := hc2 0
    have HB2 := hid (step hb1' hb2')
    have hT2 := hT.stays (add HB2.out (.cells #[.int .u64 s] 25))
    clear hc2 hb2 hb1' hb2' c1 hz1 hT
    by_cases ha : 0 < a
    · go_wp2_with fail
      refine (known_any _ hT2).mono ?_
      rintro e w4 ⟨rfl, hb4⟩
      go_wp2
      go_ret
      exact ⟨rfl, step (add HB2.out _) hb4⟩
    · go_wp2_with fail
      refine (known_any _ hT2).mono ?_
      rintro e w4 ⟨rfl, hb4⟩
      go_wp2
      go_ret
      exact ⟨rfl, step (add HB2.out _) hb4⟩
  · go_enter Tryd.func6, Tryd.ntmps6
    go_wp2_with fail
    refine (refchance_any s a n (by omega) hn _).mono ?_
    rintro e w1 ⟨k, hk, rfl, hb1⟩
    have HK := hid hk
    obtain ⟨v, hv⟩ : ∃ v, v = skipTo s (k : Int) := ⟨_, rfl⟩
    obtain ⟨x, hx⟩ : ∃ x, x = numAt s (k : Int) % n := ⟨_, rfl⟩
    rw [← hv, ← hx]
    obtain ⟨hz1, hc1, hb1'⟩ := after hb1
    have c1 : w1.cell? ⟨w.heap.size, 0, none⟩ = some (.int .u64 s) := hc1 0
    have HV := hid hv
    have HX := hid hx
    have hx0 : 0 ≤ x := by rw [hx]; exact Int.emod_nonneg _ (by omega)
    have hx1 : x < n := by rw [hx]; exact Int.emod_lt_of_pos _ (by omega)
    clear hc1 hb1 hk hv hx
    go_wp2_with fail
    refine (chance_any s a n (by omega) hn _).mono ?_
    rintro e w2 ⟨k', hk', rfl, hb2⟩
    obtain rfl := found_one HK.out hk'
    rw [← HV.out, ← HX.out]
    obtain ⟨hz2, hc2, hb2'⟩ := after hb2
    have d2 : w2.cell? ⟨w1.heap.size, 0, none⟩ = some (.int .u64 v) := hc2 0
    have HB2 := hid (step hb1' hb2')
    have hT2 := hT.stays (add HB2.out (.cells #[.int .u64 v] 25))
    clear hc2 hb2 hb1' hb2' c1 hz1 hT hk'
    by_cases hxa : x < a
    · have g : decide (x < a) = true := by simpa using hxa
      have ha : 0 < a := by omega
      by_cases han : a < n
      all_goals
        go_wp2_with fail
        refine (known_any _ hT2).mono ?_
        rintro e w4 ⟨rfl, hb4⟩
        go_wp2
        go_ret
        exact ⟨rfl, step (add HB2.out _) hb4⟩
    · have g : decide (x < a) = false := by simpa using hxa
      have ha : a < n := by omega
      by_cases ha : 0 < a
      · go_wp2_with fail
        refine (known_any _ hT2).mono ?_
        rintro e w4 ⟨rfl, hb4⟩
        go_wp2
        go_ret
        exact ⟨rfl, step (add HB2.out _) hb4⟩
      · go_wp2_with fail
        refine (known_any _ hT2).mono ?_
        rintro e w4 ⟨rfl, hb4⟩
        go_wp2
        go_ret
        exact ⟨rfl, step (add HB2.out _) hb4⟩
end Go.Proofs.YtadpgndodbfciaaDoor
