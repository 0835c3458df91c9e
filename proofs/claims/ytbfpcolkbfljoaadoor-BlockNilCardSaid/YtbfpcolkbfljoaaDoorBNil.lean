/-
  The walk of the law on a Map that New did not make.
-/
import Derived.Test.YtbfpcolkbfljoaaDoorBKn2
namespace Go.Proofs.YtbfpcolkbfljoaaDoor
open Go.RowKit Go.Maps

/-- A pointer to no Map, or to one that New did not make. -/
def NoMap (p : Option Addr) (w : World) : Prop := p = none ∨ ∃ b, p = some ⟨b, 0, none⟩ ∧ b < w.heap.size ∧ w.cell? ⟨b, 5, none⟩ = some (.map none)
theorem NoMap.stays {p : Option Addr} {w w' : World} (h : NoMap p w) (k : Below w.heap.size w w') : NoMap p w' := by
  rcases h with h | ⟨b, e, hb, hc⟩
  · exact .inl h
  · exact .inr ⟨b, e, by have := k.size; omega, (k.cell (p := ⟨b, 5, none⟩) hb).trans hc⟩
theorem NoMap.nil (w : World) : NoMap none w := .inl rfl
set_option maxRecDepth 20000 in
set_option maxHeartbeats 1600000 in
theorem made_no (p : Option Addr) (w : World) (h : NoMap p w) : Calls Tryd.prog 85 #[.pointer p] w fun r w' => r = .returned (.bool false) ∧ Below w.heap.size w w' := by
  rcases h with rfl | ⟨b, rfl, hb, hc⟩
  · go_enter Tryd.func85, Tryd.ntmps85
    go_wp2_with fail
    go_ret
    exact ⟨rfl, Below.refl _ _⟩
  · have hq := run_neq_map_nil w 79 3 3 none Tryd.underlying79
    go_enter Tryd.func85, Tryd.ntmps85
    go_wp2_with fail
    go_ret
    exact ⟨rfl, Below.refl _ _⟩
set_option maxHeartbeats 1600000 in
theorem of_no (p : Option Addr) (t q : Int) (w : World) (h : NoMap p w) : Calls Tryd.prog 47 #[.pointer p, .int .i64 t, .int .i64 q] w fun r w' => r = .returned (.tuple #[.int .i64 0, .int .i64 1]) ∧ Below w.heap.size w w' := by
  have HB := hid (Below.refl w.heap.size w)
  have H := hid h
  clear h
  go_enter Tryd.func47, Tryd.ntmps47
  go_wp2_with (go_at_call 85; refine (made_no _ _ H.out).mono ?_; rintro r w1 ⟨rfl, hb⟩)
  go_ret2
  exact ⟨rfl, HB.out.trans (hb.mono HB.out.size)⟩
set_option maxHeartbeats 1600000 in
theorem blocks_no (p : Option Addr)  (w : World) (h : NoMap p w) : Calls Tryd.prog 48 #[.pointer p] w fun r w' => r = .returned (.slice none 0 0) ∧ Below w.heap.size w w' := by
  have HB := hid (Below.refl w.heap.size w)
  have H := hid h
  clear h
  go_enter Tryd.func48, Tryd.ntmps48
  go_wp2_with (go_at_call 85; refine (made_no _ _ H.out).mono ?_; rintro r w1 ⟨rfl, hb⟩)
  go_ret
  exact ⟨rfl, HB.out.trans (hb.mono HB.out.size)⟩
set_option maxHeartbeats 1600000 in
theorem lay_no (p : Option Addr) (t q : Int) (w : World) (h : NoMap p w) : Calls Tryd.prog 41 #[.pointer p, .int .i64 t, .int .i64 q] w fun r w' => r = .returned (.int .i64 1) ∧ Below w.heap.size w w' := by
  have HB := hid (Below.refl w.heap.size w)
  have H := hid h
  clear h
  go_enter Tryd.func41, Tryd.ntmps41
  go_wp2_with (go_at_call 85; refine (made_no _ _ H.out).mono ?_; rintro r w1 ⟨rfl, hb⟩)
  go_ret
  exact ⟨rfl, HB.out.trans (hb.mono HB.out.size)⟩
set_option maxHeartbeats 1600000 in
theorem lift_no (p : Option Addr) (t q : Int) (w : World) (h : NoMap p w) : Calls Tryd.prog 43 #[.pointer p, .int .i64 t, .int .i64 q] w fun r w' => r = .returned (.int .i64 1) ∧ Below w.heap.size w w' := by
  have HB := hid (Joins.below_alloc2 w (.cells #[.int .i64 t] 3) (.cells #[.int .i64 q] 3))
  have H := hid (h.stays HB.out)
  clear h
  go_enter Tryd.func43, Tryd.ntmps43
  go_wp2_with (go_at_call 85; refine (made_no _ _ H.out).mono ?_; rintro r w1 ⟨rfl, hb⟩)
  go_ret
  exact ⟨rfl, HB.out.trans (hb.mono HB.out.size)⟩
set_option maxHeartbeats 1600000 in
theorem put_no (p : Option Addr) (t q o k : Int) (w : World) (h : NoMap p w) : Calls Tryd.prog 45 #[.pointer p, .agg #[.int .i64 t, .int .i64 q, .int .i64 o, .int .i64 k]] w fun r w' => r = .returned (.int .i64 1) ∧ Below w.heap.size w w' := by
  have HB := hid (Joins.below_alloc1 w (.cells #[.int .i64 t, .int .i64 q, .int .i64 o, .int .i64 k] 32))
  have H := hid (h.stays HB.out)
  clear h
  go_enter Tryd.func45, Tryd.ntmps45
  go_wp2_with (go_at_call 85; refine (made_no _ _ H.out).mono ?_; rintro r w1 ⟨rfl, hb⟩)
  go_ret
  exact ⟨rfl, HB.out.trans (hb.mono HB.out.size)⟩
set_option maxHeartbeats 1600000 in
theorem take_no (p : Option Addr) (t q o : Int) (w : World) (h : NoMap p w) : Calls Tryd.prog 46 #[.pointer p, .int .i64 t, .int .i64 q, .int .i64 o] w fun r w' => r = .returned (.int .i64 1) ∧ Below w.heap.size w w' := by
  have HB := hid (Below.refl w.heap.size w)
  have H := hid h
  clear h
  go_enter Tryd.func46, Tryd.ntmps46
  go_wp2_with (go_at_call 85; refine (made_no _ _ H.out).mono ?_; rintro r w1 ⟨rfl, hb⟩)
  go_ret
  exact ⟨rfl, HB.out.trans (hb.mono HB.out.size)⟩

/-- The memory of the law: the zero Map, the signal. -/
structure NM (Y : Nat) (s : Sg) (w wr : World) : Prop where
  below : Below w.heap.size w wr
  nm : NoMap (some ⟨w.heap.size, 0, none⟩) wr
  size : Y < wr.heap.size
  c0 : wr.cell? ⟨Y, 0, none⟩ = some (.int .i64 s.t)
  c1 : wr.cell? ⟨Y, 1, none⟩ = some (.int .i64 s.p)
  c2 : wr.cell? ⟨Y, 2, none⟩ = some (.int .i64 s.o)
  c3 : wr.cell? ⟨Y, 3, none⟩ = some (.int .i64 s.k)
  tab : Tab wr
theorem NM.stays {Y : Nat} {s : Sg} {w wr w' : World} (h : NM Y s w wr) (k : Below wr.heap.size wr w') : NM Y s w w' :=
  have e : ∀ i, w'.cell? ⟨Y, i, none⟩ = wr.cell? ⟨Y, i, none⟩ := fun i => k.cell (p := ⟨Y, i, none⟩) h.size
  ⟨step h.below k, h.nm.stays k, Nat.lt_of_lt_of_le h.size k.size, (e 0).trans h.c0, (e 1).trans h.c1, (e 2).trans h.c2, (e 3).trans h.c3, h.tab.stays k⟩
set_option maxRecDepth 20000 in
set_option maxHeartbeats 6400000 in
theorem walk_nil (t q o k : Int) (w : World) (hT : Tab w) : Calls Tryd.prog 15 #[.int .i64 t, .int .i64 q, .int .i64 o, .int .i64 k] w fun r w' => r = .returned (.bool true) ∧ Below w.heap.size w w' := by
  have HB := hid (Joins.below_alloc1 w (.cells #[.int .i64 0, .int .i64 0, .slice none 0 0, .slice none 0 0, .slice none 0 0, .map none] 81))
  have HT := hid hT
  have HN : Hid (NoMap (some ⟨w.heap.size, 0, none⟩) (w.alloc (.cells #[.int .i64 0, .int .i64 0, .slice none 0 0, .slice none 0 0, .slice none 0 0, .map none] 81))) := hid (.inr ⟨w.heap.size, rfl, by simp, by simp⟩)
  clear hT
  go_enter Tryd.func15, Tryd.ntmps15
  go_upto_region 3 with fail
  generalize World.alloc w _ = wm at HB HN ⊢
  go_upto_region 4 with (go_at_call 47; refine (of_no _ _ _ _ (.inl rfl)).mono ?_; rintro r w1 ⟨rfl, hb⟩; have HB1 := hid (step HB.out (hb.mono (Nat.le_refl _))); have HN1 := hid (HN.out.stays hb); clear hb HB HN)
  go_upto_region 6 with (go_at_call 47; refine (of_no _ _ _ _ HN1.out).mono ?_; rintro r w2 ⟨rfl, hb⟩; have HB2 := hid (step HB1.out hb); have HN2 := hid (HN1.out.stays hb); clear hb HB1 HN1)
  have HM := hid (NM.mk (Y := w2.heap.size) (s := ⟨t, q, o, k⟩) (step HB2.out (Joins.below_alloc1 w2 (.cells #[.int .i64 t, .int .i64 q, .int .i64 o, .int .i64 k] 32))) (HN2.out.stays (Joins.below_alloc1 _ _)) (by simp) (by simp) (by simp) (by simp) (by simp) ((HT.out.stays HB2.out).stays (Joins.below_alloc1 _ _)))
  obtain ⟨Y, hY⟩ : ∃ Y, Y = w2.heap.size := ⟨_, rfl⟩
  rw [← hY] at HM
  simp only [← hY]
  clear hY HN2 HB2
  generalize World.alloc w2 _ = wv at HM ⊢
  have c0 := HM.out.c0; have c1 := HM.out.c1; have c2 := HM.out.c2; have c3 := HM.out.c3; have hz := HM.out.size
  go_wp2_with (first
    | (go_at_call 41; (first | (with_reducible refine (lay_no none _ _ _ (NoMap.nil _)).mono ?_) | (with_reducible refine (lay_no _ _ _ _ HM.out.nm).mono ?_)); rintro r wn ⟨rfl, hb⟩; have HN := hid (HM.out.stays hb); clear hb c0 c1 c2 c3 hz HM; have HM := HN; clear HN; have c0 := HM.out.c0; have c1 := HM.out.c1; have c2 := HM.out.c2; have c3 := HM.out.c3; have hz := HM.out.size)
    | (go_at_call 43; (with_reducible refine (lift_no none _ _ _ (NoMap.nil _)).mono ?_); rintro r wn ⟨rfl, hb⟩; have HN := hid (HM.out.stays hb); clear hb c0 c1 c2 c3 hz HM; have HM := HN; clear HN; have c0 := HM.out.c0; have c1 := HM.out.c1; have c2 := HM.out.c2; have c3 := HM.out.c3; have hz := HM.out.size)
    | (go_at_call 45; (first | (with_reducible refine (put_no none _ _ _ _ _ (NoMap.nil _)).mono ?_) | (with_reducible refine (put_no _ _ _ _ _ _ HM.out.nm).mono ?_)); rintro r wn ⟨rfl, hb⟩; have HN := hid (HM.out.stays hb); clear hb c0 c1 c2 c3 hz HM; have HM := HN; clear HN; have c0 := HM.out.c0; have c1 := HM.out.c1; have c2 := HM.out.c2; have c3 := HM.out.c3; have hz := HM.out.size)
    | (go_at_call 46; (with_reducible refine (take_no none _ _ _ _ (NoMap.nil _)).mono ?_); rintro r wn ⟨rfl, hb⟩; have HN := hid (HM.out.stays hb); clear hb c0 c1 c2 c3 hz HM; have HM := HN; clear HN; have c0 := HM.out.c0; have c1 := HM.out.c1; have c2 := HM.out.c2; have c3 := HM.out.c3; have hz := HM.out.size)
    | (go_at_call 48; (first | (with_reducible refine (blocks_no none _ (NoMap.nil _)).mono ?_) | (with_reducible refine (blocks_no _ _ HM.out.nm).mono ?_)); rintro r wn ⟨rfl, hb⟩; have HN := hid (HM.out.stays hb); clear hb c0 c1 c2 c3 hz HM; have HM := HN; clear HN; have c0 := HM.out.c0; have c1 := HM.out.c1; have c2 := HM.out.c2; have c3 := HM.out.c3; have hz := HM.out.size)
    | (go_at_call 17; (refine (known_any _ HM.out.tab).mono ?_); rintro r wn ⟨rfl, hb⟩; have HN := hid (HM.out.stays hb); clear hb c0 c1 c2 c3 hz HM; have HM := HN; clear HN; have c0 := HM.out.c0; have c1 := HM.out.c1; have c2 := HM.out.c2; have c3 := HM.out.c3; have hz := HM.out.size))
  go_ret
  exact ⟨rfl, HM.out.below⟩
end Go.Proofs.YtbfpcolkbfljoaaDoor
