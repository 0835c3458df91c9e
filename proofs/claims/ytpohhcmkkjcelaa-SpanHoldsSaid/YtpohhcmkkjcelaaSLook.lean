/-
  The walks of length, look, top, faces and cost of spans, of the program.
-/
import Derived.Test.YtpohhcmkkjcelaaSSmall
namespace Go.Proofs.Ytpohhcmkkjcelaa
open Go.RowKit

set_option maxHeartbeats 1600000 in
theorem length_any (W H : Nat) (hW1 : 4 ≤ W) (hW : W ≤ 32) (ao : Option Addr) (n cap : Nat) (Z : Nat → Int) (k u : Int) (a b : Nat) (ha : a ≤ 1024) (hb0 : b ≤ 1024) (hl : Line W a b) (w : World) (hI : Ints w ao n Z) :
    Calls Try.prog 48 #[lv W H (.slice ao n cap), sv k a b u] w fun e w' => e = .returned (.int .i64 (cnt (stp W a b) a b : Nat)) ∧ Below w.heap.size w w' := by
  have HM := hid (mb_start (W := W) (H := H) (cap := cap) (k := k) (a := a) (b := b) (u := u) hI)
  have hlc := len_cnt hW1 hl.2 hl.1
  have hab := hl.1
  have hsp := stp_pos (W := W) (a := a) (b := b) hW1
  obtain ⟨d, hd⟩ : ∃ d, d = stp W a b := ⟨_, rfl⟩
  have HD := hid hd
  rw [← hd] at hlc hsp ⊢
  obtain ⟨c, hc⟩ : ∃ c, c = cnt d a b := ⟨_, rfl⟩
  rw [← hc] at hlc ⊢
  have hc2 : c ≤ 1024 := by have : (b - a) / d ≤ b - a := Nat.div_le_self _ _; omega
  have e1 : ((b : Int) - (a : Int)) / (d : Int) = (c : Int) + 1 := by rw [show ((c : Int) + 1) = ((c + 1 : Nat) : Int) from rfl, ← hlc, ← Int.ofNat_sub (by omega)]; simp
  have w1 : IntKind.i64.wrap ((b : Int) - (a : Int)) = (b : Int) - (a : Int) := by rw [IntKind.wrap_i64]; omega
  have w2 : IntKind.i64.wrap ((c : Int) + 1) = (c : Int) + 1 := by rw [IntKind.wrap_i64]; omega
  have w3 : IntKind.i64.wrap (c : Int) = (c : Int) := by rw [IntKind.wrap_i64]; omega
  have hd1 : 1 ≤ d := hsp.1
  have hd2 : d ≤ 32 := by omega
  have hd0 : (0 : Int) < (d : Int) := by omega
  have hdn : ¬ (d : Int) = 0 := by omega
  have hd3 : ((d : Int) == 0) = false := by rw [beq_eq_false_iff_ne]; omega
  clear hI hc hd hlc hsp hl
  go_enter Try.func48, Try.ntmps48
  go_wp2_with fail
  refine wp_region_held_drew (S := (fun wr => MB W H ao n cap Z k a b u w wr ∧ wr.cell? ⟨w.heap.size, 0, none⟩ = some (.int .i64 W) ∧ wr.cell? ⟨w.heap.size, 1, none⟩ = some (.int .i64 H) ∧ wr.cell? ⟨w.heap.size, 2, none⟩ = some (.slice ao n cap) ∧ wr.cell? ⟨w.heap.size + 1, 0, none⟩ = some (.int .i64 k) ∧ wr.cell? ⟨w.heap.size + 1, 1, none⟩ = some (.int .i64 a) ∧ wr.cell? ⟨w.heap.size + 1, 2, none⟩ = some (.int .i64 b) ∧ wr.cell? ⟨w.heap.size + 1, 3, none⟩ = some (.int .i64 u))) (by kernel_rfl) (mb_keep (And.intro HM.out trivial) ((Below.refl _ _).drew)) (fun hHeld => ?_)
  refine wpAnyH_take (i := 0) (oi := { dst := some 5, op := Op.fieldAddr 26 (Operand.tmp 3) 2, type := 0, pos := "span.go:145", after := #[], guard := none }) (v := ?_) rfl (by kernel_rfl) (by kernel_rfl) (by kernel_rfl) (fun _ _ _ h => h) (Or.inl ⟨by rfl, ?_⟩) (by assumption) ?_
  rotate_left
  · intro w hSw; (try dsimp only at hSw); go_simp; try (with_reducible rfl)
  try simp only [Act.put, List.setIfInBounds_toArray, List.set_cons_zero, List.set_cons_succ]
  refine wpAnyH_take (i := 1) (oi := { dst := some 6, op := Op.load 3 (Operand.tmp 5), type := 3, pos := "span.go:145", after := #[{ on := 0, ground := Ground.data }], guard := none }) (v := ?_) rfl (by kernel_rfl) (by kernel_rfl) (by kernel_rfl) (fun _ _ _ h => h) (Or.inl ⟨by rfl, ?_⟩) (by assumption) ?_
  rotate_left
  · intro w hSw; (try dsimp only at hSw); go_simp; try (with_reducible rfl)
  try simp only [Act.put, List.setIfInBounds_toArray, List.set_cons_zero, List.set_cons_succ]
  refine wpAnyH_take (i := 2) (oi := { dst := some 7, op := Op.fieldAddr 26 (Operand.tmp 3) 1, type := 0, pos := "span.go:145", after := #[], guard := none }) (v := ?_) rfl (by kernel_rfl) (by kernel_rfl) (by kernel_rfl) (fun _ _ _ h => h) (Or.inl ⟨by rfl, ?_⟩) (by assumption) ?_
  rotate_left
  · intro w hSw; (try dsimp only at hSw); go_simp; try (with_reducible rfl)
  try simp only [Act.put, List.setIfInBounds_toArray, List.set_cons_zero, List.set_cons_succ]
  refine wpAnyH_take (i := 3) (oi := { dst := some 8, op := Op.load 3 (Operand.tmp 7), type := 3, pos := "span.go:145", after := #[{ on := 2, ground := Ground.data }], guard := none }) (v := ?_) rfl (by kernel_rfl) (by kernel_rfl) (by kernel_rfl) (fun _ _ _ h => h) (Or.inl ⟨by rfl, ?_⟩) (by assumption) ?_
  rotate_left
  · intro w hSw; (try dsimp only at hSw); go_simp; try (with_reducible rfl)
  try simp only [Act.put, List.setIfInBounds_toArray, List.set_cons_zero, List.set_cons_succ]
  refine wpAnyH_take (i := 4) (oi := { dst := some 9, op := Op.binOp BinOp.sub 3 (Operand.tmp 6) (Operand.tmp 8) 3, type := 3, pos := "span.go:145", after := #[{ on := 1, ground := Ground.data }, { on := 3, ground := Ground.data }], guard := none }) (v := ?_) rfl (by kernel_rfl) (by kernel_rfl) (by kernel_rfl) (fun _ _ _ h => h) (Or.inl ⟨by rfl, ?_⟩) (by assumption) ?_
  rotate_left
  · intro w hSw; (try dsimp only at hSw); go_simp; try (with_reducible rfl)
  try simp only [Act.put, List.setIfInBounds_toArray, List.set_cons_zero, List.set_cons_succ]
  refine wpAnyH_take (i := 5) (oi := { dst := some 10, op := Op.load 24 (Operand.tmp 2), type := 24, pos := "span.go:145", after := #[], guard := none }) (v := ?_) rfl (by kernel_rfl) (by kernel_rfl) (by kernel_rfl) (fun _ _ _ h => h) (Or.inl ⟨by rfl, ?_⟩) (by assumption) ?_
  rotate_left
  · intro w hSw; (try dsimp only at hSw); go_simp; try (with_reducible rfl)
  try simp only [Act.put, List.setIfInBounds_toArray, List.set_cons_zero, List.set_cons_succ]
  refine wpAnyH_take (i := 6) (oi := { dst := some 11, op := Op.load 26 (Operand.tmp 3), type := 26, pos := "span.go:145", after := #[], guard := none }) (v := ?_) rfl (by kernel_rfl) (by kernel_rfl) (by kernel_rfl) (fun _ _ _ h => h) (Or.inl ⟨by rfl, ?_⟩) (by assumption) ?_
  rotate_left
  · intro w hSw; (try dsimp only at hSw); go_simp; try (with_reducible rfl)
  try simp only [Act.put, List.setIfInBounds_toArray, List.set_cons_zero, List.set_cons_succ]
  refine wpAnyH_ready (rs := [7]) (by kernel_rfl) (by simp) ?_
  refine AllReadyH.cons (o := { dst := some 12, op := Op.call { callee := Callee.value (Operand.func 73), args := #[Operand.tmp 10, Operand.tmp 11], argTypes := #[24, 26] }, type := 3, pos := "span.go:145", after := #[{ on := 5, ground := Ground.data }, { on := 6, ground := Ground.data }], guard := none }) rfl (fun K hK => ?_) AllReadyH.nil
  go_simp
  refine (step_any W H hW1 hW ao n cap Z k u a b ha hb0 _ (mb_ints (by assumption))).mono ?_
  rw [← HD.out]
  rintro e w' ⟨rfl, hb⟩
  try go_wp2_with fail
  refine hK.out _ _ (by first | exact mb_keep (by assumption) hb | assumption) (fun hHeld2 => ?_)
  clear hK K
  try simp only [Act.put, List.setIfInBounds_toArray, List.set_cons_zero, List.set_cons_succ]
  refine wpAnyH_ready (rs := [8]) (by kernel_rfl) (by simp) ?_
  refine AllReadyH.cons (o := { dst := some 13, op := Op.binOp BinOp.quo 3 (Operand.tmp 9) (Operand.tmp 12) 3, type := 3, pos := "span.go:145", after := #[{ on := 4, ground := Ground.data }, { on := 7, ground := Ground.data }], guard := none }) rfl (fun K hK => ?_) AllReadyH.nil
  go_simp
  skip
  try go_wp2_with fail
  refine hK.out _ _ (by first | exact mb_keep (by assumption) hb | assumption) (fun hHeld3 => ?_)
  clear hK K
  try simp only [Act.put, List.setIfInBounds_toArray, List.set_cons_zero, List.set_cons_succ]
  refine wpAnyH_take (i := 9) (oi := { dst := some 14, op := Op.binOp BinOp.sub 3 (Operand.tmp 13) (Operand.const (Value.int IntKind.i64 1)) 3, type := 3, pos := "span.go:145", after := #[{ on := 8, ground := Ground.data }], guard := none }) (v := ?_) rfl (by kernel_rfl) (by kernel_rfl) (by kernel_rfl) (fun _ _ _ h => h) (Or.inl ⟨by rfl, ?_⟩) (by assumption) ?_
  rotate_left
  · intro w hSw; (try dsimp only at hSw); go_simp; try (with_reducible rfl)
  try simp only [Act.put, List.setIfInBounds_toArray, List.set_cons_zero, List.set_cons_succ]
  refine wpAnyH_take (i := 10) (oi := { dst := some 4, op := Op.assign (Operand.tmp 14), type := 3, pos := "span.go:145", after := #[{ on := 9, ground := Ground.data }, { on := 7, ground := Ground.chain }, { on := 0, ground := Ground.phase }, { on := 1, ground := Ground.phase }, { on := 2, ground := Ground.phase }, { on := 3, ground := Ground.phase }, { on := 4, ground := Ground.phase }, { on := 5, ground := Ground.phase }, { on := 6, ground := Ground.phase }, { on := 7, ground := Ground.phase }, { on := 8, ground := Ground.phase }, { on := 9, ground := Ground.phase }], guard := none }) (v := ?_) rfl (by kernel_rfl) (by kernel_rfl) (by kernel_rfl) (fun _ _ _ h => h) (Or.inl ⟨by rfl, ?_⟩) (by assumption) ?_
  rotate_left
  · intro w hSw; (try dsimp only at hSw); go_simp; try (with_reducible rfl)
  try simp only [Act.put, List.setIfInBounds_toArray, List.set_cons_zero, List.set_cons_succ]
  refine wpAnyH_done (by kernel_rfl) ?_ _
  go_wp2_with fail
  go_ret
  exact ⟨rfl, mb_below (by assumption)⟩

theorem set2 {w : World} {g : Nat} {t : TypeId} {p q : Value} (h : w.heap[g]? = some (.cells #[p, q] t (0, 0))) (a b : Value) :
    ((w.setCell ⟨g, 0, none⟩ a).setCell ⟨g, 1, none⟩ b).heap[g]? = some (.cells #[a, b] t (0, 0)) :=
  heap_setCell_same _ g 1 _ _ b (heap_setCell_same _ g 0 _ _ a h)
/-- What the program's look tells of a tile. -/
abbrev gv (s b : Int) : Value := .agg #[.int .i64 s, .int .i64 b]
set_option maxHeartbeats 1600000 in
theorem look_any (W H : Nat) (ao : Option Addr) (n cap : Nat) (Z : Nat → Int) (hg : Good W H n Z) (t : Nat) (ht : t < W * H) (w : World) (hI : Ints w ao n Z) :
    Calls Try.prog 84 #[lv W H (.slice ao n cap), .int .i64 t] w fun e w' => e = .returned (gv (slope W Z t) (base W Z t)) ∧ Below w.heap.size w w' := by
  have hst := bx2_start w 24 88 #[.int .i64 W, .int .i64 H, .slice ao n cap] #[.int .i64 0, .int .i64 0]
  have HI := hid (hI.stays hst.below)
  have HST := hid hst
  have HG := hid hg
  have HT := hid ht
  obtain ⟨A, hA⟩ : ∃ A, A = w.heap.size := ⟨_, rfl⟩
  have HA := hid hA
  obtain ⟨q, hq⟩ : ∃ q, q = slope W Z t := ⟨_, rfl⟩
  obtain ⟨m, hm⟩ : ∃ m, m = base W Z t := ⟨_, rfl⟩
  have HQ := hid hq
  have HM := hid hm
  rw [← hq, ← hm]
  clear hI hst hg ht hq hm
  go_enter Try.func84, Try.ntmps84
  go_wp2_with fail
  refine (slope_ok W H ao n cap Z HG.out t HT.out _ HI.out).mono ?_
  rintro r w1 ⟨rfl, hb1⟩
  rw [← HQ.out, ← HM.out]
  have H1 := hid (HST.out.stays hb1)
  simp only [← hA] at H1 ⊢
  have r0 := cell_of_row w1 (A + 1) 0 _ _ _ H1.out.hr
  have r1 := cell_of_row w1 (A + 1) 1 _ _ _ H1.out.hr
  have g0 := frozen_of_row w1 (A + 1) 0 _ _ H1.out.hr
  have g1 := frozen_of_row w1 (A + 1) 1 _ _ H1.out.hr
  have hz := heap_lt H1.out.hr
  simp only [List.getElem?_toArray, List.getElem?_cons_zero, List.getElem?_cons_succ] at r0 r1
  clear hb1 hA
  go_wp2_with fail
  have k3 := set2 H1.out.hr (.int .i64 q) (.int .i64 m)
  have k4 : Below A w ((w1.setCell ⟨A + 1, 0, none⟩ (.int .i64 q)).setCell ⟨A + 1, 1, none⟩ (.int .i64 m)) := ((H1.out.below).setCell (p := ⟨A + 1, 0, none⟩) (Nat.le_succ _) _).setCell (p := ⟨A + 1, 1, none⟩) (Nat.le_succ _) _
  generalize World.setCell _ _ _ = w5 at k3 k4 ⊢
  have q0 := cell_of_row w5 (A + 1) 0 _ _ _ k3
  have q1 := cell_of_row w5 (A + 1) 1 _ _ _ k3
  simp at q0 q1
  exact bodyPost_ret (v := gv q m) (by simp [results, Try.results84, go_sem, q0, q1]) rfl ⟨rfl, by rw [← HA.out]; exact k4⟩

set_option maxHeartbeats 800000 in
theorem top_any (s b : Int) (hb : 0 ≤ b ∧ b ≤ 15) (w : World) : Calls Try.prog 86 #[gv s b] w fun e w' => e = .returned (.int .i64 (topP s b)) ∧ Below w.heap.size w w' := by
  have HW := hid (Joins.below_alloc1 w (.cells #[.int .i64 s, .int .i64 b] 88))
  unfold topP
  by_cases h1 : 16 ≤ s
  · rw [if_pos h1]
    go_enter Try.func86, Try.ntmps86
    go_wp2
    go_ret
    exact ⟨rfl, HW.out⟩
  · rw [if_neg h1]
    by_cases h2 : 0 < s
    · rw [if_pos h2]
      go_enter Try.func86, Try.ntmps86
      go_wp2
      go_ret
      exact ⟨rfl, HW.out⟩
    · rw [if_neg h2]
      go_enter Try.func86, Try.ntmps86
      go_wp2
      go_ret
      exact ⟨rfl, HW.out⟩

set_option maxHeartbeats 1600000 in
theorem faces_any (W H : Nat) (hW1 : 4 ≤ W) (hW : W ≤ 32) (s : Value) (k u : Int) (a b : Nat) (ha : a ≤ 1024) (hb0 : b ≤ 1024) (sa ma sb mb : Int) (r : Bool)
    (hr : r = true ↔ if InRow W a b then sa = 6 ∧ sb = 9 else sa = 12 ∧ sb = 3) (w : World) :
    Calls Try.prog 85 #[lv W H s, sv k a b u, gv sa ma, gv sb mb] w fun e w' => e = .returned (.bool r) ∧ Below w.heap.size w w' := by
  obtain ⟨w0, hw0⟩ : ∃ w0, w0 = (((w.alloc (.cells #[.int .i64 W, .int .i64 H, s] 24)).alloc (.cells #[.int .i64 k, .int .i64 a, .int .i64 b, .int .i64 u] 26)).alloc (.cells #[.int .i64 sa, .int .i64 ma] 88)).alloc (.cells #[.int .i64 sb, .int .i64 mb] 88) := ⟨_, rfl⟩
  have hB0 : Below w.heap.size w w0 := by rw [hw0]; exact (((Joins.below_alloc2 w _ _).alloc (by simp; omega) _).alloc (by simp; omega) _)
  have y0 : w0.heap[w.heap.size + 1 + 1]? = some (.cells #[.int .i64 sa, .int .i64 ma] 88 (0, 0)) := by
    rw [hw0]
    show ((((w.heap.push _).push _).push _).push _)[_]? = _
    rw [Array.getElem?_push, if_neg (by simp), Array.getElem?_push, if_pos (by simp)]
  have y1 : w0.heap[w.heap.size + 1 + 1 + 1]? = some (.cells #[.int .i64 sb, .int .i64 mb] 88 (0, 0)) := by
    rw [hw0]
    show ((((w.heap.push _).push _).push _).push _)[_]? = _
    rw [Array.getElem?_push, if_pos (by simp)]
  have x0 : w0.cell? ⟨w.heap.size + 1 + 1, 0, none⟩ = some (.int .i64 sa) := cell_of_row w0 _ 0 _ _ _ y0
  have x1 : w0.cell? ⟨w.heap.size + 1 + 1 + 1, 0, none⟩ = some (.int .i64 sb) := cell_of_row w0 _ 0 _ _ _ y1
  have hz : w.heap.size + 1 + 1 + 1 < w0.heap.size := by rw [hw0]; simp
  have HB := hid (And.intro hB0 (And.intro x0 (And.intro x1 hz)))
  clear hB0 x0 x1 y0 y1 hz
  by_cases hir : InRow W a b
  · rw [if_pos hir] at hr
    have HIR := hid hir
    have HR := hid hr
    clear hir hr
    go_enter Try.func85, Try.ntmps85
    go_wp2_with fail
    refine (inRow_any W H hW1 hW _ k u a b ha hb0 true ⟨fun _ => HIR.out, fun _ => rfl⟩ _).mono ?_
    rintro e w1 ⟨rfl, hb1⟩
    rw [← hw0] at hb1
    have x0 := (hb1.cell (p := ⟨w.heap.size + 1 + 1, 0, none⟩) (by have := HB.out.2.2.2; show w.heap.size + 1 + 1 < _; omega)).trans HB.out.2.1
    have x1 := (hb1.cell (p := ⟨w.heap.size + 1 + 1 + 1, 0, none⟩) HB.out.2.2.2).trans HB.out.2.2.1
    have HB1 := hid (HB.out.1.trans (hb1.mono (by have := HB.out.2.2.2; omega)))
    clear hb1 hw0
    by_cases h6 : sa = 6
    · have hr' : r = true ↔ sb = 9 := by rw [HR.out]; exact ⟨fun h => h.2, fun h => ⟨h6, h⟩⟩
      have HR' := hid hr'
      clear hr'
      go_wp2_with fail
      go_ret
      exact ⟨ret_bool (by rw [Bool.eq_iff_iff, HR'.out]; simp), HB1.out⟩
    · have hr' : r = false := by rw [Bool.eq_false_iff, ne_eq, HR.out]; exact fun h => h6 h.1
      have HR' := hid hr'
      clear hr'
      go_wp2_with fail
      go_ret
      exact ⟨ret_bool (by rw [HR'.out]), HB1.out⟩
  · rw [if_neg hir] at hr
    have HIR := hid hir
    have HR := hid hr
    clear hir hr
    go_enter Try.func85, Try.ntmps85
    go_wp2_with fail
    refine (inRow_any W H hW1 hW _ k u a b ha hb0 false ⟨fun h => (by cases h), fun h => absurd h HIR.out⟩ _).mono ?_
    rintro e w1 ⟨rfl, hb1⟩
    rw [← hw0] at hb1
    have x0 := (hb1.cell (p := ⟨w.heap.size + 1 + 1, 0, none⟩) (by have := HB.out.2.2.2; show w.heap.size + 1 + 1 < _; omega)).trans HB.out.2.1
    have x1 := (hb1.cell (p := ⟨w.heap.size + 1 + 1 + 1, 0, none⟩) HB.out.2.2.2).trans HB.out.2.2.1
    have HB1 := hid (HB.out.1.trans (hb1.mono (by have := HB.out.2.2.2; omega)))
    clear hb1 hw0
    by_cases h6 : sa = 12
    · have hr' : r = true ↔ sb = 3 := by rw [HR.out]; exact ⟨fun h => h.2, fun h => ⟨h6, h⟩⟩
      have HR' := hid hr'
      clear hr'
      go_wp2_with fail
      go_ret
      exact ⟨ret_bool (by rw [Bool.eq_iff_iff, HR'.out]; simp), HB1.out⟩
    · have hr' : r = false := by rw [Bool.eq_false_iff, ne_eq, HR.out]; exact fun h => h6 h.1
      have HR' := hid hr'
      clear hr'
      go_wp2_with fail
      go_ret
      exact ⟨ret_bool (by rw [HR'.out]), HB1.out⟩

set_option maxHeartbeats 1600000 in
theorem cost_any (W H : Nat) (hW1 : 4 ≤ W) (hW : W ≤ 32) (ao : Option Addr) (n cap : Nat) (Z : Nat → Int) (k u : Int) (hk : 0 ≤ k ∧ k ≤ 1) (a b : Nat) (ha : a ≤ 1024) (hb0 : b ≤ 1024) (hl : Line W a b) (w : World) (hI : Ints w ao n Z) :
    Calls Try.prog 34 #[lv W H (.slice ao n cap), sv k a b u] w fun e w' => e = .returned (.int .i64 (prc k (cnt (stp W a b) a b))) ∧ Below w.heap.size w w' := by
  have HM := hid (mb_start (W := W) (H := H) (cap := cap) (k := k) (a := a) (b := b) (u := u) hI)
  obtain ⟨c, hc⟩ : ∃ c, c = cnt (stp W a b) a b := ⟨_, rfl⟩
  have HC := hid hc
  rw [← hc]
  have hc2 : c ≤ 1024 := by rw [hc]; unfold cnt; exact Nat.le_trans (Nat.div_le_self _ _) (by omega)
  have HL := hid hl
  obtain ⟨m, hm⟩ : ∃ m, m = c * c := ⟨_, rfl⟩
  have hm2 : m ≤ 1024 * 1024 := by rw [hm]; exact Nat.mul_le_mul hc2 hc2
  have e1 : (c : Int) * (c : Int) = (m : Int) := by rw [hm]; simp
  unfold prc
  rw [e1]
  obtain ⟨p, hp⟩ : ∃ p : Int, p = (m : Int) * 1000 / 4 := ⟨_, rfl⟩
  have hp2 : 0 ≤ p ∧ p ≤ 1000000000 := by rw [hp]; omega
  have w1 : IntKind.i64.wrap p = p := by rw [IntKind.wrap_i64]; omega
  have w2 : IntKind.i64.wrap ((m : Int) * 1000) = (m : Int) * 1000 := by rw [IntKind.wrap_i64]; omega
  have w3 : IntKind.i64.wrap (m : Int) = (m : Int) := by rw [IntKind.wrap_i64]; omega
  have e3 : (m : Int) * 1000 / 4 = p := hp.symm
  rw [e3]
  clear hp
  clear hI hc hm hl
  rcases (show k = 0 ∨ k = 1 by omega) with rfl | rfl
  all_goals
    clear hk
    go_enter Try.func34, Try.ntmps34
    go_wp2_with fail
    refine (length_any W H hW1 hW ao n cap Z _ u a b ha hb0 HL.out _ HM.out.ints).mono ?_
    rintro e w1 ⟨rfl, hb1⟩
    rw [← HC.out]
    have H1 := hid (HM.out.stays hb1)
    have d0 := H1.out.d0
    clear hb1
    go_wp2_with fail
    go_ret
    exact ⟨ret_int (by omega), H1.out.below⟩
end Go.Proofs.Ytpohhcmkkjcelaa
