/-
  The walks of the small tests of spans, of the program.
-/
import Derived.Test.YtpohhcmkkjcelaaSSpan
namespace Go.Proofs.Ytpohhcmkkjcelaa
open Go.RowKit

/-- The boxes of a land and of a span that were handed by value, behind whatever calls. -/
structure MB (W H : Int) (ao : Option Addr) (n cap : Nat) (Z : Nat → Int) (k a b u : Int) (w wr : World) : Prop where
  below : Below w.heap.size w wr
  size : w.heap.size + 1 < wr.heap.size
  c0 : wr.cell? ⟨w.heap.size, 0, none⟩ = some (.int .i64 W)
  c1 : wr.cell? ⟨w.heap.size, 1, none⟩ = some (.int .i64 H)
  c2 : wr.cell? ⟨w.heap.size, 2, none⟩ = some (.slice ao n cap)
  d0 : wr.cell? ⟨w.heap.size + 1, 0, none⟩ = some (.int .i64 k)
  d1 : wr.cell? ⟨w.heap.size + 1, 1, none⟩ = some (.int .i64 a)
  d2 : wr.cell? ⟨w.heap.size + 1, 2, none⟩ = some (.int .i64 b)
  d3 : wr.cell? ⟨w.heap.size + 1, 3, none⟩ = some (.int .i64 u)
  ints : Ints wr ao n Z
section
variable {W H : Int} {ao : Option Addr} {n cap : Nat} {Z : Nat → Int} {k a b u : Int} {w wr w' : World}
theorem MB.stays (h : MB W H ao n cap Z k a b u w wr) (q : Below wr.heap.size wr w') : MB W H ao n cap Z k a b u w w' :=
  have hs := h.size
  have h0 : w.heap.size < wr.heap.size := by omega
  ⟨step h.below q, Nat.lt_of_lt_of_le h.size q.size, (q.cell (p := ⟨w.heap.size, 0, none⟩) h0).trans h.c0, (q.cell (p := ⟨w.heap.size, 1, none⟩) h0).trans h.c1, (q.cell (p := ⟨w.heap.size, 2, none⟩) h0).trans h.c2,
    (q.cell (p := ⟨w.heap.size + 1, 0, none⟩) h.size).trans h.d0, (q.cell (p := ⟨w.heap.size + 1, 1, none⟩) h.size).trans h.d1, (q.cell (p := ⟨w.heap.size + 1, 2, none⟩) h.size).trans h.d2, (q.cell (p := ⟨w.heap.size + 1, 3, none⟩) h.size).trans h.d3, h.ints.stays q⟩
theorem mb_start (hI : Ints w ao n Z) : MB W H ao n cap Z k a b u w ((w.alloc (.cells #[.int .i64 W, .int .i64 H, .slice ao n cap] 24)).alloc (.cells #[.int .i64 k, .int .i64 a, .int .i64 b, .int .i64 u] 26)) :=
  ⟨Joins.below_alloc2 _ _ _, by simp, by simp, by simp, by simp, by simp, by simp, by simp, by simp, hI.stays (Joins.below_alloc2 _ _ _)⟩
theorem MB.drew (h : MB W H ao n cap Z k a b u w wr) : MB W H ao n cap Z k a b u w wr.drew := h.stays ((Below.refl _ _).drew)
theorem mb_keep {p : Prop} (h : MB W H ao n cap Z k a b u w wr ∧ p) (hb : Below wr.heap.size wr w') :
    MB W H ao n cap Z k a b u w w' ∧ w'.cell? ⟨w.heap.size, 0, none⟩ = some (.int .i64 W) ∧ w'.cell? ⟨w.heap.size, 1, none⟩ = some (.int .i64 H) ∧ w'.cell? ⟨w.heap.size, 2, none⟩ = some (.slice ao n cap) ∧ w'.cell? ⟨w.heap.size + 1, 0, none⟩ = some (.int .i64 k) ∧ w'.cell? ⟨w.heap.size + 1, 1, none⟩ = some (.int .i64 a) ∧ w'.cell? ⟨w.heap.size + 1, 2, none⟩ = some (.int .i64 b) ∧ w'.cell? ⟨w.heap.size + 1, 3, none⟩ = some (.int .i64 u) :=
  have q := h.1.stays hb
  ⟨q, q.c0, q.c1, q.c2, q.d0, q.d1, q.d2, q.d3⟩
theorem mb_ints {p : Prop} (h : MB W H ao n cap Z k a b u w wr ∧ p) : Ints wr ao n Z := h.1.ints
theorem mb_below {p : Prop} (h : MB W H ao n cap Z k a b u w wr ∧ p) : Below w.heap.size w wr := h.1.below
theorem mb_of {p : Prop} (h : MB W H ao n cap Z k a b u w wr ∧ p) : MB W H ao n cap Z k a b u w wr := h.1
/-- The cells of the boxes, by a name for the first one's block. -/
theorem MB.at (h : MB W H ao n cap Z k a b u w wr) {X : Nat} (hX : X = w.heap.size) :
    wr.cell? ⟨X, 0, none⟩ = some (.int .i64 W) ∧ wr.cell? ⟨X, 1, none⟩ = some (.int .i64 H) ∧ wr.cell? ⟨X, 2, none⟩ = some (.slice ao n cap) ∧ wr.cell? ⟨X + 1, 0, none⟩ = some (.int .i64 k) ∧ wr.cell? ⟨X + 1, 1, none⟩ = some (.int .i64 a) ∧ wr.cell? ⟨X + 1, 2, none⟩ = some (.int .i64 b) ∧ wr.cell? ⟨X + 1, 3, none⟩ = some (.int .i64 u) ∧ X + 1 < wr.heap.size := by
  subst hX; exact ⟨h.c0, h.c1, h.c2, h.d0, h.d1, h.d2, h.d3, h.size⟩
end

set_option maxHeartbeats 800000 in
theorem spTile_any (W H : Nat) (hW : W ≤ 32) (hH : H ≤ 32) (s : Value) (t : Int) (r : Bool) (hr : r = true ↔ Tl W H t) (w : World) : Calls Try.prog 44 #[lv W H s, .int .i64 t] w fun e w' => e = .returned (.bool r) ∧ Below w.heap.size w w' := by
  obtain ⟨m, hm⟩ : ∃ m, m = W * H := ⟨_, rfl⟩
  have e1 : (W : Int) * (H : Int) = (m : Int) := by rw [hm]; simp
  have hm2 : m ≤ 1024 := by rw [hm]; exact mul_small hW hH
  unfold Tl at hr
  rw [← hm] at hr
  have HR := hid hr
  have HW := hid (Joins.below_alloc1 w (.cells #[.int .i64 W, .int .i64 H, s] 24))
  clear hm hr
  by_cases h : 0 ≤ t
  · go_enter Try.func44, Try.ntmps44
    go_wp2
    go_ret
    exact ⟨ret_bool (by have := HR.out; rw [Bool.eq_iff_iff, this]; simp [h]), HW.out⟩
  · have hf : r = false := by rw [Bool.eq_false_iff]; intro k; exact h (HR.out.1 k).1
    go_enter Try.func44, Try.ntmps44
    go_wp2
    go_ret
    exact ⟨rfl, HW.out⟩
set_option maxHeartbeats 1600000 in
theorem inRow_any (W H : Nat) (hW1 : 4 ≤ W) (hW : W ≤ 32) (s : Value) (k u : Int) (a b : Nat) (ha : a ≤ 1024) (hb : b ≤ 1024) (r : Bool) (hr : r = true ↔ InRow W a b) (w : World) :
    Calls Try.prog 66 #[lv W H s, sv k a b u] w fun e w' => e = .returned (.bool r) ∧ Below w.heap.size w w' := by
  obtain ⟨x, hx⟩ : ∃ x, x = a / W := ⟨_, rfl⟩
  obtain ⟨y, hy⟩ : ∃ y, y = b / W := ⟨_, rfl⟩
  have e1 : (a : Int) / (W : Int) = (x : Int) := by rw [hx]; simp
  have e2 : (b : Int) / (W : Int) = (y : Int) := by rw [hy]; simp
  have hx2 : x ≤ 1024 := by rw [hx]; exact Nat.le_trans (Nat.div_le_self _ _) ha
  have hy2 : y ≤ 1024 := by rw [hy]; exact Nat.le_trans (Nat.div_le_self _ _) hb
  have w1 : IntKind.i64.wrap (x : Int) = (x : Int) := by rw [IntKind.wrap_i64]; omega
  have w2 : IntKind.i64.wrap (y : Int) = (y : Int) := by rw [IntKind.wrap_i64]; omega
  have HR : Hid (r = true ↔ x = y) := hid (by rw [hx, hy]; exact hr)
  have HW := hid (Joins.below_alloc2 w (.cells #[.int .i64 W, .int .i64 H, s] 24) (.cells #[.int .i64 k, .int .i64 a, .int .i64 b, .int .i64 u] 26))
  clear hx hy hr
  go_enter Try.func66, Try.ntmps66
  go_wp2_with fail
  go_quiet (fail)
  go_wp2_with fail
  go_ret
  exact ⟨ret_bool (by rw [Bool.eq_iff_iff, HR.out]; simp; omega), HW.out.trans (Joins.below_draws _ _ _)⟩
set_option maxHeartbeats 1600000 in
theorem inCol_any (W H : Nat) (hW1 : 4 ≤ W) (hW : W ≤ 32) (s : Value) (k u : Int) (a b : Nat) (ha : a ≤ 1024) (hb : b ≤ 1024) (r : Bool) (hr : r = true ↔ InCol W a b) (w : World) :
    Calls Try.prog 67 #[lv W H s, sv k a b u] w fun e w' => e = .returned (.bool r) ∧ Below w.heap.size w w' := by
  obtain ⟨x, hx⟩ : ∃ x, x = a % W := ⟨_, rfl⟩
  obtain ⟨y, hy⟩ : ∃ y, y = b % W := ⟨_, rfl⟩
  have e1 : (a : Int) % (W : Int) = (x : Int) := by rw [hx]; simp
  have e2 : (b : Int) % (W : Int) = (y : Int) := by rw [hy]; simp
  have hx2 : x ≤ 1024 := by rw [hx]; exact Nat.le_trans (Nat.mod_le _ _) ha
  have hy2 : y ≤ 1024 := by rw [hy]; exact Nat.le_trans (Nat.mod_le _ _) hb
  have w1 : IntKind.i64.wrap (x : Int) = (x : Int) := by rw [IntKind.wrap_i64]; omega
  have w2 : IntKind.i64.wrap (y : Int) = (y : Int) := by rw [IntKind.wrap_i64]; omega
  have HR : Hid (r = true ↔ x = y) := hid (by rw [hx, hy]; exact hr)
  have HW := hid (Joins.below_alloc2 w (.cells #[.int .i64 W, .int .i64 H, s] 24) (.cells #[.int .i64 k, .int .i64 a, .int .i64 b, .int .i64 u] 26))
  clear hx hy hr
  go_enter Try.func67, Try.ntmps67
  go_wp2_with fail
  go_quiet (fail)
  go_wp2_with fail
  go_ret
  exact ⟨ret_bool (by rw [Bool.eq_iff_iff, HR.out]; simp; omega), HW.out.trans (Joins.below_draws _ _ _)⟩
set_option maxHeartbeats 1600000 in
theorem step_any (W H : Nat) (hW1 : 4 ≤ W) (hW : W ≤ 32) (ao : Option Addr) (n cap : Nat) (Z : Nat → Int) (k u : Int) (a b : Nat) (ha : a ≤ 1024) (hb : b ≤ 1024) (w : World) (hI : Ints w ao n Z) :
    Calls Try.prog 73 #[lv W H (.slice ao n cap), sv k a b u] w fun e w' => e = .returned (.int .i64 (stp W a b : Nat)) ∧ Below w.heap.size w w' := by
  have HM := hid (mb_start (W := W) (H := H) (cap := cap) (k := k) (a := a) (b := b) (u := u) hI)
  clear hI
  by_cases hr : InRow W a b
  · rw [stp_row hr]
    have HR := hid hr
    clear hr
    go_enter Try.func73, Try.ntmps73
    go_wp2_with fail
    refine (inRow_any W H hW1 hW _ k u a b ha hb true ⟨fun _ => HR.out, fun _ => rfl⟩ _).mono ?_
    rintro r w1 ⟨rfl, hb1⟩
    have H1 := hid (HM.out.stays hb1)
    clear hb1
    go_wp2_with fail
    go_ret
    exact ⟨rfl, H1.out.below⟩
  · rw [stp_col hr]
    have HR := hid hr
    clear hr
    go_enter Try.func73, Try.ntmps73
    go_wp2_with fail
    refine (inRow_any W H hW1 hW _ k u a b ha hb false ⟨fun h => (by cases h), fun h => absurd h HR.out⟩ _).mono ?_
    rintro r w1 ⟨rfl, hb1⟩
    have H1 := hid (HM.out.stays hb1)
    have c0 := H1.out.c0
    clear hb1
    go_wp2_with fail
    go_ret
    exact ⟨rfl, H1.out.below⟩
end Go.Proofs.Ytpohhcmkkjcelaa
