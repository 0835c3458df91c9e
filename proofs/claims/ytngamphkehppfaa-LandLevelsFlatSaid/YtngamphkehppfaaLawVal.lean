/-
  The walk of the law on the first error of a land, and of 'large'.
-/
import Derived.Test.YtngamphkehppfaaWalkKnown
namespace Go.Proofs.Ytngamphkehppfaa
open Go.RowKit

/-- The greatest of a length and the first k of a list of lengths. -/
def mx (n : Nat) (Ln : Nat → Nat) : Nat → Nat
  | 0 => n
  | k + 1 => max (mx n Ln k) (Ln k)
theorem mx_ge (n : Nat) (Ln : Nat → Nat) (k : Nat) : n ≤ mx n Ln k := by
  induction k with
  | zero => exact Nat.le_refl _
  | succ k ih => exact Nat.le_trans ih (Nat.le_max_left _ _)

set_option maxHeartbeats 1600000 in
theorem large_any (W H : Int) (ao : Option Addr) (n cap : Nat) (hn : n ≤ 9223372036854775807) (lo : Option Addr) (k kc : Nat) (hk : k ≤ 4) (A : Nat → Option Addr) (Ln C : Nat → Nat) (hLn : ∀ j, j < k → Ln j ≤ 9223372036854775807) (w : World)
    (hl : ∀ j, j < k → ∃ b off, lo = some ⟨b, off, none⟩ ∧ b < w.heap.size ∧ w.cell? ⟨b, off + j, none⟩ = some (.slice (A j) (Ln j) (C j))) :
    Calls Try.prog 15 #[lv W H (.slice ao n cap), .slice lo k kc] w fun r w' => r = .returned (.bool (decide (4000 < mx n Ln k))) ∧ Below w.heap.size w w' := by
  have HL := hid hl
  have HLN := hid hLn
  have HB := hid (Joins.below_alloc1 w (.cells #[.int .i64 W, .int .i64 H, .slice ao n cap] 24))
  clear hl hLn
  go_enter Try.func15, Try.ntmps15
  go_wp2_with fail
  go_loop [5, 13] (fun mv iv => ∃ j : Nat, j ≤ k ∧ iv = .int .i64 j ∧ mv = .int .i64 (mx n Ln j) ∧ Hid (mx n Ln j ≤ 9223372036854775807)) (fun _ iv => k - (intOf iv).toNat)
  case atStart => exact ⟨0, Nat.zero_le _, rfl, rfl, hid hn⟩
  case round =>
    obtain ⟨j, hj, rfl, rfl, hmx⟩ := hrel
    by_cases hlt : j < k
    · obtain ⟨b, off, rfl, hbz, hc⟩ := HL.out j hlt
      have hl1 := HLN.out j hlt
      have hl2 := hmx.out
      obtain ⟨q, hq⟩ : ∃ q, q = mx n Ln j := ⟨_, rfl⟩
      obtain ⟨l, hl⟩ : ∃ l, l = Ln j := ⟨_, rfl⟩
      have e : mx n Ln (j + 1) = max q l := by rw [hq, hl]; rfl
      have HE := hid e
      rw [← hq] at hl2 ⊢
      rw [← hl] at hl1 hc
      clear e hq hl hmx
      go_wp2
      all_goals
        go_round
        case rel => exact ⟨j + 1, by omega, by go_num, by rw [HE.out]; congr 1; omega, hid (by rw [HE.out]; omega)⟩
        case measure => simp [intOf]; omega
    · obtain rfl : k = j := by omega
      go_wp2
      go_ret
      exact ⟨ret_bool (by rw [Bool.eq_iff_iff]; simp; try omega), HB.out⟩

theorem large0_yes (W H : Int) (ao : Option Addr) (n cap : Nat) (hn : n ≤ 9223372036854775807) (h : 4000 < n) (w : World) :
    Calls Try.prog 15 #[lv W H (.slice ao n cap), .slice none 0 0] w fun r w' => r = .returned (.bool true) ∧ Below w.heap.size w w' := by
  refine (large_any W H ao n cap hn none 0 0 (by omega) (fun _ => none) (fun _ => 0) (fun _ => 0) (fun j hj => by omega) w (fun j hj => by omega)).mono ?_
  rintro r w' ⟨rfl, hb⟩
  exact ⟨ret_bool (decide_eq_true h), hb⟩
theorem large0_no (W H : Int) (ao : Option Addr) (n cap : Nat) (h : n ≤ 4000) (w : World) :
    Calls Try.prog 15 #[lv W H (.slice ao n cap), .slice none 0 0] w fun r w' => r = .returned (.bool false) ∧ Below w.heap.size w w' := by
  refine (large_any W H ao n cap (by omega) none 0 0 (by omega) (fun _ => none) (fun _ => 0) (fun _ => 0) (fun j hj => by omega) w (fun j hj => by omega)).mono ?_
  rintro r w' ⟨rfl, hb⟩
  exact ⟨ret_bool (decide_eq_false (by show ¬ 4000 < n; omega)), hb⟩

/-- The box of a law's land, behind whatever calls. -/
structure LB (W H : Int) (ao : Option Addr) (n cap : Nat) (Z : Nat → Int) (w wr : World) : Prop where
  below : Below w.heap.size w wr
  size : w.heap.size < wr.heap.size
  c0 : wr.cell? ⟨w.heap.size, 0, none⟩ = some (.int .i64 W)
  c1 : wr.cell? ⟨w.heap.size, 1, none⟩ = some (.int .i64 H)
  c2 : wr.cell? ⟨w.heap.size, 2, none⟩ = some (.slice ao n cap)
  ints : Ints wr ao n Z
theorem LB.stays {W H : Int} {ao : Option Addr} {n cap : Nat} {Z : Nat → Int} {w wr w' : World} (h : LB W H ao n cap Z w wr) (k : Below wr.heap.size wr w') : LB W H ao n cap Z w w' :=
  ⟨step h.below k, Nat.lt_of_lt_of_le h.size k.size, (k.cell (p := ⟨w.heap.size, 0, none⟩) h.size).trans h.c0, (k.cell (p := ⟨w.heap.size, 1, none⟩) h.size).trans h.c1, (k.cell (p := ⟨w.heap.size, 2, none⟩) h.size).trans h.c2, h.ints.stays k⟩
theorem lb_start {W H : Int} {ao : Option Addr} {n cap : Nat} {Z : Nat → Int} {w : World} (hI : Ints w ao n Z) : LB W H ao n cap Z w (w.alloc (.cells #[.int .i64 W, .int .i64 H, .slice ao n cap] 24)) :=
  ⟨Joins.below_alloc1 _ _, by simp, by simp, by simp, by simp, hI.stays (Joins.below_alloc1 _ _)⟩

theorem LB.drew {W H : Int} {ao : Option Addr} {n cap : Nat} {Z : Nat → Int} {w wr : World} (h : LB W H ao n cap Z w wr) : LB W H ao n cap Z w wr.drew := h.stays ((Below.refl _ _).drew)
/-- What a region that draws holds on to: the box of a law's land. -/
theorem lb_keep {W H : Int} {ao : Option Addr} {n cap : Nat} {Z : Nat → Int} {w a b : World} {B : Nat} (hB : B = w.heap.size)
    (h : LB W H ao n cap Z w a ∧ a.cell? ⟨B, 0, none⟩ = some (.int .i64 W) ∧ a.cell? ⟨B, 1, none⟩ = some (.int .i64 H) ∧ a.cell? ⟨B, 2, none⟩ = some (.slice ao n cap)) (hb : Below a.heap.size a b) :
    LB W H ao n cap Z w b ∧ b.cell? ⟨B, 0, none⟩ = some (.int .i64 W) ∧ b.cell? ⟨B, 1, none⟩ = some (.int .i64 H) ∧ b.cell? ⟨B, 2, none⟩ = some (.slice ao n cap) := by
  subst hB
  have := h.1.stays hb
  exact ⟨this, this.c0, this.c1, this.c2⟩

theorem lb_ints {W H : Int} {ao : Option Addr} {n cap : Nat} {Z : Nat → Int} {w a : World} {p : Prop} (h : LB W H ao n cap Z w a ∧ p) : Ints a ao n Z := h.1.ints

theorem lb_below {W H : Int} {ao : Option Addr} {n cap : Nat} {Z : Nat → Int} {w a : World} {p : Prop} (h : LB W H ao n cap Z w a ∧ p) : Below w.heap.size w a := h.1.below

set_option maxHeartbeats 1600000 in
theorem walk_validates (W H : Int) (ao : Option Addr) (n cap : Nat) (Z : Nat → Int) (hn : n ≤ 9223372036854775807) (w : World) (hI : Ints w ao n Z) :
    Calls Try.prog 3 #[lv W H (.slice ao n cap)] w fun r w' => r = .returned (.bool true) ∧ Below w.heap.size w w' := by
  obtain ⟨e, he⟩ := VErr.ex W H n Z
  have HE := hid he
  have HL := hid (lb_start (W := W) (H := H) (cap := cap) hI)
  clear hI he
  by_cases h1 : 4000 < n
  · go_enter Try.func3, Try.ntmps3
    go_wp2_with fail
    refine (large0_yes W H ao n cap hn h1 _).mono ?_
    rintro r w1 ⟨rfl, hb1⟩
    have HL1 := hid (HL.out.stays hb1)
    clear hb1
    go_wp2_with fail
    refine (known_any _).mono ?_
    rintro r w2 ⟨rfl, hb2⟩
    go_wp2
    go_ret
    exact ⟨rfl, (HL1.out.stays hb2).below⟩
  · go_enter Try.func3, Try.ntmps3
    go_wp2_with fail
    refine (large0_no W H ao n cap (by omega) _).mono ?_
    rintro r w1 ⟨rfl, hb1⟩
    have HL1 := hid (HL.out.stays hb1)
    have c0 := HL1.out.c0
    have c1 := HL1.out.c1
    have c2 := HL1.out.c2
    clear hb1
    obtain ⟨B, hB⟩ : ∃ B, B = w.heap.size := ⟨_, rfl⟩
    have HBB := hid hB
    simp only [← hB] at c0 c1 c2 ⊢
    clear hB HL
    go_wp2_with fail
    go_region_held3 (fun w' => LB W H ao n cap Z w w' ∧ w'.cell? ⟨B, 0, none⟩ = some (.int .i64 W) ∧ w'.cell? ⟨B, 1, none⟩ = some (.int .i64 H) ∧ w'.cell? ⟨B, 2, none⟩ = some (.slice ao n cap))
      (first
        | exact ⟨HL1.out.drew, c0, c1, c2⟩
        | exact lb_keep HBB.out (by assumption) hb
        | assumption)
      (first
        | (go_at_call 17; refine (validate_any W H ao n cap Z hn _ (lb_ints (W := W) (H := H) (cap := cap) (w := w) (by assumption)) e HE.out).mono ?_; rintro r w' ⟨rfl, hb⟩)
        | (go_at_call 18; refine (refvalidate_any W H ao n cap Z hn _ (lb_ints (W := W) (H := H) (cap := cap) (w := w) (by assumption)) e HE.out).mono ?_; rintro r w' ⟨rfl, hb⟩)
        | (go_at_call 16; refine (known_any _).mono ?_; rintro r w' ⟨rfl, hb⟩))
    go_wp2
    go_ret
    exact ⟨rfl, lb_below (by assumption)⟩
end Go.Proofs.Ytngamphkehppfaa
