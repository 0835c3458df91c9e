/-
  The walk of Settle.
-/
import Derived.Test.YtngamphkehppfaaWalkSet
import Derived.Test.YtngamphkehppfaaWalkSh
namespace Go.Proofs.Ytngamphkehppfaa
open Go.RowKit

/-- What a height is before it is settled. -/
def clz (z : Int) : Int := if 15 < (if z < 0 then 0 else z) then 15 else if z < 0 then 0 else z
theorem clz_in (z : Int) : 0 ≤ clz z ∧ clz z ≤ 15 := by unfold clz; split <;> split <;> omega
theorem upd_copy (Z : Nat → Int) (p i : Nat) : upd (fun i => if i < p then clz (Z i) else 0) p (clz (Z p)) i = if i < p + 1 then clz (Z i) else 0 := by
  unfold upd
  by_cases h : i = p
  · subst h; rw [if_pos rfl, if_pos (by omega)]
  · rw [if_neg h]
    show (if i < p then clz (Z i) else 0) = _
    by_cases h2 : i < p
    · rw [if_pos h2, if_pos (by omega)]
    · rw [if_neg h2, if_neg (by omega)]
/-- No land, an error. -/
abbrev none2 (e : Int) : Value := .tuple #[lv 0 0 (.slice none 0 0), .int .i64 e]
/-- The memory of Settle: the result's box, the row. -/
structure RB (B g n : Nat) (rs : Array Value) (w wr : World) (Y : Nat → Int) : Prop where
  below : Below B w wr
  hr : wr.heap[B]? = some (.cells rs 24 (0, 0))
  row : wr.ownsRow (B + 1) 3 1 (.slice (some ⟨g, 0, none⟩) n n) n (ints n Y)
theorem RB.grown {B g n : Nat} {rs : Array Value} {w wr w' : World} {Y X : Nat → Int} (h : RB B g n rs w wr Y) (hg : wr.grownBy w' (some g)) (hr : w'.ownsRow (B + 1) 3 1 (.slice (some ⟨g, 0, none⟩) n n) n (ints n X)) : RB B g n rs w w' X := by
  have hB := heap_lt h.hr
  have hl := (h.row.lt g rfl).1
  exact ⟨h.below.grown hg (by omega) (fun k hk => by cases hk; omega), (hg.block B hB (by simp; omega)).trans h.hr, hr⟩
theorem RB.put {B g n : Nat} {rs : Array Value} {w wr : World} {Y : Nat → Int} (h : RB B g n rs w wr Y) (p : Nat) (x : Int) : RB B g n rs w (wr.setCell ⟨g, p, none⟩ (.int .i64 x)) (upd Y p x) := by
  have := h.row.stored p (.int .i64 x)
  rw [ints_set] at this
  exact h.grown this.2 this.1
theorem RB.congr {B g n : Nat} {rs : Array Value} {w wr : World} {Y X : Nat → Int} (h : RB B g n rs w wr Y) (e : ∀ i, i < n → Y i = X i) : RB B g n rs w wr X :=
  ⟨h.below, h.hr, by rw [← ints_congr e]; exact h.row⟩
theorem RB.drew {B g n : Nat} {rs : Array Value} {w wr : World} {Y : Nat → Int} (h : RB B g n rs w wr Y) : RB B g n rs w wr.drew Y := ⟨h.below.drew, h.hr, h.row.drew⟩

theorem run_mk22 (n : Nat) (hn : n ≤ 2000) (w : World) : (Instr.makeSlice 22 (.int .i64 (n : Int)) (.int .i64 (n : Int))).run Try.prog w = .ok (.slice (some ⟨w.heap.size, 0, none⟩) n n) (w.alloc (.cells (madeCells #[.int .i64 0] n) 3)) := by
  obtain ⟨i0, hi, hz0, hz1, hz2⟩ := info_parts info3
  have := run_make (P := Try.prog) w 22 3 i0 (.int .i64 0) Try.underlying22 hi hz0 .i64 .i64 (n : Int) (n : Int) (by omega) (Int.le_refl _) (by rw [hz2]; omega) (by omega)
  rw [this]; simp [hz1, Value.cells]

set_option maxHeartbeats 1600000 in
theorem settle_no (W H : Int) (ao : Option Addr) (n cap : Nat) (w : World) (h : ¬ Shaped W H n) :
    Calls Try.prog 19 #[.int .i64 W, .int .i64 H, .slice ao n cap] w fun r w' => r = .returned (none2 1) ∧ Below w.heap.size w w' := by
  by_cases hs : Sized W H
  · have hne : ¬ (n : Int) = (W + 1) * (H + 1) := fun e => h ⟨hs, e⟩
    obtain ⟨c, hc⟩ : ∃ c, c = (W + 1) * (H + 1) := ⟨_, rfl⟩
    rw [← hc] at hne
    have hb : 0 ≤ c ∧ c ≤ 2000 := by
      obtain ⟨⟨a1, a2⟩, a3, a4⟩ := hs
      rw [hc]
      exact ⟨Int.mul_nonneg (by omega) (by omega), Int.le_trans (Int.mul_le_mul (show W + 1 ≤ 33 by omega) (show H + 1 ≤ 33 by omega) (by omega) (by omega)) (by omega)⟩
    have HC := hid (And.intro hc hs)
    clear hc h hs
    go_enter Try.func19, Try.ntmps19
    go_wp2_with fail
    refine (sized_yes HC.out.2 _).mono ?_
    rintro r w2 ⟨rfl, rfl⟩
    go_wp2_with fail
    refine (cornersOf_any W H c HC.out.1 hb.1 hb.2 (by have := HC.out.2.1; omega) (by have := HC.out.2.1; omega) (by have := HC.out.2.2; omega) (by have := HC.out.2.2; omega) _).mono ?_
    rintro r w2 ⟨rfl, rfl⟩
    go_wp2_with fail
    refine bodyPost_ret (v := none2 1) (by simp [results, Try.results19, go_sem]) rfl ⟨rfl, Joins.below_alloc1 _ _⟩
  · have HC := hid hs
    clear h hs
    go_enter Try.func19, Try.ntmps19
    go_wp2_with fail
    refine (sized_no HC.out _).mono ?_
    rintro r w2 ⟨rfl, rfl⟩
    go_wp2_with fail
    refine bodyPost_ret (v := none2 1) (by simp [results, Try.results19, go_sem]) rfl ⟨rfl, Joins.below_alloc1 _ _⟩

/-- What the two Settle hand back: the land, settled. -/
def SetTo (W H n : Nat) (Z : Nat → Int) (w : World) (r : Ending) (w' : World) : Prop :=
  ∃ g cap Y, r = .returned (.tuple #[lv W H (.slice (some ⟨g, 0, none⟩) n cap), .int .i64 0]) ∧ w'.ownsRow w.heap.size 3 1 (.slice (some ⟨g, 0, none⟩) n cap) n (ints n Y) ∧ Below w.heap.size w w' ∧
    Up W n (fun i => clz (Z i)) Y ∧ Lo W n (fun i => clz (Z i)) Y ∧ ∀ i, i < n → 0 ≤ Y i ∧ Y i ≤ 15

theorem ints_zero (n : Nat) : List.replicate n (Value.int .i64 0) = ints n (fun _ => 0) := by
  unfold ints
  induction n with
  | zero => rfl
  | succ k ih => rw [List.replicate_succ', List.range_succ, List.map_append, ← ih]; rfl
theorem rb_start (w : World) (n : Nat) (hn : n ≤ 2000) : RB w.heap.size (w.heap.size + 1) n #[.int .i64 0, .int .i64 0, .slice none 0 0] w ((w.alloc (.cells #[.int .i64 0, .int .i64 0, .slice none 0 0] 24)).alloc (.cells (madeCells #[.int .i64 0] n) 3)) (fun _ => 0) := by
  refine ⟨Joins.below_alloc2 _ _ _, ?_, ?_⟩
  · simp only [World.alloc]
    rw [Array.getElem?_push, if_neg (by simp), Array.getElem?_push, if_pos rfl]
  · have := World.ownsRow_lit (size := 1) (base := w.heap.size + 1) (e := 3) (w.alloc (.cells #[.int .i64 0, .int .i64 0, .slice none 0 0] 24)) (madeCells #[.int .i64 0] n) n (by simp) (by unfold maxLen; omega) (by simp [madeCells])
    rw [toList_madeCells_one, ints_zero] at this
    simpa using this

set_option maxHeartbeats 3200000 in
theorem settle_yes (W H : Nat) (ao : Option Addr) (n cap : Nat) (Z : Nat → Int) (hs : Shaped W H n) (w : World) (hI : Ints w ao n Z) :
    Calls Try.prog 19 #[.int .i64 W, .int .i64 H, .slice ao n cap] w (SetTo W H n Z w) := by
  have hb := hs.bound
  obtain ⟨hs, hn⟩ := hs
  obtain ⟨c, hc⟩ : ∃ c, c = ((W : Int) + 1) * ((H : Int) + 1) := ⟨_, rfl⟩
  have hcn : c = (n : Int) := by rw [hc, hn]
  obtain ⟨b, off, rfl, hbz, hcell⟩ := hI.one (by omega)
  have HI := hid hI
  have HW : Hid (W ≤ 32 ∧ n = (W + 1) * (H + 1)) := hid ⟨by have := hs.1.2; omega, by have e : (n : Int) = ((W : Int) + 1) * ((H : Int) + 1) := hn; exact_mod_cast e⟩
  have HC := hid (And.intro hc hs)
  subst hcn
  clear hc hs hn
  go_enter Try.func19, Try.ntmps19
  go_wp2_with fail
  refine (sized_yes HC.out.2 _).mono ?_
  rintro r w2 ⟨rfl, rfl⟩
  go_wp2_with fail
  refine (cornersOf_any W H n HC.out.1 (by omega) (by omega) (by have := HC.out.2.1; omega) (by have := HC.out.2.1; omega) (by have := HC.out.2.2; omega) (by have := HC.out.2.2; omega) _).mono ?_
  rintro r w2 ⟨rfl, rfl⟩
  have M := run_mk22 n (by omega)
  have HS := hid (rb_start w n (by omega))
  go_wp2_with fail
  obtain ⟨B, hB⟩ : ∃ B, B = w.heap.size := ⟨_, rfl⟩
  simp only [← hB] at HS ⊢
  have HB := hid hB
  have hbz' : b < B := by omega
  have HS0 := hid (HS.out.congr (X := fun i => if i < 0 then clz (Z i) else 0) (fun i _ => by simp))
  have HCELL := hid hcell
  clear hB hbz hcell M hI HS
  generalize World.alloc _ _ = w1 at HS0 ⊢
  go_loopw [29] (fun iv wr => ∃ p : Nat, p ≤ n ∧ iv = .int .i64 p ∧ Hid (RB B (B + 1) n #[.int .i64 0, .int .i64 0, .slice none 0 0] w wr (fun i => if i < p then clz (Z i) else 0))) (fun iv _ => n - (intOf iv).toNat)
  case atStart => exact ⟨0, Nat.zero_le _, rfl, HS0⟩
  case round =>
    obtain ⟨p, hp, rfl, hS⟩ := hrel
    clear HS0
    by_cases hlt : p < n
    · have c0 := (hS.out.below.cell (p := ⟨b, off + p, none⟩) hbz').trans (HCELL.out p hlt)
      have f0 := hS.out.row.frozenAt p
      have c2 := hS.out.row.cellAt p (by omega)
      rw [ints_get _ hlt] at c2
      have hgz := (hS.out.row.lt (B + 1) rfl).2
      obtain ⟨z, hz⟩ : ∃ z, z = Z p := ⟨_, rfl⟩
      rw [← hz] at c0
      have HZ := hid hz
      clear hz
      go_wp2_with fail
      go_roundw
      case rel =>
        refine ⟨p + 1, by omega, by go_num, hid ?_⟩
        rw [HZ.out]
        exact (hS.out.put p (clz (Z p))).congr (fun i _ => upd_copy Z p i)
      case measure => simp [intOf]; omega
    · obtain rfl : n = p := by omega
      have hS1 := hid (hS.out.congr (X := fun i => clz (Z i)) (fun i hi => if_pos hi))
      clear hS
      have hW32 := HW.out.1
      go_wp2_with fail
      refine (settle_any W H n n (B + 1) (B + 1) (fun i => clz (Z i)) HW.out.1 HW.out.2 hb.2 (fun i _ => clz_in _) _ hS1.out.row).mono ?_
      rintro r w2 ⟨rfl, Y, hSR, hU, hL, hY⟩
      have H3 := hid (hS1.out.grown hSR.2 hSR.1)
      have HY := hid (And.intro hU (And.intro hL hY))
      clear hSR hU hL hY hS1
      have hr := H3.out.hr
      have r0 : w2.cell? ⟨B, 0, none⟩ = some (.int .i64 0) := cell_of_row w2 B 0 _ _ _ hr
      have r1 : w2.cell? ⟨B, 1, none⟩ = some (.int .i64 0) := cell_of_row w2 B 1 _ _ _ hr
      have r2 : w2.cell? ⟨B, 2, none⟩ = some (.slice none 0 0) := cell_of_row w2 B 2 _ _ _ hr
      have f0 : w2.frozen? ⟨B, 0, none⟩ = false := frozen_of_row w2 B 0 _ _ hr
      have f1 : w2.frozen? ⟨B, 1, none⟩ = false := frozen_of_row w2 B 1 _ _ hr
      have f2 : w2.frozen? ⟨B, 2, none⟩ = false := frozen_of_row w2 B 2 _ _ hr
      have hBz := heap_lt hr
      clear hr
      go_wp2_with fail
      have k3 := set3 H3.out.hr (.int .i64 W) (.int .i64 H) (.slice (some ⟨B + 1, 0, none⟩) n n)
      have k4 := set3_below (g := B) H3.out.below (Nat.le_refl _) (.int .i64 W) (.int .i64 H) (.slice (some ⟨B + 1, 0, none⟩) n n)
      have k5 := set3_row (g := B) H3.out.row (by simp [Value.ownBlock]) (.int .i64 W) (.int .i64 H) (.slice (some ⟨B + 1, 0, none⟩) n n)
      clear r0 r1 r2 f0 f1 f2
      generalize World.setCell _ _ _ = w6 at k3 k4 k5 ⊢
      have q0 := cell_of_row w6 B 0 _ _ _ k3
      have q1 := cell_of_row w6 B 1 _ _ _ k3
      have q2 := cell_of_row w6 B 2 _ _ _ k3
      simp at q0 q1 q2
      refine bodyPost_ret (v := .tuple #[lv W H (.slice (some ⟨B + 1, 0, none⟩) n n), .int .i64 0]) (by simp [results, Try.results19, go_sem, q0, q1, q2]) rfl ⟨B + 1, n, Y, rfl, ?_, ?_, HY.out⟩
      · rw [← HB.out]; exact k5.mono' (Nat.le_succ _)
      · rw [← HB.out]; exact k4
end Go.Proofs.Ytngamphkehppfaa
