/-
  The walks of small questions of a chart: level, upper, opposite, lifts, wet, isTile, fault, sails, beyond.
-/
import Derived.Test.YtkpnngpnjimogaaWLook
namespace Go.Proofs.Ytkpnngpnjimogaa
open Go.RowKit

set_option maxHeartbeats 800000 in
theorem isKind_any (a : Int) (r : Bool) (hr : r = true ↔ 0 ≤ a ∧ a ≤ 3) (w : World) : Calls Try.prog 45 #[.int .i64 a] w fun e w' => e = .returned (.bool r) ∧ w = w' := by
  have HR := hid hr
  clear hr
  go_enter Try.func45, Try.ntmps45
  go_wp2
  all_goals go_ret
  all_goals exact ⟨ret_bool (by rw [Bool.eq_iff_iff, HR.out]; simp; try omega), rfl⟩
set_option maxHeartbeats 800000 in
theorem level_any (s : Bool) (a b : Int) (w : World) : Calls Try.prog 81 #[gv s a b] w fun e w' => e = .returned (.int .i64 (if s = true then 2 else b)) ∧ Below w.heap.size w w' := by
  have HB := hid (Joins.below_alloc1 w (.cells #[.bool s, .int .i64 a, .int .i64 b] 64))
  cases s
  all_goals
    go_enter Try.func81, Try.ntmps81
    go_wp2
    go_ret
    exact ⟨rfl, HB.out⟩
/-- The side to which a slope goes up; -1: none. -/
def up (s : Int) : Int := if s = 6 then 0 else if s = 12 then 1 else if s = 9 then 2 else if s = 3 then 3 else -1
theorem up_bd (s : Int) : -1 ≤ up s ∧ up s ≤ 3 := by unfold up; (repeat' split) <;> omega
set_option maxHeartbeats 800000 in
theorem upper_any (s : Int) (w : World) : Calls Try.prog 75 #[.int .i64 s] w fun e w' => e = .returned (.int .i64 (up s)) ∧ w = w' := by
  unfold up
  by_cases h1 : s = 6
  · rw [if_pos h1]
    go_enter Try.func75, Try.ntmps75
    go_wp2
    go_ret
    exact ⟨rfl, rfl⟩
  · rw [if_neg h1]
    by_cases h2 : s = 12
    · rw [if_pos h2]
      go_enter Try.func75, Try.ntmps75
      go_wp2
      go_ret
      exact ⟨rfl, rfl⟩
    · rw [if_neg h2]
      by_cases h3 : s = 9
      · rw [if_pos h3]
        go_enter Try.func75, Try.ntmps75
        go_wp2
        go_ret
        exact ⟨rfl, rfl⟩
      · rw [if_neg h3]
        by_cases h4 : s = 3
        · rw [if_pos h4]
          go_enter Try.func75, Try.ntmps75
          go_wp2
          go_ret
          exact ⟨rfl, rfl⟩
        · rw [if_neg h4]
          go_enter Try.func75, Try.ntmps75
          go_wp2
          go_ret
          exact ⟨rfl, rfl⟩
set_option maxHeartbeats 800000 in
theorem refupper_any (s : Int) (w : World) : Calls Try.prog 74 #[.int .i64 s] w fun e w' => e = .returned (.int .i64 (up s)) ∧ w = w' := by
  unfold up
  by_cases h1 : s = 6
  · rw [if_pos h1]
    go_enter Try.func74, Try.ntmps74
    go_wp2
    go_ret
    exact ⟨rfl, rfl⟩
  · rw [if_neg h1]
    by_cases h2 : s = 12
    · rw [if_pos h2]
      go_enter Try.func74, Try.ntmps74
      go_wp2
      go_ret
      exact ⟨rfl, rfl⟩
    · rw [if_neg h2]
      by_cases h3 : s = 9
      · rw [if_pos h3]
        go_enter Try.func74, Try.ntmps74
        go_wp2
        go_ret
        exact ⟨rfl, rfl⟩
      · rw [if_neg h3]
        by_cases h4 : s = 3
        · rw [if_pos h4]
          go_enter Try.func74, Try.ntmps74
          go_wp2
          go_ret
          exact ⟨rfl, rfl⟩
        · rw [if_neg h4]
          go_enter Try.func74, Try.ntmps74
          go_wp2
          go_ret
          exact ⟨rfl, rfl⟩
set_option maxHeartbeats 800000 in
theorem wopposite_any (s : Int) (h : -2 ≤ s) (h' : s ≤ 3) (d : Int) (hd : (s + 2) % 4 = d) (w : World) : Calls Try.prog 82 #[.int .i64 s] w fun e w' => e = .returned (.int .i64 d) ∧ w = w' := by
  subst hd
  go_enter Try.func82, Try.ntmps82
  go_wp2
  go_ret
  exact ⟨rfl, rfl⟩
/-- Whether a lock of slope a and base b lets ships through a side behind which the water stands at a level. -/
def lft (a b side lev : Int) : Bool := if side = up a then decide (lev = b + 1) else if side = (up a + 2) % 4 then decide (lev = b) else false
set_option maxHeartbeats 1600000 in
theorem lifts_any (s : Bool) (a b side lev : Int) (hb : 0 ≤ b ∧ b ≤ 15) (r : Bool) (hr : r = lft a b side lev) (w : World) : Calls Try.prog 80 #[gv s a b, .int .i64 side, .int .i64 lev] w fun e w' => e = .returned (.bool r) ∧ Below w.heap.size w w' := by
  have HB := hid (Joins.below_alloc1 w (.cells #[.bool s, .int .i64 a, .int .i64 b] 64))
  have hu := up_bd a
  have HUP := hid (fun w => upper_any a w)
  unfold lft at hr
  obtain ⟨p, hp⟩ : ∃ p, p = up a := ⟨_, rfl⟩
  rw [← hp] at hu hr HUP
  clear hp
  obtain ⟨o, ho⟩ : ∃ o, (p + 2) % 4 = o := ⟨_, rfl⟩
  rw [ho] at hr
  have HO := hid (fun w => wopposite_any p (by omega) hu.2 o ho w)
  have HR := hid hr
  clear hr ho
  by_cases h1 : side = p
  · have hr' : r = decide (lev = b + 1) := by rw [HR.out, if_pos h1]
    have HR' := hid hr'
    clear hr'
    go_enter Try.func80, Try.ntmps80
    go_wp2_with (go_at_call 75; refine (HUP.out _).mono ?_; rintro e w1 ⟨rfl, rfl⟩)
    go_ret
    exact ⟨ret_bool (by rw [HR'.out, Bool.eq_iff_iff]; simp), HB.out⟩
  · by_cases h2 : side = o
    · have hr' : r = decide (lev = b) := by rw [HR.out, if_neg h1, if_pos h2]
      have HR' := hid hr'
      clear hr'
      go_enter Try.func80, Try.ntmps80
      go_wp2_with (first | (go_at_call 75; refine (HUP.out _).mono ?_; rintro e w1 ⟨rfl, rfl⟩) | (go_at_call 82; refine (HO.out _).mono ?_; rintro e w1 ⟨rfl, rfl⟩))
      go_ret
      exact ⟨ret_bool (by rw [HR'.out, Bool.eq_iff_iff]; simp), HB.out⟩
    · have hr' : r = false := by rw [HR.out, if_neg h1, if_neg h2]
      subst hr'
      go_enter Try.func80, Try.ntmps80
      go_wp2_with (first | (go_at_call 75; refine (HUP.out _).mono ?_; rintro e w1 ⟨rfl, rfl⟩) | (go_at_call 82; refine (HO.out _).mono ?_; rintro e w1 ⟨rfl, rfl⟩))
      go_ret
      exact ⟨rfl, HB.out⟩
/-- Whether a ship may be on a tile. -/
def wt (W : Nat) (Z K : Nat → Int) (u : Nat) : Bool := decide (K u ≠ 0) || sea W Z u
theorem field_sea (s : Bool) (a b : Int) (w : World) : (Instr.field 64 (gv s a b) 0).run Try.prog w = .ok (.bool s) w := by kernel_rfl
set_option maxRecDepth 20000 in
set_option maxHeartbeats 1600000 in
theorem cwet_any (d : Wat) (hg : Good d.W d.H d.n d.Z) (hm : d.m = d.W * d.H) (M u : Nat) (hu : u < d.W * d.H) (r : Bool) (hr : r = wt d.W d.Z d.K u) (w : World) (hC : Cx d M w) :
    Calls Try.prog 57 #[d.cht M, .int .i64 u] w fun e w' => e = .returned (.bool r) ∧ Nx d M w w' := by
  obtain ⟨hW1, hW2, hH1, hH2⟩ := hg.side
  have hs := mul_small hW2 hH2
  have HB := hid (CB.start hC)
  obtain ⟨b, off, e, hz, k0⟩ := HB.out.cx.kinds u (by omega)
  cases e
  have HG := hid hg
  have HU := hid hu
  obtain ⟨k, hk⟩ : ∃ k, k = d.K u := ⟨_, rfl⟩
  obtain ⟨s, hs'⟩ : ∃ s, s = sea d.W d.Z u := ⟨_, rfl⟩
  unfold wt at hr
  rw [← hk] at k0 hr
  rw [← hs'] at hr
  have hlk := look_any d hg M u hu
  unfold gnd at hlk
  rw [← hs'] at hlk
  have HL := hid hlk
  have HR := hid hr
  have hum : u < d.m := by omega
  have hu2 : u ≤ 1024 := by omega
  clear hlk hr hk hs' hg hu hm hC hs
  by_cases h0 : k = 0
  · subst h0
    have hr' : r = s := by rw [HR.out]; simp
    have HR' := hid hr'
    clear hr'
    have hf := field_sea
    go_enter Try.func57, Try.ntmps57
    go_wp2_with (go_at_call 51; refine (HL.out _ HB.out.cx).mono ?_; rintro e w1 ⟨rfl, hb⟩; have HB1 := hid (HB.out.on hb); clear hb)
    go_ret
    exact ⟨ret_bool HR'.out.symm, HB1.out.nx⟩
  · have hr' : r = true := by rw [HR.out]; simp [h0]
    subst hr'
    go_enter Try.func57, Try.ntmps57
    go_wp2_with fail
    go_ret
    exact ⟨rfl, HB.out.nx⟩
set_option maxHeartbeats 1600000 in
theorem cisTile_any (d : Wat) (hW : d.W ≤ 32) (hH : d.H ≤ 32) (M : Nat) (t : Int) (w : World) : Calls Try.prog 44 #[d.cht M, .int .i64 t] w fun e w' => e = .returned (.bool (tileB d.W d.H t)) ∧ Below w.heap.size w w' := by
  have HB := hid (Joins.below_alloc1 w (.cells #[.int .i64 d.W, .int .i64 d.H, d.as, d.ks, d.bs, .map (some M)] 52))
  obtain ⟨m, hm⟩ : ∃ m, m = d.W * d.H := ⟨_, rfl⟩
  have e1 : (d.W : Int) * (d.H : Int) = (m : Int) := by rw [hm]; simp
  have hm2 : m ≤ 1024 := by rw [hm]; exact mul_small hW hH
  unfold tileB
  rw [← hm]
  clear hm
  by_cases h : 0 ≤ t
  · go_enter Try.func44, Try.ntmps44
    go_wp2
    go_ret
    exact ⟨ret_bool (by simp [h]), HB.out⟩
  · go_enter Try.func44, Try.ntmps44
    go_wp2
    go_ret
    exact ⟨ret_bool (by simp; omega), HB.out⟩
set_option maxHeartbeats 3200000 in
theorem cbeyond_any (W H t s b : Int) (v u1 u2 u3 : Value) (hs : Sized W H) (h0 : 0 ≤ t) (h1 : t < W * H) (hs0 : 0 ≤ s) (hs3 : s ≤ 3) (hb : bey W H t s = b) (w : World) :
    Calls Try.prog 79 #[.agg #[.int .i64 W, .int .i64 H, v, u1, u2, u3], .int .i64 t, .int .i64 s] w fun e w' => e = .returned (.int .i64 b) ∧ Below w.heap.size w w' := by
  obtain ⟨⟨hx0, hx1⟩, ⟨hy0, hy1⟩, _⟩ := split_tile hs h0 h1
  unfold bey at hb
  have e1 : Int.tmod t W = t % W := Int.tmod_eq_emod_of_nonneg h0
  have e2 : Int.tdiv t W = t / W := Int.tdiv_eq_ediv_of_nonneg h0
  have HS := hid hs
  obtain ⟨⟨w1, w2⟩, w3, w4⟩ := hs
  obtain ⟨x, hx⟩ : ∃ x, t % W = x := ⟨_, rfl⟩
  obtain ⟨y, hy⟩ : ∃ y, t / W = y := ⟨_, rfl⟩
  rw [hx] at hx0 hx1 hb e1
  rw [hy] at hy0 hy1 hb e2
  obtain ⟨m1, m2, m3⟩ := row_bd HS.out hy0 hy1
  have HB := hid hb
  have HW := hid (Joins.below_alloc1 w (.cells #[.int .i64 W, .int .i64 H, v, u1, u2, u3] 52))
  clear hb h1 m2
  rcases (show s = 0 ∨ s = 1 ∨ s = 2 ∨ s = 3 by omega) with rfl | rfl | rfl | rfl
  · have HE : Hid (b = if x + 1 < W then y * W + (x + 1) else -1) := hid HB.out.symm
    clear hs0 hs3 HB
    by_cases hc : x + 1 < W
    · skip
      go_enter Try.func79, Try.ntmps79
      go_wp2_with fail
      go_quiet (fail)
      go_wp2_with fail
      go_ret
      exact ⟨ret_int (by rw [HE.out, if_pos (by omega)]), HW.out.trans (Joins.below_draws _ _ _)⟩
    · have hc' : W ≤ x + 1 := by omega
      go_enter Try.func79, Try.ntmps79
      go_wp2_with fail
      go_quiet (fail)
      go_wp2_with fail
      go_ret
      exact ⟨ret_int (by rw [HE.out, if_neg (by omega)]), HW.out.trans (Joins.below_draws _ _ _)⟩
  · have HE : Hid (b = if y + 1 < H then (y + 1) * W + x else -1) := hid HB.out.symm
    clear hs0 hs3 HB
    by_cases hc : y + 1 < H
    · skip
      obtain ⟨k1, k2, k3⟩ := row_bd (y := y + 1) HS.out (by omega) hc
      clear k2
      go_enter Try.func79, Try.ntmps79
      go_wp2_with fail
      go_quiet (fail)
      go_wp2_with fail
      go_ret
      exact ⟨ret_int (by rw [HE.out, if_pos (by omega)]), HW.out.trans (Joins.below_draws _ _ _)⟩
    · have hc' : H ≤ y + 1 := by omega
      go_enter Try.func79, Try.ntmps79
      go_wp2_with fail
      go_quiet (fail)
      go_wp2_with fail
      go_ret
      exact ⟨ret_int (by rw [HE.out, if_neg (by omega)]), HW.out.trans (Joins.below_draws _ _ _)⟩
  · have HE : Hid (b = if 0 < x then y * W + (x - 1) else -1) := hid HB.out.symm
    clear hs0 hs3 HB
    by_cases hc : 0 < x
    · skip
      go_enter Try.func79, Try.ntmps79
      go_wp2_with fail
      go_quiet (fail)
      go_wp2_with fail
      go_ret
      exact ⟨ret_int (by rw [HE.out, if_pos (by omega)]), HW.out.trans (Joins.below_draws _ _ _)⟩
    · have hc' : x ≤ 0 := by omega
      go_enter Try.func79, Try.ntmps79
      go_wp2_with fail
      go_quiet (fail)
      go_wp2_with fail
      go_ret
      exact ⟨ret_int (by rw [HE.out, if_neg (by omega)]), HW.out.trans (Joins.below_draws _ _ _)⟩
  · have HE : Hid (b = if 0 < y then (y - 1) * W + x else -1) := hid HB.out.symm
    clear hs0 hs3 HB
    by_cases hc : 0 < y
    · skip
      obtain ⟨k1, k2, k3⟩ := row_bd (y := y - 1) HS.out (by omega) (by omega)
      clear k2
      go_enter Try.func79, Try.ntmps79
      go_wp2_with fail
      go_quiet (fail)
      go_wp2_with fail
      go_ret
      exact ⟨ret_int (by rw [HE.out, if_pos (by omega)]), HW.out.trans (Joins.below_draws _ _ _)⟩
    · have hc' : y ≤ 0 := by omega
      go_enter Try.func79, Try.ntmps79
      go_wp2_with fail
      go_quiet (fail)
      go_wp2_with fail
      go_ret
      exact ⟨ret_int (by rw [HE.out, if_neg (by omega)]), HW.out.trans (Joins.below_draws _ _ _)⟩
end Go.Proofs.Ytkpnngpnjimogaa
