/-
  The walk of bring: a corner that is shifted until it is at a height.
-/
import Derived.Test.YtngamphkehppfaaLevel
import Derived.Deep.RegionHeld3
namespace Go.Proofs.Ytngamphkehppfaa
open Go.RowKit

/-- A step that is done. -/
theorem site_yes (W H n cap1 : Nat) (Y : Nat → Int) (m : Nat) (F : Nat → Int) (h : Int) (p : Nat) (hg : Good W H n Y) (hp : p < n) (hh : 0 ≤ h ∧ h ≤ 15) (hne : Y p ≠ h) (hb : stB W H n m F h p Y = false) (g1 g2 : Nat) (w : World) {B : Nat}
    (hrow : w.ownsRow B 3 1 (.slice (some ⟨g1, 0, none⟩) n cap1) n (ints n Y)) (hrow2 : w.ownsRow B 4 1 (.slice (some ⟨g2, 0, none⟩) n n) n (bools n (heldB W H F m))) (hgg : g1 ≠ g2) :
    Calls Try.prog 64 #[sv4 W H (.slice (some ⟨g1, 0, none⟩) n cap1) (.slice (some ⟨g2, 0, none⟩) n n), .int .i64 (p % (W + 1) : Nat), .int .i64 (p / (W + 1) : Nat), .int .i64 (dirS (Y p) h)] w fun r w' =>
      ∃ ao cap, r = .returned (.tuple #[.slice ao (stL W n h p Y).length cap, .int .i64 0]) ∧ w'.ownsRow B 3 1 (.slice (some ⟨g1, 0, none⟩) n cap1) n (ints n (stX W h p Y)) ∧ w.grownBy w' (some g1) := by
  have h1 := Nat.mod_lt p (show 0 < W + 1 by omega)
  have h2 := hg.row_lt hp
  refine (site_go W H n cap1 Y hg g1 g2 n (heldB W H F m) (p % (W + 1)) (p / (W + 1)) (by omega) (by omega) (dirS (Y p) h) (dirS_or _ _) w hrow hrow2 hgg _ rfl (by rw [at_back]; exact step_in hg hp hh hne) (stL W n h p Y) (by unfold stL; rw [at_back]) (stX W h p Y) (by unfold stX; rw [at_back])).mono ?_
  rintro r w' (⟨⟨i, hi, hF⟩, _⟩ | ⟨_, v, rfl, hv, hr, hgr⟩)
  · unfold stB at hb
    rw [List.any_eq_false] at hb
    exact absurd hF (hb i hi)
  · obtain ⟨ao, cap, rfl⟩ := row_slice hv
    exact ⟨ao, cap, rfl, hr, hgr⟩
/-- A step that is refused. -/
theorem site_no (W H n cap1 : Nat) (Y : Nat → Int) (m : Nat) (F : Nat → Int) (h : Int) (p : Nat) (hg : Good W H n Y) (hp : p < n) (hh : 0 ≤ h ∧ h ≤ 15) (hne : Y p ≠ h) (hb : stB W H n m F h p Y = true) (g1 g2 : Nat) (w : World) {B : Nat}
    (hrow : w.ownsRow B 3 1 (.slice (some ⟨g1, 0, none⟩) n cap1) n (ints n Y)) (hrow2 : w.ownsRow B 4 1 (.slice (some ⟨g2, 0, none⟩) n n) n (bools n (heldB W H F m))) (hgg : g1 ≠ g2) :
    Calls Try.prog 64 #[sv4 W H (.slice (some ⟨g1, 0, none⟩) n cap1) (.slice (some ⟨g2, 0, none⟩) n n), .int .i64 (p % (W + 1) : Nat), .int .i64 (p / (W + 1) : Nat), .int .i64 (dirS (Y p) h)] w fun r w' =>
      r = .returned (.tuple #[.slice none 0 0, .int .i64 7]) ∧ w.grownBy w' (some g1) := by
  have h1 := Nat.mod_lt p (show 0 < W + 1 by omega)
  have h2 := hg.row_lt hp
  refine (site_go W H n cap1 Y hg g1 g2 n (heldB W H F m) (p % (W + 1)) (p / (W + 1)) (by omega) (by omega) (dirS (Y p) h) (dirS_or _ _) w hrow hrow2 hgg _ rfl (by rw [at_back]; exact step_in hg hp hh hne) (stL W n h p Y) (by unfold stL; rw [at_back]) (stX W h p Y) (by unfold stX; rw [at_back])).mono ?_
  rintro r w' (⟨_, rfl, hb'⟩ | ⟨ha, _⟩)
  · exact ⟨rfl, grown_below hb'⟩
  · unfold stB at hb
    rw [List.any_eq_true] at hb
    obtain ⟨i, hi, hF⟩ := hb
    rw [ha i hi] at hF
    cases hF

/-- What bring hands back. -/
def BrTo (W H n m : Nat) (F : Nat → Int) (h : Int) (p : Nat) (Z : Nat → Int) (B g1 cap1 : Nat) (w : World) (r : Ending) (w' : World) : Prop :=
  w.grownBy w' (some g1) ∧ ((brt W H n m F h p Z = none ∧ r = .returned (.tuple #[.int .i64 0, .int .i64 7])) ∨
    ∃ c X, brt W H n m F h p Z = some (c, X) ∧ r = .returned (.tuple #[.int .i64 (c * 250 : Nat), .int .i64 0]) ∧ w'.ownsRow B 3 1 (.slice (some ⟨g1, 0, none⟩) n cap1) n (ints n X))
/-- The memory of bring. -/
structure BG (W H n : Nat) (s1 s2 : Value) (G : Nat → Bool) (B g1 : Nat) (Y : Nat → Int) (w wr : World) : Prop where
  gr : w.grownBy wr (some g1)
  bx : wr.heap[w.heap.size]? = some (.cells #[.int .i64 W, .int .i64 H, s1, s2] 85 (0, 0))
  r1 : wr.ownsRow B 3 1 s1 n (ints n Y)
  r2 : wr.ownsRow B 4 1 s2 n (bools n G)
theorem BG.draw {W H n : Nat} {s1 s2 : Value} {G : Nat → Bool} {B g1 : Nat} {Y : Nat → Int} {w wr : World} (h : BG W H n s1 s2 G B g1 Y w wr) : BG W H n s1 s2 G B g1 Y w wr.drew :=
  ⟨⟨h.gr.os, h.gr.tape, h.gr.output, h.gr.size, h.gr.block⟩, h.bx, h.r1.drew, h.r2.drew⟩
theorem BG.next {W H n cap1 g2 : Nat} {G : Nat → Bool} {B g1 : Nat} {Y X : Nat → Int} {w wr w' : World} (h : BG W H n (.slice (some ⟨g1, 0, none⟩) n cap1) (.slice (some ⟨g2, 0, none⟩) n n) G B g1 Y w wr) (hgz : g1 < w.heap.size) (hne : g1 ≠ g2)
    (hr : w'.ownsRow B 3 1 (.slice (some ⟨g1, 0, none⟩) n cap1) n (ints n X)) (hg : wr.grownBy w' (some g1)) : BG W H n (.slice (some ⟨g1, 0, none⟩) n cap1) (.slice (some ⟨g2, 0, none⟩) n n) G B g1 X w w' :=
  ⟨grown_trans h.gr hg, (hg.block _ (heap_lt h.bx) (by simp; omega)).trans h.bx, hr, h.r2.kept hg (.inr (by simp [Value.ownBlock]; omega))⟩

/-- The box of bring, whatever became of the corners. -/
structure BX4 (W H : Nat) (s1 s2 : Value) (w wr : World) : Prop where
  bx : wr.heap[w.heap.size]? = some (.cells #[.int .i64 W, .int .i64 H, s1, s2] 85 (0, 0))
theorem BG.same {W H n cap1 g2 : Nat} {G : Nat → Bool} {B g1 : Nat} {Y : Nat → Int} {w wr w' : World} (h : BG W H n (.slice (some ⟨g1, 0, none⟩) n cap1) (.slice (some ⟨g2, 0, none⟩) n n) G B g1 Y w wr) (hgz : g1 < w.heap.size)
    (hg : wr.grownBy w' (some g1)) : BX4 W H (.slice (some ⟨g1, 0, none⟩) n cap1) (.slice (some ⟨g2, 0, none⟩) n n) w w' :=
  ⟨(hg.block _ (heap_lt h.bx) (by simp; omega)).trans h.bx⟩
theorem BX4.cells {W H : Nat} {s1 s2 : Value} {w wr : World} {Bx : Nat} (h : BX4 W H s1 s2 w wr) (hB : Bx = w.heap.size) :
    wr.cell? ⟨Bx, 0, none⟩ = some (.int .i64 W) ∧ wr.cell? ⟨Bx, 1, none⟩ = some (.int .i64 H) ∧ wr.cell? ⟨Bx, 2, none⟩ = some s1 ∧ wr.cell? ⟨Bx, 3, none⟩ = some s2 := by
  subst hB
  exact ⟨cell_of_row wr _ 0 _ _ _ h.bx, cell_of_row wr _ 1 _ _ _ h.bx, cell_of_row wr _ 2 _ _ _ h.bx, cell_of_row wr _ 3 _ _ _ h.bx⟩

set_option maxRecDepth 20000 in
set_option maxHeartbeats 3200000 in
theorem bring_any (W H n cap1 : Nat) (Z : Nat → Int) (m : Nat) (F : Nat → Int) (h : Int) (p : Nat) (hg : Good W H n Z) (hp : p < n) (hh : 0 ≤ h ∧ h ≤ 15) (g1 g2 : Nat) (w : World) {B : Nat}
    (hrow : w.ownsRow B 3 1 (.slice (some ⟨g1, 0, none⟩) n cap1) n (ints n Z)) (hrow2 : w.ownsRow B 4 1 (.slice (some ⟨g2, 0, none⟩) n n) n (bools n (heldB W H F m))) (hgg : g1 ≠ g2) :
    Calls Try.prog 69 #[sv4 W H (.slice (some ⟨g1, 0, none⟩) n cap1) (.slice (some ⟨g2, 0, none⟩) n n), .int .i64 p, .int .i64 h] w (BrTo W H n m F h p Z B g1 cap1 w) := by
  obtain ⟨hW1, hW2, hH1, hH2⟩ := hg.side
  have hlb := hg.shaped.bound
  have hgz := (hrow.lt g1 rfl).2
  have ha := Joins.below_alloc1 w (.cells #[.int .i64 W, .int .i64 H, .slice (some ⟨g1, 0, none⟩) n cap1, .slice (some ⟨g2, 0, none⟩) n n] 85)
  have HS : Hid (BG W H n (.slice (some ⟨g1, 0, none⟩) n cap1) (.slice (some ⟨g2, 0, none⟩) n n) (heldB W H F m) B g1 Z w (w.alloc (.cells #[.int .i64 W, .int .i64 H, .slice (some ⟨g1, 0, none⟩) n cap1, .slice (some ⟨g2, 0, none⟩) n n] 85))) :=
    hid ⟨World.grownBy_alloc _ _ _, heap_alloc_new w _, row_stays hrow ha, row_stays hrow2 ha⟩
  have HIV := hid (fun j c Y => brg_inv (m := m) (F := F) hg hp hh j c Y)
  have hzp := hg.high p hp
  obtain ⟨d, hd⟩ : ∃ d, (h - Z p).natAbs = d := ⟨_, rfl⟩
  have hd15 : d ≤ 15 := by omega
  rw [hd] at HIV
  have HP : Hid (brt W H n m F h p Z = brg W H n m F h p Z d) := hid (by unfold brt; rw [hd])
  have HD := hid hd
  obtain ⟨hh1, hh2⟩ := hh
  have hpi : (p : Int) < (n : Int) := by omega
  have hp0 : (0 : Int) ≤ (p : Int) := by omega
  have HGG := hid hgg
  clear ha hg hrow hrow2 hzp hd hgg
  go_enter Try.func69, Try.ntmps69
  go_wp2_with fail
  generalize w.alloc (.cells #[.int .i64 W, .int .i64 H, .slice (some ⟨g1, 0, none⟩) n cap1, .slice (some ⟨g2, 0, none⟩) n n] 85) = w1 at HS ⊢
  obtain ⟨Bx, hBx⟩ : ∃ Bx, Bx = w.heap.size := ⟨_, rfl⟩
  have HBX := hid hBx
  simp only [← hBx]
  clear hBx
  go_loopg [9] (d + 1) (fun gk sv wr => ∃ j c Y, gk + j = d + 1 ∧ j ≤ d ∧ sv = .int .i64 (c * 250 : Nat) ∧ Hid (brg W H n m F h p Z j = some (c, Y)) ∧ Hid (BG W H n (.slice (some ⟨g1, 0, none⟩) n cap1) (.slice (some ⟨g2, 0, none⟩) n n) (heldB W H F m) B g1 Y w wr))
  case atStart => exact ⟨0, 0, Z, rfl, Nat.zero_le _, rfl, hid rfl, HS⟩
  case round =>
    obtain ⟨j, c, Y, hjk, hj, rfl, hE, hS⟩ := hrel
    clear HS
    have hinv := HIV.out j c Y hj hE.out
    have hyp := hinv.good.high p hp
    have hleft := hinv.left
    rw [HD.out] at hleft
    obtain ⟨y, hy⟩ : ∃ y, Y p = y := ⟨_, rfl⟩
    rw [hy] at hyp hleft
    have hbx := hS.out.bx
    rw [← HBX.out] at hbx
    have s0 : wr.cell? ⟨Bx, 0, none⟩ = some (.int .i64 W) := cell_of_row wr Bx 0 _ _ _ hbx
    have s1 : wr.cell? ⟨Bx, 1, none⟩ = some (.int .i64 H) := cell_of_row wr Bx 1 _ _ _ hbx
    have s2 : wr.cell? ⟨Bx, 2, none⟩ = some (.slice (some ⟨g1, 0, none⟩) n cap1) := cell_of_row wr Bx 2 _ _ _ hbx
    have s3 : wr.cell? ⟨Bx, 3, none⟩ = some (.slice (some ⟨g2, 0, none⟩) n n) := cell_of_row wr Bx 3 _ _ _ hbx
    have cp := (hS.out.r1.cellAt p (by omega)).trans (ints_get Y hp)
    rw [hy] at cp
    clear hbx
    by_cases hyh : y = h
    · obtain rfl : j = d := by omega
      have HR := hid (show BrTo W H n m F h p Z B g1 cap1 w (.returned (.tuple #[.int .i64 (c * 250 : Nat), .int .i64 0])) wr from ⟨hS.out.gr, .inr ⟨c, Y, by rw [HP.out]; exact hE.out, rfl, hS.out.r1⟩⟩)
      subst hyh
      clear hinv hy hleft hyp
      go_wp2_with fail
      go_ret2
      exact HR.out
    · have q1 : (y != h) = true := by simpa using hyh
      obtain ⟨x, hx⟩ : ∃ x, p % (W + 1) = x := ⟨_, rfl⟩
      obtain ⟨yy, hyy⟩ : ∃ yy, p / (W + 1) = yy := ⟨_, rfl⟩
      have x1 : (p : Int) % ((W : Int) + 1) = (x : Int) := by rw [← hx]; simp
      have x2 : (p : Int) / ((W : Int) + 1) = (yy : Int) := by rw [← hyy]; simp
      have x3 : Int.tmod (p : Int) ((W : Int) + 1) = (x : Int) := by rw [← hx]; rfl
      have x4 : Int.tdiv (p : Int) ((W : Int) + 1) = (yy : Int) := by rw [← hyy]; rfl
      have hxp : x ≤ p := by rw [← hx]; exact Nat.mod_le _ _
      have hyyp : yy ≤ p := by rw [← hyy]; exact Nat.div_le_self _ _
      have hjd : j < d := by omega
      have x7 : ((W : Int) + 1 == 0) = false := by simp; omega
      have x8 : ¬ ((W : Int) + 1 = 0) := by omega
      have x5 : IntKind.i64.wrap (x : Int) = (x : Int) := IntWalk.i64_in _ (by omega)
      have x6 : IntKind.i64.wrap (yy : Int) = (yy : Int) := IntWalk.i64_in _ (by omega)
      clear hyp hleft
      by_cases hlt : y < h
      · have hdir : dirS (Y p) h = 1 := by rw [hy]; unfold dirS; rw [if_pos hlt]
        cases hb : stB W H n m F h p Y with
        | false =>
          have HC := hid (fun (wx : World) (q1 : wx.ownsRow B 3 1 (.slice (some ⟨g1, 0, none⟩) n cap1) n (ints n Y)) (q2 : wx.ownsRow B 4 1 (.slice (some ⟨g2, 0, none⟩) n n) n (bools n (heldB W H F m))) => site_yes W H n cap1 Y m F h p hinv.good hp ⟨hh1, hh2⟩ (by rw [hy]; exact hyh) hb g1 g2 wx q1 q2 HGG.out)
          rw [hdir, hx, hyy] at HC
          have HN := hid (brg_yes hE.out hb)
          have hlen : (stL W n h p Y).length ≤ n := chs_le _ _ _ _ _ _ _
          have HIV2 := hid (HIV.out (j + 1) _ _ (by omega) HN.out)
          have hcb := HIV2.out.cost
          obtain ⟨k, hk⟩ : ∃ k, (stL W n h p Y).length = k := ⟨_, rfl⟩
          rw [hk] at HC HN hlen HIV2 hcb
          have hcb2 : c + k ≤ 20000 := by
            have : (j + 1) * n ≤ 16 * 1089 := Nat.mul_le_mul (by omega) (by omega)
            omega
          clear hinv hb hdir hx hyy hk hy hcb
          go_wp2_with fail
          go_region_held3 (fun w' => w'.cell? ⟨Bx, 0, none⟩ = some (.int .i64 W) ∧ w'.cell? ⟨Bx, 1, none⟩ = some (.int .i64 H) ∧ w'.cell? ⟨Bx, 2, none⟩ = some (.slice (some ⟨g1, 0, none⟩) n cap1) ∧ w'.cell? ⟨Bx, 3, none⟩ = some (.slice (some ⟨g2, 0, none⟩) n n))
            (first
              | exact ⟨s0, s1, s2, s3⟩
              | exact (hS.out.draw.same hgz hg3).cells HBX.out
              | assumption)
            (first
              | (go_at_call 64; refine (HC.out _ hS.out.draw.r1 hS.out.draw.r2).mono ?_; rintro r w3 ⟨ao, cap, rfl, hr3, hg3⟩)
              | fail)
          have HS3 := hid (hS.out.draw.next hgz HGG.out hr3 hg3)
          clear hr3 hg3 s0 s1 s2 s3 cp
          go_wp2_with (go_at_call 65; refine (cost_any _ _ _ (by omega) _).mono ?_; rintro e w' ⟨rfl, rfl⟩)
          go_roundg (gk - 1)
          case measure => omega
          case rel => exact ⟨j + 1, c + k, _, by omega, by omega, by first | go_num | (congr 1; omega), HN, HS3⟩
        | true =>
          have HC := hid (fun (wx : World) (q1 : wx.ownsRow B 3 1 (.slice (some ⟨g1, 0, none⟩) n cap1) n (ints n Y)) (q2 : wx.ownsRow B 4 1 (.slice (some ⟨g2, 0, none⟩) n n) n (bools n (heldB W H F m))) => site_no W H n cap1 Y m F h p hinv.good hp ⟨hh1, hh2⟩ (by rw [hy]; exact hyh) hb g1 g2 wx q1 q2 HGG.out)
          rw [hdir, hx, hyy] at HC
          have HN := hid (brg_none (brg_no hE.out hb) (d - (j + 1)))
          rw [show j + 1 + (d - (j + 1)) = d by omega] at HN
          clear hinv hb hdir hx hyy hy
          go_wp2_with fail
          go_region_held3 (fun w' => w'.cell? ⟨Bx, 0, none⟩ = some (.int .i64 W) ∧ w'.cell? ⟨Bx, 1, none⟩ = some (.int .i64 H) ∧ w'.cell? ⟨Bx, 2, none⟩ = some (.slice (some ⟨g1, 0, none⟩) n cap1) ∧ w'.cell? ⟨Bx, 3, none⟩ = some (.slice (some ⟨g2, 0, none⟩) n n))
            (first
              | exact ⟨s0, s1, s2, s3⟩
              | exact (hS.out.draw.same hgz hg3).cells HBX.out
              | assumption)
            (first
              | (go_at_call 64; refine (HC.out _ hS.out.draw.r1 hS.out.draw.r2).mono ?_; rintro r w3 ⟨rfl, hg3⟩)
              | fail)
          have HG3 := hid (grown_trans hS.out.draw.gr hg3)
          clear hg3 s0 s1 s2 s3 cp
          go_wp2_with fail
          go_ret2
          exact ⟨HG3.out, .inl ⟨by rw [HP.out]; exact HN.out, rfl⟩⟩
      · have hdir : dirS (Y p) h = -1 := by rw [hy]; unfold dirS; rw [if_neg hlt]
        cases hb : stB W H n m F h p Y with
        | false =>
          have HC := hid (fun (wx : World) (q1 : wx.ownsRow B 3 1 (.slice (some ⟨g1, 0, none⟩) n cap1) n (ints n Y)) (q2 : wx.ownsRow B 4 1 (.slice (some ⟨g2, 0, none⟩) n n) n (bools n (heldB W H F m))) => site_yes W H n cap1 Y m F h p hinv.good hp ⟨hh1, hh2⟩ (by rw [hy]; exact hyh) hb g1 g2 wx q1 q2 HGG.out)
          rw [hdir, hx, hyy] at HC
          have HN := hid (brg_yes hE.out hb)
          have hlen : (stL W n h p Y).length ≤ n := chs_le _ _ _ _ _ _ _
          have HIV2 := hid (HIV.out (j + 1) _ _ (by omega) HN.out)
          have hcb := HIV2.out.cost
          obtain ⟨k, hk⟩ : ∃ k, (stL W n h p Y).length = k := ⟨_, rfl⟩
          rw [hk] at HC HN hlen HIV2 hcb
          have hcb2 : c + k ≤ 20000 := by
            have : (j + 1) * n ≤ 16 * 1089 := Nat.mul_le_mul (by omega) (by omega)
            omega
          clear hinv hb hdir hx hyy hk hy hcb
          go_wp2_with fail
          go_region_held3 (fun w' => w'.cell? ⟨Bx, 0, none⟩ = some (.int .i64 W) ∧ w'.cell? ⟨Bx, 1, none⟩ = some (.int .i64 H) ∧ w'.cell? ⟨Bx, 2, none⟩ = some (.slice (some ⟨g1, 0, none⟩) n cap1) ∧ w'.cell? ⟨Bx, 3, none⟩ = some (.slice (some ⟨g2, 0, none⟩) n n))
            (first
              | exact ⟨s0, s1, s2, s3⟩
              | exact (hS.out.draw.same hgz hg3).cells HBX.out
              | assumption)
            (first
              | (go_at_call 64; refine (HC.out _ hS.out.draw.r1 hS.out.draw.r2).mono ?_; rintro r w3 ⟨ao, cap, rfl, hr3, hg3⟩)
              | fail)
          have HS3 := hid (hS.out.draw.next hgz HGG.out hr3 hg3)
          clear hr3 hg3 s0 s1 s2 s3 cp
          go_wp2_with (go_at_call 65; refine (cost_any _ _ _ (by omega) _).mono ?_; rintro e w' ⟨rfl, rfl⟩)
          go_roundg (gk - 1)
          case measure => omega
          case rel => exact ⟨j + 1, c + k, _, by omega, by omega, by first | go_num | (congr 1; omega), HN, HS3⟩
        | true =>
          have HC := hid (fun (wx : World) (q1 : wx.ownsRow B 3 1 (.slice (some ⟨g1, 0, none⟩) n cap1) n (ints n Y)) (q2 : wx.ownsRow B 4 1 (.slice (some ⟨g2, 0, none⟩) n n) n (bools n (heldB W H F m))) => site_no W H n cap1 Y m F h p hinv.good hp ⟨hh1, hh2⟩ (by rw [hy]; exact hyh) hb g1 g2 wx q1 q2 HGG.out)
          rw [hdir, hx, hyy] at HC
          have HN := hid (brg_none (brg_no hE.out hb) (d - (j + 1)))
          rw [show j + 1 + (d - (j + 1)) = d by omega] at HN
          clear hinv hb hdir hx hyy hy
          go_wp2_with fail
          go_region_held3 (fun w' => w'.cell? ⟨Bx, 0, none⟩ = some (.int .i64 W) ∧ w'.cell? ⟨Bx, 1, none⟩ = some (.int .i64 H) ∧ w'.cell? ⟨Bx, 2, none⟩ = some (.slice (some ⟨g1, 0, none⟩) n cap1) ∧ w'.cell? ⟨Bx, 3, none⟩ = some (.slice (some ⟨g2, 0, none⟩) n n))
            (first
              | exact ⟨s0, s1, s2, s3⟩
              | exact (hS.out.draw.same hgz hg3).cells HBX.out
              | assumption)
            (first
              | (go_at_call 64; refine (HC.out _ hS.out.draw.r1 hS.out.draw.r2).mono ?_; rintro r w3 ⟨rfl, hg3⟩)
              | fail)
          have HG3 := hid (grown_trans hS.out.draw.gr hg3)
          clear hg3 s0 s1 s2 s3 cp
          go_wp2_with fail
          go_ret2
          exact ⟨HG3.out, .inl ⟨by rw [HP.out]; exact HN.out, rfl⟩⟩
end Go.Proofs.Ytngamphkehppfaa
