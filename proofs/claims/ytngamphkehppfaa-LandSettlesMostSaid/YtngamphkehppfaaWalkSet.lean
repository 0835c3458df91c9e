/-
  The walk of settle: the two passes.
-/
import Derived.Test.YtngamphkehppfaaPasses
namespace Go.Proofs.Ytngamphkehppfaa
open Go.RowKit

/-- What one corner gets of its neighbour. -/
def cutx (y0 y1 : Int) : Int := if y1 + 1 < y0 then y1 + 1 else y0
theorem cutx_le (y0 y1 : Int) : cutx y0 y1 ≤ y0 ∧ cutx y0 y1 ≤ y1 + 1 := by unfold cutx; split <;> omega
theorem cutx_nn {y0 y1 : Int} (h0 : 0 ≤ y0) (h1 : 0 ≤ y1) : 0 ≤ cutx y0 y1 := by unfold cutx; split <;> omega
theorem upd_same (Y : Nat → Int) (p : Nat) : upd Y p (Y p) = Y := by
  funext i; unfold upd; by_cases h : i = p
  · subst h; simp
  · simp [h]
theorem Lo.cutx {W n : Nat} {R Y : Nat → Int} (h : Lo W n R Y) {p q : Nat} (hp : p < n) (hq : q < n) (hd : dd W p q = 1) : Lo W n R (upd Y p (cutx (Y p) (Y q))) := by
  unfold Go.Proofs.Ytngamphkehppfaa.cutx
  by_cases hc : Y q + 1 < Y p
  · rw [if_pos hc]; exact h.cut hp hq hd
  · rw [if_neg hc, upd_same]; exact h
theorem upd_upd (Y : Nat → Int) (p : Nat) (x y : Int) : upd (upd Y p x) p y = upd Y p y := by
  funext i; unfold upd; by_cases h : i = p <;> simp [h]

/-- The heights in the call's row. -/
def SR (B g n cap : Nat) (w wr : World) (Y : Nat → Int) : Prop := wr.ownsRow B 3 1 (.slice (some ⟨g, 0, none⟩) n cap) n (ints n Y) ∧ w.grownBy wr (some g)
theorem SR.put {B g n cap : Nat} {w wr : World} {Y : Nat → Int} (h : SR B g n cap w wr Y) (p : Nat) (x : Int) : SR B g n cap w (wr.setCell ⟨g, p, none⟩ (.int .i64 x)) (upd Y p x) := by
  have := h.1.stored p (.int .i64 x)
  rw [ints_set] at this
  exact ⟨this.1, grown_trans h.2 this.2⟩
theorem SR.drew {B g n cap : Nat} {w wr : World} {Y : Nat → Int} (h : SR B g n cap w wr Y) : SR B g n cap w wr.drew Y := ⟨h.1.drew, ⟨h.2.os, h.2.tape, h.2.output, h.2.size, h.2.block⟩⟩
theorem SR.cell {B g n cap : Nat} {w wr : World} {Y : Nat → Int} (h : SR B g n cap w wr Y) {j : Nat} (hj : j < n) : wr.cell? ⟨g, j, none⟩ = some (.int .i64 (Y j)) := (h.1.cellAt j (by omega)).trans (ints_get Y hj)

theorem dd_one_east {W p : Nat} (h : p % (W + 1) < W) : dd W p (p + 1) = 1 := by
  have e1 := at_split W p
  have a1 : p + 1 = p / (W + 1) * (W + 1) + (p % (W + 1) + 1) := by omega
  have m1 : (p + 1) % (W + 1) = p % (W + 1) + 1 := by rw [a1]; exact at_mod (by omega)
  have := dd_one_west (W := W) (p := p + 1) (by omega)
  rw [dd_comm]; exact this
theorem dd_one_south (W p : Nat) : dd W p (p + (W + 1)) = 1 := by
  have := dd_one_north (W := W) (p := p + (W + 1)) (by omega)
  rw [dd_comm, Nat.add_sub_cancel] at this; exact this
theorem east_in {W H n p : Nat} (hn : n = (W + 1) * (H + 1)) (hp : p < n) (h : p % (W + 1) < W) : p + 1 < n := by
  have e1 := at_split W p
  have hv : p / (W + 1) < H + 1 := Nat.div_lt_of_lt_mul (by rw [← hn]; exact hp)
  have hb : p / (W + 1) * (W + 1) ≤ H * (W + 1) := Nat.mul_le_mul_right _ (by omega)
  have hb2 : (H + 1) * (W + 1) = H * (W + 1) + (W + 1) := Nat.succ_mul _ _
  rw [hn, Nat.mul_comm (W + 1)]; omega

set_option maxHeartbeats 3200000 in
theorem settle_any (W H n cap g B : Nat) (R : Nat → Int) (hW : W ≤ 32) (hn : n = (W + 1) * (H + 1)) (hn2 : n ≤ 1089) (hR : ∀ i, i < n → 0 ≤ R i ∧ R i ≤ 15) (w : World) (h : w.ownsRow B 3 1 (.slice (some ⟨g, 0, none⟩) n cap) n (ints n R)) :
    Calls Try.prog 48 #[.slice (some ⟨g, 0, none⟩) n cap, .int .i64 ((W : Int) + 1)] w fun r w' => r = .returned (.tuple #[]) ∧ ∃ Y, SR B g n cap w w' Y ∧ Up W n R Y ∧ Lo W n R Y ∧ ∀ i, i < n → 0 ≤ Y i ∧ Y i ≤ 15 := by
  have HN := hid hn
  have hS : SR B g n cap w w R := ⟨h, ⟨rfl, rfl, rfl, Nat.le_refl _, fun _ _ _ => rfl⟩⟩
  have H0 := hid (And.intro hS (PassA.start (W := W) hR))
  clear h hS hR hn
  go_enter Try.func48, Try.ntmps48
  go_wp2_with fail
  go_loopw [8] (fun iv wr => ∃ (p : Nat) (Y : Nat → Int), p ≤ n ∧ iv = .int .i64 p ∧ Hid (SR B g n cap w wr Y ∧ PassA W n R p Y)) (fun iv _ => n - (intOf iv).toNat)
  case atStart => exact ⟨0, R, Nat.zero_le _, rfl, H0⟩
  case round =>
    obtain ⟨p, Y, hp, rfl, hS⟩ := hrel
    clear H0
    by_cases hlt : p < n
    · obtain ⟨u, hu⟩ : ∃ u, u = p % (W + 1) := ⟨_, rfl⟩
      have e2 : (p : Int) % ((W : Int) + 1) = (u : Int) := by rw [hu, Int.natCast_emod]; rfl
      have c0 := hS.out.1.cell hlt
      have c1 := hS.out.1.cell (show p - 1 < n by omega)
      have f0 := hS.out.1.1.frozenAt p
      have hgz := (hS.out.1.1.lt g rfl).2
      have r0 := hS.out.2.nn p hlt
      have r1 := hS.out.2.nn (p - 1) (by omega)
      obtain ⟨y0, ey0⟩ : ∃ y, y = Y p := ⟨_, rfl⟩
      obtain ⟨y1, ey1⟩ : ∃ y, y = Y (p - 1) := ⟨_, rfl⟩
      rw [← ey0] at c0 r0
      rw [← ey1] at c1 r1
      have HU := hid hu
      have E := hid (And.intro ey0 ey1)
      clear hu ey0 ey1
      by_cases hu0 : 0 < u
      · have hp1 : 1 ≤ p := by
          rcases Nat.eq_zero_or_pos p with h0 | h0
          · have := HU.out; subst h0; simp at this; omega
          · exact h0
        go_wp2_with fail
        go_region
        obtain ⟨x1, hx1⟩ : ∃ x, x = cutx y0 y1 := ⟨_, rfl⟩
        simp only [show (if y1 + 1 < y0 then y1 + 1 else y0) = x1 from hx1.symm]
        have hS1 := (hS.out.1.put p x1).drew
        have hle1 := cutx_le y0 y1
        have hnn1 := cutx_nn r0.1 r1.1
        rw [← hx1] at hle1 hnn1
        have hlo1 : Lo W n R (upd Y p x1) := by
          have := hS.out.2.lo.cutx hlt (show p - 1 < n by omega) (dd_one_west (by rw [← HU.out]; exact hu0))
          rw [← E.out.1, ← E.out.2, ← hx1] at this
          exact this
        have X1 : Hid (0 ≤ x1 ∧ (x1 ≤ 15 ∧ x1 ≤ y0) ∧ Lo W n R (upd Y p x1) ∧ (0 < p % (W + 1) → x1 ≤ Y (p - 1) + 1)) := hid ⟨hnn1, ⟨by omega, hle1.1⟩, hlo1, fun _ => by rw [← E.out.2]; exact hle1.2⟩
        have HS1 := hid hS1
        generalize World.drew _ = wy at HS1 ⊢
        clear hS1 hle1 hnn1 hlo1 hx1 c0 c1 f0
        by_cases hpw : W + 1 ≤ p
        · have c0 := HS1.out.cell hlt
          rw [upd_at] at c0
          have hq : p - (W + 1) < n := by omega
          have hqe : ((p : Int) - ((W : Int) + 1)).toNat = p - (W + 1) := by omega
          have c1 := HS1.out.cell hq
          rw [upd_off _ _ (by omega)] at c1
          have f0 := HS1.out.1.frozenAt p
          have hgz := (HS1.out.1.lt g rfl).2
          have r1 := hS.out.2.nn (p - (W + 1)) hq
          obtain ⟨y2, ey2⟩ : ∃ y, y = Y (p - (W + 1)) := ⟨_, rfl⟩
          rw [← ey2] at c1 r1
          have E2 := hid ey2
          clear ey2
          have hk1 := X1.out.1
          have hk2 := X1.out.2.1
          have hwr : IntKind.i64.wrap ((p : Int) - ((W : Int) + 1)) = (p : Int) - ((W : Int) + 1) := by rw [IntKind.wrap_i64]; omega
          have hb0 : 0 ≤ (p : Int) - ((W : Int) + 1) := by omega
          have hb1 : (p : Int) - ((W : Int) + 1) < (n : Int) := by omega
          go_wp2_with fail
          go_region
          obtain ⟨x2, hx2⟩ : ∃ x, x = cutx x1 y2 := ⟨_, rfl⟩
          simp only [show (if y2 + 1 < x1 then y2 + 1 else x1) = x2 from hx2.symm]
          have hS2 := (HS1.out.put p x2).drew
          rw [upd_upd] at hS2
          have hle2 := cutx_le x1 y2
          have hnn2 := cutx_nn hk1 r1.1
          have hlo2 : Lo W n R (upd Y p x2) := by
            have := X1.out.2.2.1.cutx hlt hq (dd_one_north hpw)
            rw [upd_at, upd_off _ _ (by omega), ← E2.out, ← hx2, upd_upd] at this
            exact this
          have hP := hS.out.2.step hlt (x := x2) (by rw [← E.out.1]; omega) (by omega) hlo2 (fun h => by have := X1.out.2.2.2 h; omega) (fun _ => by rw [← E2.out]; omega)
          have HSP := hid (And.intro hS2 hP)
          generalize World.drew _ = wz at HSP ⊢
          clear hS2 hP hlo2 hle2 hnn2 hx2 c0 c1 f0 HS1
          go_wp2_with fail
          go_roundw
          case rel => exact ⟨p + 1, _, by omega, by go_num, HSP⟩
          case measure => simp [intOf]; omega
        · have hP := hS.out.2.step hlt (x := x1) (by rw [← E.out.1]; exact X1.out.2.1.2) X1.out.1 X1.out.2.2.1 X1.out.2.2.2 (fun h => absurd h hpw)
          have HSP := hid (And.intro HS1.out hP)
          clear hP HS1
          have hpw2 : (p : Int) < (W : Int) + 1 := by omega
          go_wp2_with fail
          go_roundw
          case rel => exact ⟨p + 1, _, by omega, by go_num, HSP⟩
          case measure => simp [intOf]; omega
      · have hu1 : u = 0 := by omega
        subst hu1
        have X1 : Hid (0 ≤ y0 ∧ (y0 ≤ 15 ∧ y0 ≤ y0) ∧ Lo W n R (upd Y p y0) ∧ (0 < p % (W + 1) → y0 ≤ Y (p - 1) + 1)) := hid ⟨r0.1, ⟨r0.2, Int.le_refl _⟩, by rw [E.out.1, upd_same]; exact hS.out.2.lo, fun h => by rw [← HU.out] at h; omega⟩
        have HS1 : Hid (SR B g n cap w wr (upd Y p y0)) := hid (by rw [E.out.1, upd_same]; exact hS.out.1)
        clear c0 c1 f0
        by_cases hpw : W + 1 ≤ p
        · have c0 := HS1.out.cell hlt
          rw [upd_at] at c0
          have hq : p - (W + 1) < n := by omega
          have hqe : ((p : Int) - ((W : Int) + 1)).toNat = p - (W + 1) := by omega
          have c1 := HS1.out.cell hq
          rw [upd_off _ _ (by omega)] at c1
          have f0 := HS1.out.1.frozenAt p
          have hgz := (HS1.out.1.lt g rfl).2
          have r1 := hS.out.2.nn (p - (W + 1)) hq
          obtain ⟨y2, ey2⟩ : ∃ y, y = Y (p - (W + 1)) := ⟨_, rfl⟩
          rw [← ey2] at c1 r1
          have E2 := hid ey2
          clear ey2
          have hk1 := X1.out.1
          have hk2 := X1.out.2.1
          have hwr : IntKind.i64.wrap ((p : Int) - ((W : Int) + 1)) = (p : Int) - ((W : Int) + 1) := by rw [IntKind.wrap_i64]; omega
          have hb0 : 0 ≤ (p : Int) - ((W : Int) + 1) := by omega
          have hb1 : (p : Int) - ((W : Int) + 1) < (n : Int) := by omega
          go_wp2_with fail
          go_region
          obtain ⟨x2, hx2⟩ : ∃ x, x = cutx y0 y2 := ⟨_, rfl⟩
          simp only [show (if y2 + 1 < y0 then y2 + 1 else y0) = x2 from hx2.symm]
          have hS2 := (HS1.out.put p x2).drew
          rw [upd_upd] at hS2
          have hle2 := cutx_le y0 y2
          have hnn2 := cutx_nn hk1 r1.1
          have hlo2 : Lo W n R (upd Y p x2) := by
            have := X1.out.2.2.1.cutx hlt hq (dd_one_north hpw)
            rw [upd_at, upd_off _ _ (by omega), ← E2.out, ← hx2, upd_upd] at this
            exact this
          have hP := hS.out.2.step hlt (x := x2) (by rw [← E.out.1]; omega) (by omega) hlo2 (fun h => by have := X1.out.2.2.2 h; omega) (fun _ => by rw [← E2.out]; omega)
          have HSP := hid (And.intro hS2 hP)
          generalize World.drew _ = wz at HSP ⊢
          clear hS2 hP hlo2 hle2 hnn2 hx2 c0 c1 f0 HS1
          go_wp2_with fail
          go_roundw
          case rel => exact ⟨p + 1, _, by omega, by go_num, HSP⟩
          case measure => simp [intOf]; omega
        · have hP := hS.out.2.step hlt (x := y0) (by rw [← E.out.1]; exact X1.out.2.1.2) X1.out.1 X1.out.2.2.1 X1.out.2.2.2 (fun h => absurd h hpw)
          have HSP := hid (And.intro HS1.out hP)
          clear hP HS1
          have hpw2 : (p : Int) < (W : Int) + 1 := by omega
          go_wp2_with fail
          go_roundw
          case rel => exact ⟨p + 1, _, by omega, by go_num, HSP⟩
          case measure => simp [intOf]; omega
    · obtain rfl : n = p := by omega
      obtain ⟨F, eF⟩ : ∃ F, F = Y := ⟨_, rfl⟩
      subst eF
      go_wp2_with fail
      have HA := hid hS.out.2
      have H1 := hid (And.intro hS.out.1 (PassB.start hS.out.2))
      clear hS
      go_loopw [5] (fun iv wr => ∃ (p : Nat) (Y : Nat → Int), p ≤ n ∧ iv = .int .i64 ((p : Int) - 1) ∧ Hid (SR B g n cap w wr Y ∧ PassB W n R F p Y)) (fun iv _ => (intOf iv + 1).toNat)
      case atStart => exact ⟨n, F, Nat.le_refl _, by go_num, H1⟩
      case round =>
        obtain ⟨p1, Y, hp, rfl, hS⟩ := hrel
        clear H1
        by_cases hlt : 0 < p1
        · obtain ⟨p, rfl⟩ : ∃ p, p1 = p + 1 := ⟨p1 - 1, by omega⟩
          rw [show ((p + 1 : Nat) : Int) - 1 = (p : Int) by omega]
          clear hlt
          have hlt : p < n := by omega
          obtain ⟨u, hu⟩ : ∃ u, u = p % (W + 1) := ⟨_, rfl⟩
          have huW : u ≤ W := by have := Nat.mod_lt p (show 0 < W + 1 by omega); omega
          have e2 : (p : Int) % ((W : Int) + 1) = (u : Int) := by rw [hu, Int.natCast_emod]; rfl
          have c0 := hS.out.1.cell hlt
          have f0 := hS.out.1.1.frozenAt p
          have hgz := (hS.out.1.1.lt g rfl).2
          have r0 := hS.out.2.nn p hlt
          obtain ⟨y0, ey0⟩ : ∃ y, y = Y p := ⟨_, rfl⟩
          rw [← ey0] at c0 r0
          have hnext : u < W → p + 1 < n := fun h => east_in HN.out hlt (by omega)
          have hdd : u < W → dd W p (p + 1) = 1 := fun h => dd_one_east (by omega)
          have HU := hid (And.intro hu (And.intro ey0 (And.intro hnext hdd)))
          clear hu ey0 hnext hdd
          by_cases hu0 : u < W
          · have hp1 : p + 1 < n := HU.out.2.2.1 hu0
            have hp1' : (p : Int) + 1 < (n : Int) := by omega
            have huw1 : (u : Int) < (W : Int) + 1 - 1 := by omega
            have c1 := hS.out.1.cell hp1
            have r1 := hS.out.2.nn (p + 1) hp1
            obtain ⟨y1, ey1⟩ : ∃ y, y = Y (p + 1) := ⟨_, rfl⟩
            rw [← ey1] at c1 r1
            have E := hid ey1
            clear ey1
            go_wp2_with fail
            go_region
            obtain ⟨x1, hx1⟩ : ∃ x, x = cutx y0 y1 := ⟨_, rfl⟩
            simp only [show (if y1 + 1 < y0 then y1 + 1 else y0) = x1 from hx1.symm]
            have hS1 := (hS.out.1.put p x1).drew
            have hle1 := cutx_le y0 y1
            have hnn1 := cutx_nn r0.1 r1.1
            rw [← hx1] at hle1 hnn1
            have hlo1 : Lo W n R (upd Y p x1) := by
              have := hS.out.2.lo.cutx hlt hp1 (HU.out.2.2.2 hu0)
              rw [← HU.out.2.1, ← E.out, ← hx1] at this
              exact this
            have X1 : Hid (0 ≤ x1 ∧ (x1 ≤ 15 ∧ x1 ≤ y0) ∧ Lo W n R (upd Y p x1) ∧ (p % (W + 1) < W → p + 1 < n → x1 ≤ Y (p + 1) + 1)) := hid ⟨hnn1, ⟨by omega, hle1.1⟩, hlo1, fun _ _ => by rw [← E.out]; exact hle1.2⟩
            have HS1 := hid hS1
            generalize World.drew _ = wy at HS1 ⊢
            clear hS1 hle1 hnn1 hlo1 hx1 c0 c1 f0
            by_cases hpw : p + (W + 1) < n
            · have c0 := HS1.out.cell hlt
              rw [upd_at] at c0
              have c1 := HS1.out.cell hpw
              rw [upd_off _ _ (by omega)] at c1
              have f0 := HS1.out.1.frozenAt p
              have hgz := (HS1.out.1.lt g rfl).2
              have r1 := hS.out.2.nn (p + (W + 1)) hpw
              obtain ⟨y2, ey2⟩ : ∃ y, y = Y (p + (W + 1)) := ⟨_, rfl⟩
              rw [← ey2] at c1 r1
              have E2 := hid ey2
              clear ey2
              have hk1 := X1.out.1
              have hk2 := X1.out.2.1
              have hwr : IntKind.i64.wrap ((p : Int) + ((W : Int) + 1)) = (p : Int) + ((W : Int) + 1) := by rw [IntKind.wrap_i64]; omega
              have hb0 : 0 ≤ (p : Int) + ((W : Int) + 1) := by omega
              have hb1 : (p : Int) + ((W : Int) + 1) < (n : Int) := by omega
              have hqe : ((p : Int) + ((W : Int) + 1)).toNat = p + (W + 1) := by omega
              go_wp2_with fail
              go_region
              obtain ⟨x2, hx2⟩ : ∃ x, x = cutx x1 y2 := ⟨_, rfl⟩
              simp only [show (if y2 + 1 < x1 then y2 + 1 else x1) = x2 from hx2.symm]
              have hS2 := (HS1.out.put p x2).drew
              rw [upd_upd] at hS2
              have hle2 := cutx_le x1 y2
              have hnn2 := cutx_nn hk1 r1.1
              have hlo2 : Lo W n R (upd Y p x2) := by
                have := X1.out.2.2.1.cutx hlt hpw (dd_one_south W p)
                rw [upd_at, upd_off _ _ (by omega), ← E2.out, ← hx2, upd_upd] at this
                exact this
              have hP := hS.out.2.step hlt (x := x2) (by rw [← HU.out.2.1]; omega) (by omega) hlo2 (fun h1 h2 => by have := X1.out.2.2.2 h1 h2; omega) (fun _ => by rw [← E2.out]; omega)
              have HSP := hid (And.intro hS2 hP)
              generalize World.drew _ = wz at HSP ⊢
              clear hS2 hP hlo2 hle2 hnn2 hx2 c0 c1 f0 HS1
              go_wp2_with fail
              go_roundw
              case rel => exact ⟨p, _, by omega, by go_num, HSP⟩
              case measure => simp [intOf]
            · have hP := hS.out.2.step hlt (x := x1) (by rw [← HU.out.2.1]; exact X1.out.2.1.2) X1.out.1 X1.out.2.2.1 X1.out.2.2.2 (fun h => absurd h hpw)
              have HSP := hid (And.intro HS1.out hP)
              clear hP HS1
              have hpw2 : (n : Int) ≤ (p : Int) + ((W : Int) + 1) := by omega
              go_wp2_with fail
              go_roundw
              case rel => exact ⟨p, _, by omega, by go_num, HSP⟩
              case measure => simp [intOf]
          · have hu1 : u = W := by omega
            subst hu1
            have X1 : Hid (0 ≤ y0 ∧ (y0 ≤ 15 ∧ y0 ≤ y0) ∧ Lo u n R (upd Y p y0) ∧ (p % (u + 1) < u → p + 1 < n → y0 ≤ Y (p + 1) + 1)) := hid ⟨r0.1, ⟨r0.2, Int.le_refl _⟩, by rw [HU.out.2.1, upd_same]; exact hS.out.2.lo, fun h _ => by rw [← HU.out.1] at h; omega⟩
            have HS1 : Hid (SR B g n cap w wr (upd Y p y0)) := hid (by rw [HU.out.2.1, upd_same]; exact hS.out.1)
            clear c0 f0
            by_cases hpw : p + (u + 1) < n
            · have c0 := HS1.out.cell hlt
              rw [upd_at] at c0
              have c1 := HS1.out.cell hpw
              rw [upd_off _ _ (by omega)] at c1
              have f0 := HS1.out.1.frozenAt p
              have hgz := (HS1.out.1.lt g rfl).2
              have r1 := hS.out.2.nn (p + (u + 1)) hpw
              obtain ⟨y2, ey2⟩ : ∃ y, y = Y (p + (u + 1)) := ⟨_, rfl⟩
              rw [← ey2] at c1 r1
              have E2 := hid ey2
              clear ey2
              have hk1 := X1.out.1
              have hk2 := X1.out.2.1
              have hwr : IntKind.i64.wrap ((p : Int) + ((u : Int) + 1)) = (p : Int) + ((u : Int) + 1) := by rw [IntKind.wrap_i64]; omega
              have hb0 : 0 ≤ (p : Int) + ((u : Int) + 1) := by omega
              have hb1 : (p : Int) + ((u : Int) + 1) < (n : Int) := by omega
              have hqe : ((p : Int) + ((u : Int) + 1)).toNat = p + (u + 1) := by omega
              go_wp2_with fail
              go_region
              obtain ⟨x2, hx2⟩ : ∃ x, x = cutx y0 y2 := ⟨_, rfl⟩
              simp only [show (if y2 + 1 < y0 then y2 + 1 else y0) = x2 from hx2.symm]
              have hS2 := (HS1.out.put p x2).drew
              rw [upd_upd] at hS2
              have hle2 := cutx_le y0 y2
              have hnn2 := cutx_nn hk1 r1.1
              have hlo2 : Lo u n R (upd Y p x2) := by
                have := X1.out.2.2.1.cutx hlt hpw (dd_one_south u p)
                rw [upd_at, upd_off _ _ (by omega), ← E2.out, ← hx2, upd_upd] at this
                exact this
              have hP := hS.out.2.step hlt (x := x2) (by rw [← HU.out.2.1]; omega) (by omega) hlo2 (fun h1 h2 => by have := X1.out.2.2.2 h1 h2; omega) (fun _ => by rw [← E2.out]; omega)
              have HSP := hid (And.intro hS2 hP)
              generalize World.drew _ = wz at HSP ⊢
              clear hS2 hP hlo2 hle2 hnn2 hx2 c0 c1 f0 HS1
              go_wp2_with fail
              go_roundw
              case rel => exact ⟨p, _, by omega, by go_num, HSP⟩
              case measure => simp [intOf]
            · have hP := hS.out.2.step hlt (x := y0) (by rw [← HU.out.2.1]; exact X1.out.2.1.2) X1.out.1 X1.out.2.2.1 X1.out.2.2.2 (fun h => absurd h hpw)
              have HSP := hid (And.intro HS1.out hP)
              clear hP HS1
              have hpw2 : (n : Int) ≤ (p : Int) + ((u : Int) + 1) := by omega
              go_wp2_with fail
              go_roundw
              case rel => exact ⟨p, _, by omega, by go_num, HSP⟩
              case measure => simp [intOf]
        · have h0 : p1 = 0 := by omega
          subst h0
          have HN2 := HN.out
          have hu := passes_up HN2 HA.out hS.out.2
          have H9 : Hid (∃ Y, SR B g n cap w wr Y ∧ Up W n R Y ∧ Lo W n R Y ∧ ∀ i, i < n → 0 ≤ Y i ∧ Y i ≤ 15) := hid ⟨Y, hS.out.1, hu, hS.out.2.lo, hS.out.2.nn⟩
          clear hS HN2 hu
          go_wp2_with fail
          go_end0
          exact ⟨rfl, H9.out⟩
end Go.Proofs.Ytngamphkehppfaa
