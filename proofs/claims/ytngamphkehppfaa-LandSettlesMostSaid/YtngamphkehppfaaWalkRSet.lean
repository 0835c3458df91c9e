/-
  The walk of the reference's Settle.
-/
import Derived.Test.YtngamphkehppfaaPasses2
namespace Go.Proofs.Ytngamphkehppfaa
open Go.RowKit

set_option maxRecDepth 20000 in
set_option maxHeartbeats 3200000 in
theorem refsettle_no (W H : Int) (ao : Option Addr) (n cap : Nat) (w : World) (h : ¬ Shaped W H n) :
    Calls Try.prog 20 #[.int .i64 W, .int .i64 H, .slice ao n cap] w fun r w' => r = .returned (none2 1) ∧ Below w.heap.size w w' := by
  by_cases hW : 4 ≤ W ∧ W ≤ 32
  · by_cases hH : 4 ≤ H ∧ H ≤ 32
    · have hne : ¬ (n : Int) = (W + 1) * (H + 1) := fun e => h ⟨⟨hW, hH⟩, e⟩
      obtain ⟨c, hc⟩ : ∃ c, c = (W + 1) * (H + 1) := ⟨_, rfl⟩
      have hb : 0 ≤ c ∧ c ≤ 2000 := by
        rw [hc]
        exact ⟨Int.mul_nonneg (by omega) (by omega), Int.le_trans (Int.mul_le_mul (show W + 1 ≤ 33 by omega) (show H + 1 ≤ 33 by omega) (by omega) (by omega)) (by omega)⟩
      have hcw2 : wrap64 ((W + 1) * (H + 1)) = c := by rw [← hc]; unfold wrap64; omega
      rw [← hc] at hne
      have HC := hid hc
      clear h hc
      go_enter Try.func20, Try.ntmps20
      go_wp2_with fail
      refine (side_yes hW.1 hW.2 _).mono ?_
      rintro r w2 ⟨rfl, rfl⟩
      go_wp2_with fail
      refine (side_yes hH.1 hH.2 _).mono ?_
      rintro r w2 ⟨rfl, rfl⟩
      go_wp2_with fail
      refine bodyPost_ret (v := none2 1) (by simp [results, Try.results20, go_sem]) rfl ⟨rfl, Joins.below_alloc1 _ _⟩
    · have HC := hid hH
      clear h hH
      go_enter Try.func20, Try.ntmps20
      go_wp2_with fail
      refine (side_yes hW.1 hW.2 _).mono ?_
      rintro r w2 ⟨rfl, rfl⟩
      go_wp2_with fail
      refine (side_no HC.out _).mono ?_
      rintro r w2 ⟨rfl, rfl⟩
      go_wp2_with fail
      refine bodyPost_ret (v := none2 1) (by simp [results, Try.results20, go_sem]) rfl ⟨rfl, Joins.below_alloc1 _ _⟩
  · have HC := hid hW
    clear h hW
    go_enter Try.func20, Try.ntmps20
    go_wp2_with fail
    refine (side_no HC.out _).mono ?_
    rintro r w2 ⟨rfl, rfl⟩
    go_wp2_with fail
    refine bodyPost_ret (v := none2 1) (by simp [results, Try.results20, go_sem]) rfl ⟨rfl, Joins.below_alloc1 _ _⟩

/-- Ahead of a round: what stands in the row. -/
structure RR (n W : Nat) (R : Nat → Int) (k : Nat) (Y : Nat → Int) : Prop where
  lo : Lo W n R Y
  nn : ∀ i, i < n → 0 ≤ Y i ∧ Y i ≤ 15
  le : ∀ i, i < n → Y i ≤ R i
  up : 0 < k → Up W n R Y
theorem RR.next {n W H : Nat} {R S F1 F2 F3 Y : Nat → Int} {k : Nat} (h : RR n W R k S) (hn : n = (W + 1) * (H + 1)) (h1 : PassG W n R (RW W) S (fun i => i < n) F1) (h2 : PassG W n R (RE W) F1 (fun i => 0 ≤ i) F2)
    (h3 : PassG W n R (RN W) F2 (fun i => i < n) F3) (h4 : PassG W n R (RS W) F3 (fun i => 0 ≤ i) Y) : RR n W R (k + 1) Y := by
  refine ⟨h4.lo, h4.nn, fun i hi => ?_, fun _ i j hi hj => ?_⟩
  · have a := h4.le i hi
    have b := h3.le i hi
    have c := h2.le i hi
    have d := h1.le i hi
    have e := h.le i hi
    omega
  · have a := four_up hn h1 h2 h3 h4 i j hi hj
    have b := h.le j hj
    omega

set_option maxRecDepth 20000 in
set_option maxHeartbeats 6400000 in
theorem refsettle_yes (W H : Nat) (ao : Option Addr) (n cap : Nat) (Z : Nat → Int) (hs : Shaped W H n) (w : World) (hI : Ints w ao n Z) :
    Calls Try.prog 20 #[.int .i64 W, .int .i64 H, .slice ao n cap] w (SetTo W H n Z w) := by
  have hb := hs.bound
  obtain ⟨hs, hn⟩ := hs
  obtain ⟨b, off, rfl, hbz, hcell⟩ := hI.one (by omega)
  have HI := hid hI
  have hW : 4 ≤ W ∧ W ≤ 32 := by have := hs.1; omega
  have hH : 4 ≤ H ∧ H ≤ 32 := by have := hs.2; omega
  have hnw : wrap64 (((W : Int) + 1) * ((H : Int) + 1)) = (n : Int) := by rw [← hn]; unfold wrap64; omega
  have HW : Hid (n = (W + 1) * (H + 1)) := hid (by have e : (n : Int) = ((W : Int) + 1) * ((H : Int) + 1) := hn; exact_mod_cast e)
  clear hs hn
  go_enter Try.func20, Try.ntmps20
  go_wp2_with fail
  refine (side_yes (a := (W : Int)) (by omega) (by omega) _).mono ?_
  rintro r w2 ⟨rfl, rfl⟩
  go_wp2_with fail
  refine (side_yes (a := (H : Int)) (by omega) (by omega) _).mono ?_
  rintro r w2 ⟨rfl, rfl⟩
  have M := run_mk22 n (by omega)
  have HS := hid (rb_start w n (by omega))
  go_wp2_with fail
  obtain ⟨B, hB⟩ : ∃ B, B = w.heap.size := ⟨_, rfl⟩
  simp only [← hB] at HS ⊢
  have HB := hid hB
  have hbz' : b < B := by omega
  have HS0 := hid (HS.out.congr (X := fun i => if i < 0 then clz (Z i) else 0) (fun i _ => by simp))
  have HCELL := hid hcell
  clear hB hbz hcell M hI HS
  generalize World.alloc _ _ = w1 at HS0 ⊢
  go_loopw [39] (fun iv wr => ∃ p : Nat, p ≤ n ∧ iv = .int .i64 p ∧ Hid (RB B (B + 1) n #[.int .i64 0, .int .i64 0, .slice none 0 0] w wr (fun i => if i < p then clz (Z i) else 0))) (fun iv _ => n - (intOf iv).toNat)
  case atStart => exact ⟨0, Nat.zero_le _, rfl, HS0⟩
  case round =>
    obtain ⟨p, hp, rfl, hS⟩ := hrel
    clear HS0
    by_cases hlt : p < n
    · have c0 := (hS.out.below.cell (p := ⟨b, off + p, none⟩) hbz').trans (HCELL.out p hlt)
      have f0 := hS.out.row.frozenAt p
      have c2 := hS.out.row.cellAt p (by omega)
      rw [ints_get _ hlt] at c2
      have hgz := (hS.out.row.lt (B + 1) rfl).2
      obtain ⟨z, hz⟩ : ∃ z, z = Z p := ⟨_, rfl⟩
      rw [← hz] at c0
      have HZ := hid hz
      clear hz
      go_wp2_with fail
      go_roundw
      case rel =>
        refine ⟨p + 1, by omega, by go_num, hid ?_⟩
        rw [HZ.out]
        exact (hS.out.put p (clz (Z p))).congr (fun i _ => upd_copy Z p i)
      case measure => simp [intOf]; omega
    · obtain rfl : n = p := by omega
      obtain ⟨R, hR⟩ : ∃ R : Nat → Int, R = fun i => clz (Z i) := ⟨_, rfl⟩
      have hS1 := hid (hS.out.congr (X := R) (fun i hi => by rw [hR]; exact if_pos hi))
      have HR0 : Hid (SR (B + 1) (B + 1) n n wr wr R ∧ RR n W R 0 R) := hid ⟨⟨hS1.out.row, ⟨rfl, rfl, rfl, Nat.le_refl _, fun _ _ _ => rfl⟩⟩, fun _ _ hr i hi => hr i hi, fun i _ => by rw [hR]; exact clz_in _, fun _ _ => Int.le_refl _, fun h => absurd h (by omega)⟩
      have HRR := hid hR
      clear hS hR
      obtain ⟨wc, hwc⟩ : ∃ wc, wc = wr := ⟨_, rfl⟩
      rw [← hwc] at HR0 hS1
      go_wp2_with fail
      go_loopw [51] (fun iv wr => ∃ (k : Nat) (Y : Nat → Int), k ≤ 2 ∧ iv = .int .i64 k ∧ Hid (SR (B + 1) (B + 1) n n wc wr Y ∧ RR n W R k Y)) (fun iv _ => 2 - (intOf iv).toNat)
      case atStart => exact ⟨0, R, by omega, rfl, by rw [← hwc]; exact HR0⟩
      case round =>
        obtain ⟨k, S, hk, rfl, hS⟩ := hrel
        clear HR0 hwc
        by_cases hk2 : k < 2
        · have H1 := hid (And.intro hS.out.1 (PassG.start (Rl := RW W) (D := fun i => i < 0) hS.out.2.lo hS.out.2.nn (fun i j h _ _ _ => absurd h (Nat.not_lt_zero _))))
          have HK := hid hS.out.2
          clear hS
          go_wp2_with fail
          go_loopw [55] (fun iv wr => ∃ (p : Nat) (Y : Nat → Int), p ≤ n ∧ iv = .int .i64 p ∧ Hid (SR (B + 1) (B + 1) n n wc wr Y ∧ PassG W n R (RW W) S (fun i => i < p) Y)) (fun iv _ => n - (intOf iv).toNat)
          case atStart => exact ⟨0, S, Nat.zero_le _, rfl, H1⟩
          case round =>
            obtain ⟨p, Y, hp, rfl, hS⟩ := hrel
            clear H1
            by_cases hlt : p < n
            · obtain ⟨u, hu⟩ : ∃ u, u = p % (W + 1) := ⟨_, rfl⟩
              have e2 : (p : Int) % ((W : Int) + 1) = (u : Int) := by rw [hu, Int.natCast_emod]; rfl
              have HU := hid hu
              clear hu
              by_cases hu0 : 0 < u
              · have hp1 : 1 ≤ p := by
                  rcases Nat.eq_zero_or_pos p with h0 | h0
                  · have := HU.out; subst h0; simp at this; omega
                  · exact h0
                have hq : p - 1 < n := by omega
                have c0 := hS.out.1.cell hlt
                have c1 := hS.out.1.cell hq
                have f0 := hS.out.1.1.frozenAt p
                have hgz := (hS.out.1.1.lt (B + 1) rfl).2
                have r0 := hS.out.2.nn p hlt
                have r1 := hS.out.2.nn (p - 1) hq
                obtain ⟨y0, ey0⟩ : ∃ y, y = Y p := ⟨_, rfl⟩
                obtain ⟨y1, ey1⟩ : ∃ y, y = Y (p - 1) := ⟨_, rfl⟩
                rw [← ey0] at c0 r0
                rw [← ey1] at c1 r1
                have E := hid (And.intro ey0 ey1)
                clear ey0 ey1
                go_wp2_with fail
                go_region
                obtain ⟨x1, hx1⟩ : ∃ x, x = cutx y0 y1 := ⟨_, rfl⟩
                simp only [show (if y1 + 1 < y0 then y1 + 1 else y0) = x1 from hx1.symm]
                have hS1 := (hS.out.1.put p x1).drew
                have hle1 := cutx_le y0 y1
                have hnn1 := cutx_nn r0.1 r1.1
                rw [← hx1] at hle1 hnn1
                have hlo1 : Lo W n R (upd Y p x1) := by
                  have := hS.out.2.lo.cutx hlt hq (dd_one_west (by rw [← HU.out]; exact hu0))
                  rw [← E.out.1, ← E.out.2, ← hx1] at this
                  exact this
                have hP := west_step hS.out.2 hlt (x := x1) (by rw [← E.out.1]; exact hle1.1) hnn1 hlo1 (fun _ => by rw [← E.out.2]; exact hle1.2)
                have HSP := hid (And.intro hS1 hP)
                generalize World.drew _ = wy at HSP ⊢
                clear hS1 hP hle1 hnn1 hlo1 hx1 c0 c1 f0
                go_wp2_with fail
                go_roundw
                case rel => exact ⟨p + 1, _, by omega, by go_num, HSP⟩
                case measure => simp [intOf]; omega
              · have hu1 : u = 0 := by omega
                subst hu1
                have hP := west_step hS.out.2 hlt (x := Y p) (Int.le_refl _) (hS.out.2.nn p hlt).1 (by rw [upd_same]; exact hS.out.2.lo) (fun h => by rw [← HU.out] at h; omega)
                rw [upd_same] at hP
                have HSP := hid (And.intro hS.out.1 hP)
                clear hP
                go_wp2_with fail
                go_roundw
                case rel => exact ⟨p + 1, _, by omega, by go_num, HSP⟩
                case measure => simp [intOf]; omega
            · obtain rfl : n = p := by omega
              obtain ⟨F1, eF1⟩ : ∃ F1, F1 = Y := ⟨_, rfl⟩
              subst eF1
              have HA1 := hid hS.out.2
              have H2 := hid (And.intro hS.out.1 (PassG.start (Rl := RE W) (D := fun i => n ≤ i) hS.out.2.lo hS.out.2.nn (fun i j h hi _ _ => absurd hi (Nat.not_lt.2 h))))
              clear hS
              go_wp2_with fail
              go_loopw [12] (fun iv wr => ∃ (p : Nat) (Y : Nat → Int), p ≤ n ∧ iv = .int .i64 ((p : Int) - 1) ∧ Hid (SR (B + 1) (B + 1) n n wc wr Y ∧ PassG W n R (RE W) F1 (fun i => p ≤ i) Y)) (fun iv _ => (intOf iv + 1).toNat)
              case atStart => exact ⟨n, F1, Nat.le_refl _, by go_num, H2⟩
              case round =>
                obtain ⟨p1, Y, hp, rfl, hS⟩ := hrel
                clear H2
                by_cases hlt : 0 < p1
                · obtain ⟨p, rfl⟩ : ∃ p, p1 = p + 1 := ⟨p1 - 1, by omega⟩
                  rw [show ((p + 1 : Nat) : Int) - 1 = (p : Int) by omega]
                  clear hlt
                  have hlt : p < n := by omega
                  obtain ⟨u, hu⟩ : ∃ u, u = p % (W + 1) := ⟨_, rfl⟩
                  have huW : u ≤ W := by have := Nat.mod_lt p (show 0 < W + 1 by omega); omega
                  have e2 : (p : Int) % ((W : Int) + 1) = (u : Int) := by rw [hu, Int.natCast_emod]; rfl
                  have hnext : u < W → p + 1 < n := fun h => east_in HW.out hlt (by omega)
                  have hdd : u < W → dd W p (p + 1) = 1 := fun h => dd_one_east (by omega)
                  have HU := hid (And.intro hu (And.intro hnext hdd))
                  clear hu hnext hdd
                  by_cases hu0 : u < W
                  · have hq : p + 1 < n := HU.out.2.1 hu0
                    have hp1' : (p : Int) + 1 < (n : Int) := by omega
                    have c0 := hS.out.1.cell hlt
                    have c1 := hS.out.1.cell hq
                    have f0 := hS.out.1.1.frozenAt p
                    have hgz := (hS.out.1.1.lt (B + 1) rfl).2
                    have r0 := hS.out.2.nn p hlt
                    have r1 := hS.out.2.nn (p + 1) hq
                    obtain ⟨y0, ey0⟩ : ∃ y, y = Y p := ⟨_, rfl⟩
                    obtain ⟨y1, ey1⟩ : ∃ y, y = Y (p + 1) := ⟨_, rfl⟩
                    rw [← ey0] at c0 r0
                    rw [← ey1] at c1 r1
                    have E := hid (And.intro ey0 ey1)
                    clear ey0 ey1
                    go_wp2_with fail
                    go_region
                    obtain ⟨x1, hx1⟩ : ∃ x, x = cutx y0 y1 := ⟨_, rfl⟩
                    simp only [show (if y1 + 1 < y0 then y1 + 1 else y0) = x1 from hx1.symm]
                    have hS1 := (hS.out.1.put p x1).drew
                    have hle1 := cutx_le y0 y1
                    have hnn1 := cutx_nn r0.1 r1.1
                    rw [← hx1] at hle1 hnn1
                    have hlo1 : Lo W n R (upd Y p x1) := by
                      have := hS.out.2.lo.cutx hlt hq (HU.out.2.2 hu0)
                      rw [← E.out.1, ← E.out.2, ← hx1] at this
                      exact this
                    have hP := east_step HW.out hS.out.2 hlt (x := x1) (by rw [← E.out.1]; exact hle1.1) hnn1 hlo1 (fun _ => by rw [← E.out.2]; exact hle1.2)
                    have HSP := hid (And.intro hS1 hP)
                    generalize World.drew _ = wy at HSP ⊢
                    clear hS1 hP hle1 hnn1 hlo1 hx1 c0 c1 f0
                    go_wp2_with fail
                    go_roundw
                    case rel => exact ⟨p, _, by omega, by go_num, HSP⟩
                    case measure => simp [intOf]
                  · have hu1 : u = W := by omega
                    subst hu1
                    have hP := east_step HW.out hS.out.2 hlt (x := Y p) (Int.le_refl _) (hS.out.2.nn p hlt).1 (by rw [upd_same]; exact hS.out.2.lo) (fun h => by rw [← HU.out.1] at h; omega)
                    rw [upd_same] at hP
                    have HSP := hid (And.intro hS.out.1 hP)
                    clear hP
                    go_wp2_with fail
                    go_roundw
                    case rel => exact ⟨p, _, by omega, by go_num, HSP⟩
                    case measure => simp [intOf]
                · obtain rfl : p1 = 0 := by omega
                  obtain ⟨F2, eF2⟩ : ∃ F2, F2 = Y := ⟨_, rfl⟩
                  subst eF2
                  have HA2 := hid hS.out.2
                  have H3 := hid (And.intro hS.out.1 (PassG.start (Rl := RN W) (D := fun i => i < W + 1) hS.out.2.lo hS.out.2.nn (fun i j h _ _ hr => rn_first h hr)))
                  clear hS
                  have hWn : W + 1 ≤ n := by have := HW.out; rw [this]; exact Nat.le_mul_of_pos_right _ (by omega)
                  go_wp2_with fail
                  go_loopw [13] (fun iv wr => ∃ (p : Nat) (Y : Nat → Int), W + 1 ≤ p ∧ p ≤ n ∧ iv = .int .i64 p ∧ Hid (SR (B + 1) (B + 1) n n wc wr Y ∧ PassG W n R (RN W) F2 (fun i => i < p) Y)) (fun iv _ => n - (intOf iv).toNat)
                  case atStart => exact ⟨W + 1, F2, Nat.le_refl _, hWn, by go_num, H3⟩
                  case round =>
                    obtain ⟨p, Y, hpw, hp, rfl, hS⟩ := hrel
                    clear H3
                    by_cases hlt : p < n
                    · have hq : p - (W + 1) < n := by omega
                      have hwr1 : IntKind.i64.wrap ((p : Int) - (W : Int)) = (p : Int) - (W : Int) := by rw [IntKind.wrap_i64]; omega
                      have hwr2 : IntKind.i64.wrap ((p : Int) - (W : Int) - 1) = (p : Int) - (W : Int) - 1 := by rw [IntKind.wrap_i64]; omega
                      have hb0 : 0 ≤ (p : Int) - (W : Int) - 1 := by omega
                      have hb1 : (p : Int) - (W : Int) - 1 < (n : Int) := by omega
                      have hqe : ((p : Int) - (W : Int) - 1).toNat = p - (W + 1) := by omega
                      have c0 := hS.out.1.cell hlt
                      have c1 := hS.out.1.cell hq
                      have f0 := hS.out.1.1.frozenAt p
                      have hgz := (hS.out.1.1.lt (B + 1) rfl).2
                      have r0 := hS.out.2.nn p hlt
                      have r1 := hS.out.2.nn (p - (W + 1)) hq
                      obtain ⟨y0, ey0⟩ : ∃ y, y = Y p := ⟨_, rfl⟩
                      obtain ⟨y1, ey1⟩ : ∃ y, y = Y (p - (W + 1)) := ⟨_, rfl⟩
                      rw [← ey0] at c0 r0
                      rw [← ey1] at c1 r1
                      have E := hid (And.intro ey0 ey1)
                      clear ey0 ey1
                      go_wp2_with fail
                      go_region
                      obtain ⟨x1, hx1⟩ : ∃ x, x = cutx y0 y1 := ⟨_, rfl⟩
                      simp only [show (if y1 + 1 < y0 then y1 + 1 else y0) = x1 from hx1.symm]
                      have hS1 := (hS.out.1.put p x1).drew
                      have hle1 := cutx_le y0 y1
                      have hnn1 := cutx_nn r0.1 r1.1
                      rw [← hx1] at hle1 hnn1
                      have hlo1 : Lo W n R (upd Y p x1) := by
                        have := hS.out.2.lo.cutx hlt hq (dd_one_north hpw)
                        rw [← E.out.1, ← E.out.2, ← hx1] at this
                        exact this
                      have hP := north_step hS.out.2 hlt hpw (x := x1) (by rw [← E.out.1]; exact hle1.1) hnn1 hlo1 (by rw [← E.out.2]; exact hle1.2)
                      have HSP := hid (And.intro hS1 hP)
                      generalize World.drew _ = wy at HSP ⊢
                      clear hS1 hP hle1 hnn1 hlo1 hx1 c0 c1 f0
                      go_wp2_with fail
                      go_roundw
                      case rel => exact ⟨p + 1, _, by omega, by omega, by go_num, HSP⟩
                      case measure => simp [intOf]; omega
                    · obtain rfl : n = p := by omega
                      obtain ⟨F3, eF3⟩ : ∃ F3, F3 = Y := ⟨_, rfl⟩
                      subst eF3
                      have HA3 := hid hS.out.2
                      have H4 := hid (And.intro hS.out.1 (PassG.start (Rl := RS W) (D := fun i => n - (W + 1) ≤ i) hS.out.2.lo hS.out.2.nn (fun i j h _ hj hr => rs_last HW.out h hj hr)))
                      clear hS
                      have hwr1 : IntKind.i64.wrap ((n : Int) - (W : Int)) = (n : Int) - (W : Int) := by rw [IntKind.wrap_i64]; omega
                      have hwr2 : IntKind.i64.wrap ((n : Int) - (W : Int) - 2) = (n : Int) - (W : Int) - 2 := by rw [IntKind.wrap_i64]; omega
                      go_wp2_with fail
                      go_loopw [14] (fun iv wr => ∃ (p : Nat) (Y : Nat → Int), p + (W + 1) ≤ n ∧ iv = .int .i64 ((p : Int) - 1) ∧ Hid (SR (B + 1) (B + 1) n n wc wr Y ∧ PassG W n R (RS W) F3 (fun i => p ≤ i) Y)) (fun iv _ => (intOf iv + 1).toNat)
                      case atStart => exact ⟨n - (W + 1), F3, by omega, by congr 1; omega, H4⟩
                      case round =>
                        obtain ⟨p1, Y, hp, rfl, hS⟩ := hrel
                        clear H4 hwr1 hwr2
                        by_cases hlt : 0 < p1
                        · obtain ⟨p, rfl⟩ : ∃ p, p1 = p + 1 := ⟨p1 - 1, by omega⟩
                          rw [show ((p + 1 : Nat) : Int) - 1 = (p : Int) by omega]
                          clear hlt
                          have hlt : p < n := by omega
                          have hq : p + (W + 1) < n := by omega
                          have hwr1 : IntKind.i64.wrap ((p : Int) + (W : Int)) = (p : Int) + (W : Int) := by rw [IntKind.wrap_i64]; omega
                          have hwr2 : IntKind.i64.wrap ((p : Int) + (W : Int) + 1) = (p : Int) + (W : Int) + 1 := by rw [IntKind.wrap_i64]; omega
                          have hb0 : 0 ≤ (p : Int) + (W : Int) + 1 := by omega
                          have hb1 : (p : Int) + (W : Int) + 1 < (n : Int) := by omega
                          have hqe : ((p : Int) + (W : Int) + 1).toNat = p + (W + 1) := by omega
                          have c0 := hS.out.1.cell hlt
                          have c1 := hS.out.1.cell hq
                          have f0 := hS.out.1.1.frozenAt p
                          have hgz := (hS.out.1.1.lt (B + 1) rfl).2
                          have r0 := hS.out.2.nn p hlt
                          have r1 := hS.out.2.nn (p + (W + 1)) hq
                          obtain ⟨y0, ey0⟩ : ∃ y, y = Y p := ⟨_, rfl⟩
                          obtain ⟨y1, ey1⟩ : ∃ y, y = Y (p + (W + 1)) := ⟨_, rfl⟩
                          rw [← ey0] at c0 r0
                          rw [← ey1] at c1 r1
                          have E := hid (And.intro ey0 ey1)
                          clear ey0 ey1
                          go_wp2_with fail
                          go_region
                          obtain ⟨x1, hx1⟩ : ∃ x, x = cutx y0 y1 := ⟨_, rfl⟩
                          simp only [show (if y1 + 1 < y0 then y1 + 1 else y0) = x1 from hx1.symm]
                          have hS1 := (hS.out.1.put p x1).drew
                          have hle1 := cutx_le y0 y1
                          have hnn1 := cutx_nn r0.1 r1.1
                          rw [← hx1] at hle1 hnn1
                          have hlo1 : Lo W n R (upd Y p x1) := by
                            have := hS.out.2.lo.cutx hlt hq (dd_one_south W p)
                            rw [← E.out.1, ← E.out.2, ← hx1] at this
                            exact this
                          have hP := south_step HW.out hS.out.2 hq (x := x1) (by rw [← E.out.1]; exact hle1.1) hnn1 hlo1 (by rw [← E.out.2]; exact hle1.2)
                          have HSP := hid (And.intro hS1 hP)
                          generalize World.drew _ = wy at HSP ⊢
                          clear hS1 hP hle1 hnn1 hlo1 hx1 c0 c1 f0
                          go_wp2_with fail
                          go_roundw
                          case rel => exact ⟨p, _, by omega, by go_num, HSP⟩
                          case measure => simp [intOf]
                        · obtain rfl : p1 = 0 := by omega
                          have HSP := hid (And.intro hS.out.1 (HK.out.next HW.out HA1.out HA2.out HA3.out hS.out.2))
                          clear hS
                          go_wp2_with fail
                          go_roundw
                          case rel => exact ⟨k + 1, _, by omega, by go_num, HSP⟩
                          case measure => simp [intOf]; omega
        · obtain rfl : k = 2 := by omega
          have H3 := hid (hS1.out.grown hS.out.1.2 hS.out.1.1)
          have HY := hid (And.intro (hS.out.2.up (by omega)) (And.intro hS.out.2.lo hS.out.2.nn))
          rw [HRR.out] at HY
          clear hS hS1
          have hr := H3.out.hr
          have r0 : wr.cell? ⟨B, 0, none⟩ = some (.int .i64 0) := cell_of_row wr B 0 _ _ _ hr
          have r1 : wr.cell? ⟨B, 1, none⟩ = some (.int .i64 0) := cell_of_row wr B 1 _ _ _ hr
          have r2 : wr.cell? ⟨B, 2, none⟩ = some (.slice none 0 0) := cell_of_row wr B 2 _ _ _ hr
          have f0 : wr.frozen? ⟨B, 0, none⟩ = false := frozen_of_row wr B 0 _ _ hr
          have f1 : wr.frozen? ⟨B, 1, none⟩ = false := frozen_of_row wr B 1 _ _ hr
          have f2 : wr.frozen? ⟨B, 2, none⟩ = false := frozen_of_row wr B 2 _ _ hr
          have hBz := heap_lt hr
          clear hr
          go_wp2_with fail
          have k3 := set3 H3.out.hr (.int .i64 W) (.int .i64 H) (.slice (some ⟨B + 1, 0, none⟩) n n)
          have k4 := set3_below (g := B) H3.out.below (Nat.le_refl _) (.int .i64 W) (.int .i64 H) (.slice (some ⟨B + 1, 0, none⟩) n n)
          have k5 := set3_row (g := B) H3.out.row (by simp [Value.ownBlock]) (.int .i64 W) (.int .i64 H) (.slice (some ⟨B + 1, 0, none⟩) n n)
          clear r0 r1 r2 f0 f1 f2
          generalize World.setCell _ _ _ = w6 at k3 k4 k5 ⊢
          have q0 := cell_of_row w6 B 0 _ _ _ k3
          have q1 := cell_of_row w6 B 1 _ _ _ k3
          have q2 := cell_of_row w6 B 2 _ _ _ k3
          simp at q0 q1 q2
          refine bodyPost_ret (v := .tuple #[lv W H (.slice (some ⟨B + 1, 0, none⟩) n n), .int .i64 0]) (by simp [results, Try.results20, go_sem, q0, q1, q2]) rfl ⟨B + 1, n, _, rfl, ?_, ?_, HY.out⟩
          · rw [← HB.out]; exact k5.mono' (Nat.le_succ _)
          · rw [← HB.out]; exact k4
end Go.Proofs.Ytngamphkehppfaa
