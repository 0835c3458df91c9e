/-
  The walk of the law that a shift is the least right change, downwards, and the two in one.
-/
import Derived.Test.YtngamphkehppfaaLawLeast
namespace Go.Proofs.Ytngamphkehppfaa
open Go.RowKit
set_option maxRecDepth 20000 in
set_option maxHeartbeats 6400000 in
theorem least_dn (W H : Nat) (ao : Option Addr) (n cap : Nat) (Z : Nat → Int) (x y : Nat) (bo : Option Addr) (m cap2 : Nat) (hm : m ≤ 9223372036854775807) (h1 : ¬ 4000 < max n m) (T : Nat → Int) (z : Int) (L : List Nat) (X : Nat → Int) (hok : SOk W H n Z x y (-1) 0 (fun _ => 0) z L X) (w : World) (hI : Ints w ao n Z) (hT : Ints w bo m T) :
    Calls Try.prog 11 #[lv W H (.slice ao n cap), .int .i64 x, .int .i64 y, .bool false, .slice bo m cap2] w fun r w' => r = .returned (.bool true) ∧ Below w.heap.size w w' := by
  have hW : Way false (-1) := by exact .inr ⟨rfl, rfl⟩
  have hX := hok.keeps
  obtain ⟨hW1, hW2, hH1, hH2⟩ := hok.good.side
  have hlb := hok.good.shaped.bound
  have HW := hid hW
  have HG := hid hok.good
  have HX := hid hX
  have HOK := hid hok
  have hLl : L.length ≤ n := by rw [hok.hL]; exact chs_le _ _ _ _ _ _ _
  have hpos : 0 < L.length := List.length_pos_of_mem (by rw [hok.hL, hok.ez]; exact self_chg hok.good hok.hx hok.hy hok.hs)
  obtain ⟨b, off, rfl, hbw, hcx⟩ := hI.one (by omega)
  clear hcx
  have HL := hid ((lb_start (W := W) (H := H) (cap := cap) hI).stays (Joins.below_alloc1 _ (.cells #[.slice bo m cap2] 22)))
  have HT := hid hT
  have hsz : (w.alloc (.cells #[.int .i64 W, .int .i64 H, .slice (some ⟨b, off, none⟩) n cap] 24)).heap.size = w.heap.size + 1 := by simp
  have H1 := hid (decide_eq_false h1)
  obtain ⟨a, ha⟩ : ∃ a, a = y * (W + 1) := ⟨_, rfl⟩
  obtain ⟨q, hq⟩ : ∃ q, q = a + x := ⟨_, rfl⟩
  have hqn : q < n := by rw [hq, ha]; exact hok.good.at_lt (by have := hok.hx; omega) (by have := hok.hy; omega)
  have hzq : X q = z := by rw [hq, ha]; exact hok.at
  have hzz : z = Z q + (-1) := by rw [hq, ha]; exact hok.ez
  have hzb := hok.hz
  have hxw := hok.hx
  have hyh := hok.hy
  have e1 : (y : Int) * ((W : Int) + 1) = (a : Int) := by rw [ha]; simp
  have e2 : (a : Int) + (x : Int) = (q : Int) := by rw [hq]; simp
  have haq : a ≤ q := by omega
  have HQ := hid (And.intro ha (And.intro hq (And.intro hzq hzz)))
  clear h1 hI hT hX hok hW ha hq hzq hzz
  go_enter Try.func11, Try.ntmps11
  go_wp2_with fail
  refine (large1 W H _ n cap (by omega) bo m cap2 hm _ (w.heap.size + 1) (by simp) (by simp)).mono ?_
  rw [H1.out]
  rintro r w1 ⟨rfl, hb1⟩
  have HL1 := hid (HL.out.stays hb1)
  have c0 := HL1.out.c0
  have c1 := HL1.out.c1
  have c2 := HL1.out.c2
  clear hb1 HL
  go_wp2_with fail
  refine (shift_ok W H _ n cap Z x y false (-1) HW.out none 0 0 (by omega) (fun _ => 0) _ HL1.out.ints (Ints.nil _ _) HOK.out).mono ?_
  rintro r w2 ⟨g, c, v, rfl, hrl, hrc, hb2⟩
  obtain ⟨gl, capl, rfl, _, _⟩ := hrl.form hpos
  have ka := Joins.below_alloc1 w2 (.cells #[.int .i64 W, .int .i64 H, .slice (some ⟨g, 0, none⟩) n c] 24)
  have HLL : Hid (LL w2.heap.size W H (some ⟨b, off, none⟩) n cap Z g c X (.slice (some ⟨gl, 0, none⟩) L.length capl) L bo m T w (w2.alloc (.cells #[.int .i64 W, .int .i64 H, .slice (some ⟨g, 0, none⟩) n c] 24))) :=
    hid ⟨(HL1.out.stays hb2).stays ka, by simp, by simp, by simp, by simp, (ints_of_row hrc).stays ka, (row_stays hrl ka).mono' (Nat.zero_le _), (HT.out.stays (HL1.out.stays hb2).below).stays ka⟩
  clear hb2 c0 c1 c2 HL1 hrl hrc ka
  obtain ⟨b1, hb1⟩ : ∃ b, b = w2.heap.size := ⟨_, rfl⟩
  rw [← hb1] at HLL
  have c0 := HLL.out.lb.c0
  obtain ⟨z0, hz0⟩ : ∃ z0, Z q = z0 := ⟨_, rfl⟩
  have HQZ : Hid (q < n ∧ Z q = z0 ∧ X q = z0 + (-1)) := hid ⟨hqn, hz0, by have := HQ.out; omega⟩
  have hzb2 : 0 ≤ z0 + (-1) ∧ z0 + (-1) ≤ 15 := by have := HQ.out; omega
  obtain ⟨B, hB⟩ : ∃ B, B = w.heap.size := ⟨_, rfl⟩
  go_wp2_with fail
  simp only [← hb1, ← hB] at c0 ⊢
  have HB1 := hid hb1
  have HBB := hid hB
  clear hb1 hB hz0 c0
  generalize w2.alloc (.cells #[.int .i64 W, .int .i64 H, .slice (some ⟨g, 0, none⟩) n c] 24) = w3 at *
  obtain ⟨_, c0, c1, c2, a0, a1, a2, d0, d1⟩ := ll_keep HBB.out HQZ.out (And.intro HLL.out trivial) (Below.refl _ _)
  have x1 : IntKind.i64.wrap (z0 + (-1)) = z0 + (-1) := IntWalk.i64_in _ (by omega)
  have x2 : IntKind.i64.wrap (250 * (L.length : Int)) = (L.length : Int) * 250 := by rw [Int.mul_comm]; exact IntWalk.i64_in _ (by omega)
  have x3 : (0 : Int) ≤ (q : Int) := by omega
  have x4 : (q : Int) < (n : Int) := by omega
  go_region_held3 (fun w' => LL b1 W H (some ⟨b, off, none⟩) n cap Z g c X (.slice (some ⟨gl, 0, none⟩) L.length capl) L bo m T w w' ∧ w'.cell? ⟨B, 0, none⟩ = some (.int .i64 W) ∧ w'.cell? ⟨B, 1, none⟩ = some (.int .i64 H) ∧ w'.cell? ⟨B, 2, none⟩ = some (.slice (some ⟨b, off, none⟩) n cap) ∧
      w'.cell? ⟨b1, 0, none⟩ = some (.int .i64 W) ∧ w'.cell? ⟨b1, 1, none⟩ = some (.int .i64 H) ∧ w'.cell? ⟨b1, 2, none⟩ = some (.slice (some ⟨g, 0, none⟩) n c) ∧ w'.cell? ⟨b, off + q, none⟩ = some (.int .i64 z0) ∧ w'.cell? ⟨g, q, none⟩ = some (.int .i64 (z0 + (-1))))
    (first
      | exact ll_keep HBB.out HQZ.out (And.intro HLL.out trivial) ((Below.refl _ _).drew)
      | exact ll_keep HBB.out HQZ.out (by assumption) hb
      | assumption)
    (first
      | (go_at_call 17; refine (validate_any W H _ n c X (by omega) _ (LL.xs (ll_of (by assumption))) 0 HX.out.err).mono ?_; rintro r w4 ⟨rfl, hb⟩)
      | fail)
  go_wp2_with fail
  have HL4 : Hid (LL b1 W H (some ⟨b, off, none⟩) n cap Z g c X (.slice (some ⟨gl, 0, none⟩) L.length capl) L bo m T w w4) := hid (ll_of (by assumption))
  clear c0 c1 c2 a0 a1 a2 d0 d1 x1 x2 hb
  obtain ⟨_, c0, c1, c2, a0, a1, a2, d0, d1⟩ := ll_keep HBB.out HQZ.out (And.intro HL4.out trivial) (Below.refl _ _)
  obtain ⟨e, hE⟩ := VErr.ex W H m T
  have HE := hid hE
  by_cases he : e = 0
  · subst he
    have hmn : m = n := by have a := hE.ok; have b : Good W H m T := a; have := b.len; have := HG.out.len; omega
    have hgt : Good W H m T := hE.ok
    have HGT := hid hgt
    obtain ⟨bt, offt, rfl, hbt, hct⟩ := HL4.out.ts.one (by omega)
    obtain ⟨t0, ht0⟩ : ∃ t0, T q = t0 := ⟨_, rfl⟩
    have hqm : q < m := by omega
    have HMN := hid hmn
    have d2 := hct q hqm
    have htb := hgt.high q hqm
    rw [ht0] at d2 htb
    have HTQ := hid (And.intro hqm ht0)
    clear hE hgt hct ht0 hmn
    have x1 : IntKind.i64.wrap (t0 - (z0 + (-1))) = t0 - (z0 + (-1)) := IntWalk.i64_in _ (by omega)
    have x2 : IntKind.i64.wrap ((t0 - (z0 + (-1))) * (-1)) = (t0 - (z0 + (-1))) * (-1) := IntWalk.i64_in _ (by omega)
    have x2n : IntKind.i64.wrap (-(t0 - (z0 + (-1)))) = -(t0 - (z0 + (-1))) := IntWalk.i64_in _ (by omega)
    have x5 : (q : Int) < (m : Int) := by omega
    go_region_held3 (fun w' => (LL b1 W H (some ⟨b, off, none⟩) n cap Z g c X (.slice (some ⟨gl, 0, none⟩) L.length capl) L (some ⟨bt, offt, none⟩) m T w w' ∧ w'.cell? ⟨B, 0, none⟩ = some (.int .i64 W) ∧ w'.cell? ⟨B, 1, none⟩ = some (.int .i64 H) ∧ w'.cell? ⟨B, 2, none⟩ = some (.slice (some ⟨b, off, none⟩) n cap) ∧
        w'.cell? ⟨b1, 0, none⟩ = some (.int .i64 W) ∧ w'.cell? ⟨b1, 1, none⟩ = some (.int .i64 H) ∧ w'.cell? ⟨b1, 2, none⟩ = some (.slice (some ⟨g, 0, none⟩) n c) ∧ w'.cell? ⟨b, off + q, none⟩ = some (.int .i64 z0) ∧ w'.cell? ⟨g, q, none⟩ = some (.int .i64 (z0 + (-1)))) ∧ w'.cell? ⟨bt, offt + q, none⟩ = some (.int .i64 t0))
      (first
        | exact ll_keep2 HBB.out HQZ.out HTQ.out (And.intro (And.intro HL4.out trivial) trivial) ((Below.refl _ _).drew)
        | exact ll_keep2 HBB.out HQZ.out HTQ.out (by assumption) hb
        | assumption)
      (first
        | (go_at_call 17; refine (validate_any W H _ m cap2 T (by omega) _ (LL.ts (ll_of (ll_of2 (by assumption)))) 0 HGT.out.err).mono ?_; rintro r w5 ⟨rfl, hb⟩)
        | fail)
    go_wp2_with fail
    have HL5 : Hid (LL b1 W H (some ⟨b, off, none⟩) n cap Z g c X (.slice (some ⟨gl, 0, none⟩) L.length capl) L (some ⟨bt, offt, none⟩) m T w w5) := hid (ll_of (ll_of2 (by assumption)))
    clear c0 c1 c2 a0 a1 a2 d0 d1 d2 x1 x2 x2n hb
    have HST : ∀ fb : Bool, (fb = true → 0 ≤ (t0 - (z0 + (-1))) * (-1)) → Hid (fb = true → Good W H m T ∧ 0 ≤ (T q - z) * (-1) ∧ ∀ i, i < 0 → 0 ≤ (T i - Z i) * (-1)) := fun fb h => hid (fun h' => ⟨HGT.out, by have := h h'; have := HQ.out; have := HTQ.out; have := HQZ.out; omega, fun i hi => absurd hi (Nat.not_lt_zero _)⟩)

    have HST2 := hid HST
    clear HST
    go_loopw [127, 17] (fun iv fv wr => ∃ (p : Nat) (fb : Bool), p ≤ n ∧ iv = .int .i64 p ∧ fv = .bool fb ∧ Hid (LL b1 W H (some ⟨b, off, none⟩) n cap Z g c X (.slice (some ⟨gl, 0, none⟩) L.length capl) L (some ⟨bt, offt, none⟩) m T w wr) ∧ Hid (fb = true → Good W H m T ∧ 0 ≤ (T q - z) * (-1) ∧ ∀ i, i < p → 0 ≤ (T i - Z i) * (-1))) (fun iv _ _ => n - (intOf iv).toNat)
    case atStart => exact ⟨0, _, Nat.zero_le _, rfl, rfl, HL5, HST2.out _ (by simp <;> omega)⟩
    case round =>
      obtain ⟨p, fb, hp, rfl, rfl, hS, hF⟩ := hrel
      clear HL5 HL4 HLL
      by_cases hlt : p < n
      · have c2 := hS.out.lb.c2
        rw [← HBB.out] at c2
        have cz := at_place hS.out.lb.ints hlt
        have hzb := HG.out.high p hlt
        obtain ⟨zp, hzp⟩ : ∃ zp, Z p = zp := ⟨_, rfl⟩
        rw [hzp] at cz hzb
        have y3 : (0 : Int) ≤ (p : Int) := by omega
        have y4 : (p : Int) < (n : Int) := by omega
        have HZP := hid hzp
        clear hzp
        cases fb
        · have HF : Hid (false = true → Good W H m T ∧ 0 ≤ (T q - z) * (-1) ∧ ∀ i, i < p + 1 → 0 ≤ (T i - Z i) * (-1)) := hid (fun h => by cases h)
          clear hF
          go_wp2_with fail
          go_quiet (fail)
          have hS2 := fun q => hid (hS.out.stays (Joins.below_draws _ _ q))
          go_wp2_with fail
          go_roundw
          case rel => exact ⟨p + 1, false, by omega, by go_num, rfl, hS2 _, HF⟩
          case measure => simp [intOf]; omega
        · obtain ⟨hgt, ht0, hall⟩ := hF.out rfl
          have hpm : p < m := by have := HMN.out; omega
          have ct := at_place hS.out.ts hpm
          have htb := hgt.high p hpm
          obtain ⟨tp, htp⟩ : ∃ tp, T p = tp := ⟨_, rfl⟩
          rw [htp] at ct htb
          have y5 : (p : Int) < (m : Int) := by omega
          have y1 : IntKind.i64.wrap (tp - zp) = tp - zp := IntWalk.i64_in _ (by omega)
          have y2 : IntKind.i64.wrap ((tp - zp) * (-1)) = (tp - zp) * (-1) := IntWalk.i64_in _ (by omega)
          have y2n : IntKind.i64.wrap (-(tp - zp)) = -(tp - zp) := IntWalk.i64_in _ (by omega)
          have HF : ∀ fb : Bool, (fb = true → 0 ≤ (tp - zp) * (-1)) → Hid (fb = true → Good W H m T ∧ 0 ≤ (T q - z) * (-1) ∧ ∀ i, i < p + 1 → 0 ≤ (T i - Z i) * (-1)) := fun fb h1 => hid (fun h2 => ⟨hgt, ht0, fun i hi => by
            by_cases e1 : i = p
            · subst e1; rw [htp, HZP.out]; exact h1 h2
            · exact hall i (by omega)⟩)
          have HF2 := hid HF
          clear hF HF hgt ht0 hall htp
          go_wp2_with fail
          go_quiet (fail)
          have hS2 := fun q => hid (hS.out.stays (Joins.below_draws _ _ q))
          go_wp2_with fail
          go_roundw
          case rel => exact ⟨p + 1, _, by omega, by go_num, rfl, hS2 _, HF2.out _ (by simp <;> omega)⟩
          case measure => simp [intOf]; omega
      · obtain rfl : n = p := by omega
        have HF3 : Hid (fb = true → Good W H m T ∧ m = n ∧ ∀ i, i < n → 0 ≤ (T i - X i) * (-1)) := hid (fun h => by
          obtain ⟨hgt, h0, hall⟩ := hF.out h
          have hmn := HMN.out
          have h1 := HQ.out
          rw [h1.2.1, h1.1] at h0
          refine ⟨hgt, hmn, HOK.out.least (T := T) ?_ h0 hall⟩
          rw [← hmn]; exact hgt)
        clear hF
        have c2 := hS.out.lb.c2
        rw [← HBB.out] at c2
        go_wp2_with fail
        clear c2
        go_loopw [150, 19] (fun iv kv wr => ∃ p : Nat, p ≤ n ∧ iv = .int .i64 p ∧ kv = .int .i64 ((chs W x y z (-1) Z p).length : Nat) ∧ Hid (LL b1 W H (some ⟨b, off, none⟩) n cap Z g c X (.slice (some ⟨gl, 0, none⟩) L.length capl) L (some ⟨bt, offt, none⟩) m T w wr)) (fun iv _ _ => n - (intOf iv).toNat)
        case atStart => exact ⟨0, Nat.zero_le _, rfl, rfl, hS⟩
        case round =>
          clear hS
          obtain ⟨p, hp, rfl, rfl, hS⟩ := hrel
          obtain ⟨k, hk⟩ : ∃ k, (chs W x y z (-1) Z p).length = k := ⟨_, rfl⟩
          rw [hk]
          have HK := hid hk
          clear hk
          by_cases hlt : p < n
          · have c0 := hS.out.lb.c0
            have c2 := hS.out.lb.c2
            rw [← HBB.out] at c0 c2
            have a2 := hS.out.a2
            have cz := at_place hS.out.lb.ints hlt
            have cx := at_place hS.out.xs hlt
            rw [Nat.zero_add] at cx
            have hzb := HG.out.high p hlt
            have hxb := HX.out.high p hlt
            obtain ⟨zp, hzp⟩ : ∃ zp, Z p = zp := ⟨_, rfl⟩
            have y3 : (0 : Int) ≤ (p : Int) := by omega
            have y4 : (p : Int) < (n : Int) := by omega
            rcases HOK.out.one hlt with ⟨hc, hx⟩ | ⟨hc, hx⟩
            · have hkl : k < L.length := by rw [← HK.out, HOK.out.hL]; exact chs_lt hc hlt
              have hgd : L.getD k 0 = p := by rw [← HK.out, HOK.out.hL, List.getD_eq_getElem?_getD, chs_nth hc _ hlt]; rfl
              have HK1 : Hid ((chs W x y z (-1) Z (p + 1)).length = k + 1) := hid (by rw [chs_yes hc, List.length_append, HK.out]; rfl)
              have e3 := encC_get (W := W) (Y := X) hkl
              have r0 := (hS.out.row.cellAt (k * 3) (by omega)).trans e3.1
              have r1 := (hS.out.row.cellAt (k * 3 + 1) (by omega)).trans e3.2.1
              have r2 := (hS.out.row.cellAt (k * 3 + 2) (by omega)).trans e3.2.2
              rw [hgd] at r0 r1 r2
              rw [hx, hzp] at cx r2 hxb
              rw [hzp] at cz hzb
              obtain ⟨u, hu⟩ : ∃ u, p % (W + 1) = u := ⟨_, rfl⟩
              obtain ⟨vv, hv⟩ : ∃ vv, p / (W + 1) = vv := ⟨_, rfl⟩
              have HXP := hid (hx.trans (by rw [hzp]))
              have y6 : Int.tmod (p : Int) ((W : Int) + 1) = (u : Int) := by rw [← hu]; rfl
              have y7 : Int.tdiv (p : Int) ((W : Int) + 1) = (vv : Int) := by rw [← hv]; rfl
              rw [hu] at r0
              rw [hv] at r1
              have hub : u ≤ W := by rw [← hu]; have := Nat.mod_lt p (show 0 < W + 1 by omega); omega
              have hvb : vv ≤ p := by rw [← hv]; exact Nat.div_le_self _ _
              have y8 : IntKind.i64.wrap ((W : Int) + 1) = (W : Int) + 1 := IntWalk.i64_in _ (by omega)
              have y9 : IntKind.i64.wrap (zp + (-1)) = zp + (-1) := IntWalk.i64_in _ (by omega)
              have y10 : IntKind.i64.wrap (u : Int) = (u : Int) := IntWalk.i64_in _ (by omega)
              have y11 : IntKind.i64.wrap (vv : Int) = (vv : Int) := IntWalk.i64_in _ (by omega)
              have y12 : (zp + (-1) != zp) = true := by simp <;> omega
              have y13 : decide (L.length ≤ k) = false := by simp; omega
              have y14 : decide ((L.length : Int) ≤ (k : Int)) = false := by simp; omega
              have y15 : (0 : Int) ≤ (k : Int) := by omega
              have y16 : (k : Int) < (L.length : Int) := by omega
              clear e3 hc hx hgd hzp hu hv
              go_wp2_with fail
              go_quiet (fail)
              go_wp2_with fail
              go_quiet (fail)
              go_wp2_with fail
              clear r0 r1 r2 y6 y7 y8 y9 y10 y11 y12 y13 y14 y15 y16 hub hvb c0 c2 cz
              cases fb
              · go_quiet (fail)
                go_wp2_with fail
                go_roundw
                case rel => exact ⟨p + 1, by omega, by go_num, by rw [HK1.out]; go_num, hid (hS.out.stays (by repeat (first | exact Joins.below_draws _ _ _ | refine (Joins.below_draws _ _ _).trans ?_)))⟩
                case measure => simp [intOf]; omega
              · obtain ⟨hgt, hmn, hall⟩ := HF3.out rfl
                have hpm : p < m := by omega
                have ct := at_place hS.out.ts hpm
                have htb := hgt.high p hpm
                have hle := hall p hlt
                obtain ⟨tp, htp⟩ : ∃ tp, T p = tp := ⟨_, rfl⟩
                rw [htp] at ct htb hle
                rw [HXP.out] at hle
                have z1 : (p : Int) < (m : Int) := by omega
                have z2 : IntKind.i64.wrap (tp - (zp + (-1))) = tp - (zp + (-1)) := IntWalk.i64_in _ (by omega)
                have z3 : IntKind.i64.wrap ((tp - (zp + (-1))) * (-1)) = (tp - (zp + (-1))) * (-1) := IntWalk.i64_in _ (by omega)
                have z3n : IntKind.i64.wrap (-(tp - (zp + (-1)))) = -(tp - (zp + (-1))) := IntWalk.i64_in _ (by omega)
                clear hgt hmn hall htp
                go_quiet (fail)
                go_wp2_with fail
                all_goals first
                  | (exfalso; omega)
                  | (go_roundw
                     case rel => exact ⟨p + 1, by omega, by go_num, by rw [HK1.out]; go_num, hid (hS.out.stays (by repeat (first | exact Joins.below_draws _ _ _ | refine (Joins.below_draws _ _ _).trans ?_)))⟩
                     case measure => simp [intOf]; omega)
            · have HK1 : Hid ((chs W x y z (-1) Z (p + 1)).length = k) := hid (by rw [chs_no hc, HK.out])
              have HXP := hid (hx.trans hzp)
              rw [hx, hzp] at cx hxb
              rw [hzp] at cz hzb
              clear hc hx hzp
              go_wp2_with fail
              go_quiet (fail)
              go_wp2_with fail
              clear c0 c2 cz
              cases fb
              · go_quiet (fail)
                go_wp2_with fail
                go_roundw
                case rel => exact ⟨p + 1, by omega, by go_num, by rw [HK1.out], hid (hS.out.stays (by repeat (first | exact Joins.below_draws _ _ _ | refine (Joins.below_draws _ _ _).trans ?_)))⟩
                case measure => simp [intOf]; omega
              · obtain ⟨hgt, hmn, hall⟩ := HF3.out rfl
                have hpm : p < m := by omega
                have ct := at_place hS.out.ts hpm
                have htb := hgt.high p hpm
                have hle := hall p hlt
                obtain ⟨tp, htp⟩ : ∃ tp, T p = tp := ⟨_, rfl⟩
                rw [htp] at ct htb hle
                rw [HXP.out] at hle
                have z1 : (p : Int) < (m : Int) := by omega
                have z2 : IntKind.i64.wrap (tp - (zp)) = tp - (zp) := IntWalk.i64_in _ (by omega)
                have z3 : IntKind.i64.wrap ((tp - (zp)) * (-1)) = (tp - (zp)) * (-1) := IntWalk.i64_in _ (by omega)
                have z3n : IntKind.i64.wrap (-(tp - (zp))) = -(tp - (zp)) := IntWalk.i64_in _ (by omega)
                clear hgt hmn hall htp
                go_quiet (fail)
                go_wp2_with fail
                all_goals first
                  | (exfalso; omega)
                  | (go_roundw
                     case rel => exact ⟨p + 1, by omega, by go_num, by rw [HK1.out], hid (hS.out.stays (by repeat (first | exact Joins.below_draws _ _ _ | refine (Joins.below_draws _ _ _).trans ?_)))⟩
                     case measure => simp [intOf]; omega)
          · obtain rfl : n = p := by omega
            have hkl : k = L.length := by rw [← HK.out, HOK.out.hL]
            subst hkl
            go_wp2_with fail
            refine (known_any _).mono ?_
            rintro r w7 ⟨rfl, hb7⟩
            go_wp2
            go_ret
            exact ⟨rfl, step hS.out.lb.below hb7⟩


  · have hne : (e == 0) = false := by simpa using he
    have HNG : Hid (¬ Good W H m T) := hid (fun h => he (HE.out.one h.err))
    clear hE he
    refine wp_region_held_drew (S := (fun w' => LL b1 W H (some ⟨b, off, none⟩) n cap Z g c X (.slice (some ⟨gl, 0, none⟩) L.length capl) L bo m T w w' ∧ w'.cell? ⟨B, 0, none⟩ = some (.int .i64 W) ∧ w'.cell? ⟨B, 1, none⟩ = some (.int .i64 H) ∧ w'.cell? ⟨B, 2, none⟩ = some (.slice (some ⟨b, off, none⟩) n cap) ∧ w'.cell? ⟨b1, 0, none⟩ = some (.int .i64 W) ∧ w'.cell? ⟨b1, 1, none⟩ = some (.int .i64 H) ∧ w'.cell? ⟨b1, 2, none⟩ = some (.slice (some ⟨g, 0, none⟩) n c) ∧ w'.cell? ⟨b, off + q, none⟩ = some (.int .i64 z0) ∧ w'.cell? ⟨g, q, none⟩ = some (.int .i64 (z0 + (-1))))) (by kernel_rfl) (ll_keep HBB.out HQZ.out (And.intro HL4.out trivial) ((Below.refl _ _).drew)) (fun hHeld => ?_)
    refine wpAnyH_take (i := 0) (oi := { dst := some 101, op := Op.fieldAddr 24 (Operand.tmp 5) 0, type := 0, pos := "law.go:173", after := #[], guard := none }) (v := ?_) rfl (by kernel_rfl) (by kernel_rfl) (by kernel_rfl) (fun _ _ _ h => h) (Or.inl ⟨by rfl, ?_⟩) (by assumption) ?_
    rotate_left
    · intro w hSw; (try dsimp only at hSw); go_simp; try (with_reducible rfl)
    try simp only [Act.put, List.setIfInBounds_toArray, List.set_cons_zero, List.set_cons_succ]
    refine wpAnyH_take (i := 1) (oi := { dst := some 102, op := Op.load 3 (Operand.tmp 101), type := 3, pos := "law.go:173", after := #[{ on := 0, ground := Ground.data }], guard := none }) (v := ?_) rfl (by kernel_rfl) (by kernel_rfl) (by kernel_rfl) (fun _ _ _ h => h) (Or.inl ⟨by rfl, ?_⟩) (by assumption) ?_
    rotate_left
    · intro w hSw; (try dsimp only at hSw); go_simp; try (with_reducible rfl)
    try simp only [Act.put, List.setIfInBounds_toArray, List.set_cons_zero, List.set_cons_succ]
    refine wpAnyH_take (i := 2) (oi := { dst := some 103, op := Op.fieldAddr 24 (Operand.tmp 5) 1, type := 0, pos := "law.go:173", after := #[], guard := none }) (v := ?_) rfl (by kernel_rfl) (by kernel_rfl) (by kernel_rfl) (fun _ _ _ h => h) (Or.inl ⟨by rfl, ?_⟩) (by assumption) ?_
    rotate_left
    · intro w hSw; (try dsimp only at hSw); go_simp; try (with_reducible rfl)
    try simp only [Act.put, List.setIfInBounds_toArray, List.set_cons_zero, List.set_cons_succ]
    refine wpAnyH_take (i := 3) (oi := { dst := some 104, op := Op.load 3 (Operand.tmp 103), type := 3, pos := "law.go:173", after := #[{ on := 2, ground := Ground.data }], guard := none }) (v := ?_) rfl (by kernel_rfl) (by kernel_rfl) (by kernel_rfl) (fun _ _ _ h => h) (Or.inl ⟨by rfl, ?_⟩) (by assumption) ?_
    rotate_left
    · intro w hSw; (try dsimp only at hSw); go_simp; try (with_reducible rfl)
    try simp only [Act.put, List.setIfInBounds_toArray, List.set_cons_zero, List.set_cons_succ]
    refine wpAnyH_take (i := 4) (oi := { dst := some 105, op := Op.move (Operand.tmp 4), type := 22, pos := "law.go:173", after := #[], guard := none }) (v := ?_) rfl (by kernel_rfl) (by kernel_rfl) (by kernel_rfl) (fun _ _ _ h => h) (Or.inl ⟨by rfl, ?_⟩) (by assumption) ?_
    rotate_left
    · intro w hSw; (try dsimp only at hSw); go_simp; try (with_reducible rfl)
    try simp only [Act.put, List.setIfInBounds_toArray, List.set_cons_zero, List.set_cons_succ]
    refine wpAnyH_take (i := 5) (oi := { dst := some 106, op := Op.build 24 #[(0, Operand.tmp 102), (1, Operand.tmp 104), (2, Operand.tmp 105)], type := 24, pos := "law.go:173", after := #[{ on := 1, ground := Ground.data }, { on := 3, ground := Ground.data }, { on := 4, ground := Ground.data }], guard := none }) (v := ?_) rfl (by kernel_rfl) (by kernel_rfl) (by kernel_rfl) (fun _ _ _ h => h) (Or.inl ⟨by rfl, ?_⟩) (by assumption) ?_
    rotate_left
    · intro w hSw; (try dsimp only at hSw); go_simp; try (with_reducible rfl)
    try simp only [Act.put, List.setIfInBounds_toArray, List.set_cons_zero, List.set_cons_succ]
    refine wpAnyH_ready (rs := [6]) (by kernel_rfl) (by simp) ?_
    refine AllReadyH.cons (o := { dst := some 107, op := Op.call { callee := Callee.value (Operand.func 17), args := #[Operand.tmp 106], argTypes := #[24] }, type := 27, pos := "law.go:173", after := #[{ on := 5, ground := Ground.data }], guard := none }) rfl (fun K hK => ?_) AllReadyH.nil
    go_simp
    refine (validate_any W H _ m cap2 T (by omega) _ (LL.ts (ll_of (by assumption))) _ HE.out).mono ?_
    rintro r w5 ⟨rfl, hb⟩
    try go_wp2_with fail
    refine hK.out _ _ (ll_keep HBB.out HQZ.out (by assumption) hb) (fun hHeld2 => ?_)
    clear hK K
    try simp only [Act.put, List.setIfInBounds_toArray, List.set_cons_zero, List.set_cons_succ]
    refine wpAnyH_take (i := 7) (oi := { dst := some 108, op := Op.binOp BinOp.eql 27 (Operand.tmp 107) (Operand.const (Value.int IntKind.i64 0)) 27, type := 4, pos := "law.go:173", after := #[{ on := 6, ground := Ground.data }], guard := none }) (v := ?_) rfl (by kernel_rfl) (by kernel_rfl) (by kernel_rfl) (fun _ _ _ h => h) (Or.inl ⟨by rfl, ?_⟩) (by assumption) ?_
    rotate_left
    · intro w hSw; (try dsimp only at hSw); go_simp; try (with_reducible rfl)
    try simp only [Act.put, List.setIfInBounds_toArray, List.set_cons_zero, List.set_cons_succ]
    refine wpAnyH_take (i := 8) (oi := { dst := some 109, op := Op.move (Operand.tmp 108), type := 4, pos := "law.go:173", after := #[{ on := 7, ground := Ground.data }, { on := 6, ground := Ground.chain }], guard := none }) (v := ?_) rfl (by kernel_rfl) (by kernel_rfl) (by kernel_rfl) (fun _ _ _ h => h) (Or.inl ⟨by rfl, ?_⟩) (by assumption) ?_
    rotate_left
    · intro w hSw; (try dsimp only at hSw); go_simp; try (with_reducible rfl)
    try simp only [Act.put, List.setIfInBounds_toArray, List.set_cons_zero, List.set_cons_succ]
    refine wpAnyH_take (i := 9) (oi := { dst := some 110, op := Op.move (Operand.tmp 4), type := 22, pos := "law.go:173", after := #[{ on := 8, ground := Ground.guard }], guard := some (8, true) }) (v := undef) rfl (by kernel_rfl) (by kernel_rfl) (by kernel_rfl) (fun _ _ _ h => h) (Or.inr ⟨by rfl, rfl⟩) (by assumption) ?_
    try simp only [Act.put, List.setIfInBounds_toArray, List.set_cons_zero, List.set_cons_succ]
    refine wpAnyH_take (i := 10) (oi := { dst := some 111, op := Op.move (Operand.tmp 16), type := 3, pos := "law.go:173", after := #[{ on := 8, ground := Ground.guard }], guard := some (8, true) }) (v := undef) rfl (by kernel_rfl) (by kernel_rfl) (by kernel_rfl) (fun _ _ _ h => h) (Or.inr ⟨by rfl, rfl⟩) (by assumption) ?_
    try simp only [Act.put, List.setIfInBounds_toArray, List.set_cons_zero, List.set_cons_succ]
    refine wpAnyH_take (i := 11) (oi := { dst := some 112, op := Op.indexAddr 22 (Operand.tmp 110) (Operand.tmp 111), type := 0, pos := "law.go:173", after := #[{ on := 9, ground := Ground.data }, { on := 10, ground := Ground.data }, { on := 8, ground := Ground.guard }], guard := some (8, true) }) (v := undef) rfl (by kernel_rfl) (by kernel_rfl) (by kernel_rfl) (fun _ _ _ h => h) (Or.inr ⟨by rfl, rfl⟩) (by assumption) ?_
    try simp only [Act.put, List.setIfInBounds_toArray, List.set_cons_zero, List.set_cons_succ]
    refine wpAnyH_take (i := 12) (oi := { dst := some 113, op := Op.load 3 (Operand.tmp 112), type := 3, pos := "law.go:173", after := #[{ on := 11, ground := Ground.data }, { on := 8, ground := Ground.guard }], guard := some (8, true) }) (v := undef) rfl (by kernel_rfl) (by kernel_rfl) (by kernel_rfl) (fun _ _ _ h => h) (Or.inr ⟨by rfl, rfl⟩) (by assumption) ?_
    try simp only [Act.put, List.setIfInBounds_toArray, List.set_cons_zero, List.set_cons_succ]
    refine wpAnyH_take (i := 13) (oi := { dst := some 114, op := Op.fieldAddr 24 (Operand.tmp 11) 2, type := 0, pos := "law.go:173", after := #[{ on := 8, ground := Ground.guard }], guard := some (8, true) }) (v := undef) rfl (by kernel_rfl) (by kernel_rfl) (by kernel_rfl) (fun _ _ _ h => h) (Or.inr ⟨by rfl, rfl⟩) (by assumption) ?_
    try simp only [Act.put, List.setIfInBounds_toArray, List.set_cons_zero, List.set_cons_succ]
    refine wpAnyH_take (i := 14) (oi := { dst := some 115, op := Op.load 22 (Operand.tmp 114), type := 22, pos := "law.go:173", after := #[{ on := 13, ground := Ground.data }, { on := 8, ground := Ground.guard }], guard := some (8, true) }) (v := undef) rfl (by kernel_rfl) (by kernel_rfl) (by kernel_rfl) (fun _ _ _ h => h) (Or.inr ⟨by rfl, rfl⟩) (by assumption) ?_
    try simp only [Act.put, List.setIfInBounds_toArray, List.set_cons_zero, List.set_cons_succ]
    refine wpAnyH_take (i := 15) (oi := { dst := some 116, op := Op.move (Operand.tmp 16), type := 3, pos := "law.go:173", after := #[{ on := 8, ground := Ground.guard }], guard := some (8, true) }) (v := undef) rfl (by kernel_rfl) (by kernel_rfl) (by kernel_rfl) (fun _ _ _ h => h) (Or.inr ⟨by rfl, rfl⟩) (by assumption) ?_
    try simp only [Act.put, List.setIfInBounds_toArray, List.set_cons_zero, List.set_cons_succ]
    refine wpAnyH_take (i := 16) (oi := { dst := some 117, op := Op.indexAddr 22 (Operand.tmp 115) (Operand.tmp 116), type := 0, pos := "law.go:173", after := #[{ on := 14, ground := Ground.data }, { on := 15, ground := Ground.data }, { on := 8, ground := Ground.guard }], guard := some (8, true) }) (v := undef) rfl (by kernel_rfl) (by kernel_rfl) (by kernel_rfl) (fun _ _ _ h => h) (Or.inr ⟨by rfl, rfl⟩) (by assumption) ?_
    try simp only [Act.put, List.setIfInBounds_toArray, List.set_cons_zero, List.set_cons_succ]
    refine wpAnyH_take (i := 17) (oi := { dst := some 118, op := Op.load 3 (Operand.tmp 117), type := 3, pos := "law.go:173", after := #[{ on := 16, ground := Ground.data }, { on := 8, ground := Ground.guard }], guard := some (8, true) }) (v := undef) rfl (by kernel_rfl) (by kernel_rfl) (by kernel_rfl) (fun _ _ _ h => h) (Or.inr ⟨by rfl, rfl⟩) (by assumption) ?_
    try simp only [Act.put, List.setIfInBounds_toArray, List.set_cons_zero, List.set_cons_succ]
    refine wpAnyH_take (i := 18) (oi := { dst := some 119, op := Op.binOp BinOp.sub 3 (Operand.tmp 113) (Operand.tmp 118) 3, type := 3, pos := "law.go:173", after := #[{ on := 12, ground := Ground.data }, { on := 17, ground := Ground.data }, { on := 8, ground := Ground.guard }], guard := some (8, true) }) (v := undef) rfl (by kernel_rfl) (by kernel_rfl) (by kernel_rfl) (fun _ _ _ h => h) (Or.inr ⟨by rfl, rfl⟩) (by assumption) ?_
    try simp only [Act.put, List.setIfInBounds_toArray, List.set_cons_zero, List.set_cons_succ]
    refine wpAnyH_take (i := 19) (oi := { dst := some 120, op := Op.move (Operand.tmp 15), type := 3, pos := "law.go:173", after := #[{ on := 8, ground := Ground.guard }], guard := some (8, true) }) (v := undef) rfl (by kernel_rfl) (by kernel_rfl) (by kernel_rfl) (fun _ _ _ h => h) (Or.inr ⟨by rfl, rfl⟩) (by assumption) ?_
    try simp only [Act.put, List.setIfInBounds_toArray, List.set_cons_zero, List.set_cons_succ]
    refine wpAnyH_take (i := 20) (oi := { dst := some 121, op := Op.binOp BinOp.mul 3 (Operand.tmp 119) (Operand.tmp 120) 3, type := 3, pos := "law.go:173", after := #[{ on := 18, ground := Ground.data }, { on := 19, ground := Ground.data }, { on := 8, ground := Ground.guard }], guard := some (8, true) }) (v := undef) rfl (by kernel_rfl) (by kernel_rfl) (by kernel_rfl) (fun _ _ _ h => h) (Or.inr ⟨by rfl, rfl⟩) (by assumption) ?_
    try simp only [Act.put, List.setIfInBounds_toArray, List.set_cons_zero, List.set_cons_succ]
    refine wpAnyH_take (i := 21) (oi := { dst := some 122, op := Op.binOp BinOp.geq 3 (Operand.tmp 121) (Operand.const (Value.int IntKind.i64 0)) 3, type := 4, pos := "law.go:173", after := #[{ on := 20, ground := Ground.data }, { on := 8, ground := Ground.guard }], guard := some (8, true) }) (v := undef) rfl (by kernel_rfl) (by kernel_rfl) (by kernel_rfl) (fun _ _ _ h => h) (Or.inr ⟨by rfl, rfl⟩) (by assumption) ?_
    try simp only [Act.put, List.setIfInBounds_toArray, List.set_cons_zero, List.set_cons_succ]
    refine wpAnyH_take (i := 22) (oi := { dst := some 123, op := Op.pick (Operand.tmp 109) (Operand.tmp 122) (Operand.const (Value.bool false)), type := 4, pos := "law.go:173", after := #[{ on := 8, ground := Ground.data }, { on := 21, ground := Ground.data }], guard := none }) (v := ?_) rfl (by kernel_rfl) (by kernel_rfl) (by kernel_rfl) (fun _ _ _ h => h) (Or.inl ⟨by rfl, ?_⟩) (by assumption) ?_
    rotate_left
    · intro w hSw; (try dsimp only at hSw); go_simp; try (with_reducible rfl)
    try simp only [Act.put, List.setIfInBounds_toArray, List.set_cons_zero, List.set_cons_succ]
    refine wpAnyH_take (i := 23) (oi := { dst := some 17, op := Op.assign (Operand.tmp 123), type := 4, pos := "law.go:173", after := #[{ on := 22, ground := Ground.data }, { on := 8, ground := Ground.chain }, { on := 0, ground := Ground.phase }, { on := 1, ground := Ground.phase }, { on := 2, ground := Ground.phase }, { on := 3, ground := Ground.phase }, { on := 4, ground := Ground.phase }, { on := 5, ground := Ground.phase }, { on := 6, ground := Ground.phase }, { on := 7, ground := Ground.phase }, { on := 8, ground := Ground.phase }, { on := 9, ground := Ground.phase }, { on := 10, ground := Ground.phase }, { on := 11, ground := Ground.phase }, { on := 12, ground := Ground.phase }, { on := 13, ground := Ground.phase }, { on := 14, ground := Ground.phase }, { on := 15, ground := Ground.phase }, { on := 16, ground := Ground.phase }, { on := 17, ground := Ground.phase }, { on := 18, ground := Ground.phase }, { on := 19, ground := Ground.phase }, { on := 20, ground := Ground.phase }, { on := 21, ground := Ground.phase }, { on := 22, ground := Ground.phase }], guard := none }) (v := ?_) rfl (by kernel_rfl) (by kernel_rfl) (by kernel_rfl) (fun _ _ _ h => h) (Or.inl ⟨by rfl, ?_⟩) (by assumption) ?_
    rotate_left
    · intro w hSw; (try dsimp only at hSw); go_simp; try (with_reducible rfl)
    try simp only [Act.put, List.setIfInBounds_toArray, List.set_cons_zero, List.set_cons_succ]
    refine wpAnyH_done (by kernel_rfl) ?_ _
    go_wp2_with fail
    have HL5 : Hid (LL b1 W H (some ⟨b, off, none⟩) n cap Z g c X (.slice (some ⟨gl, 0, none⟩) L.length capl) L bo m T w w5) := hid (ll_of (by assumption))
    clear c0 c1 c2 a0 a1 a2 d0 d1 hb hHeld hHeld2
    have HST : ∀ fb : Bool, (fb = true → False) → Hid (fb = true → Good W H m T ∧ 0 ≤ (T q - z) * (-1) ∧ ∀ i, i < 0 → 0 ≤ (T i - Z i) * (-1)) := fun fb h => hid (fun h' => absurd (h h') (by simp))

    have HST2 := hid HST
    clear HST
    go_loopw [127, 17] (fun iv fv wr => ∃ (p : Nat) (fb : Bool), p ≤ n ∧ iv = .int .i64 p ∧ fv = .bool fb ∧ Hid (LL b1 W H (some ⟨b, off, none⟩) n cap Z g c X (.slice (some ⟨gl, 0, none⟩) L.length capl) L bo m T w wr) ∧ Hid (fb = true → Good W H m T ∧ 0 ≤ (T q - z) * (-1) ∧ ∀ i, i < p → 0 ≤ (T i - Z i) * (-1))) (fun iv _ _ => n - (intOf iv).toNat)
    case atStart => exact ⟨0, _, Nat.zero_le _, rfl, rfl, HL5, HST2.out _ (by simp <;> omega)⟩
    case round =>
      obtain ⟨p, fb, hp, rfl, rfl, hS, hF⟩ := hrel
      clear HL5 HL4 HLL
      by_cases hlt : p < n
      · have c2 := hS.out.lb.c2
        rw [← HBB.out] at c2
        have cz := at_place hS.out.lb.ints hlt
        have hzb := HG.out.high p hlt
        obtain ⟨zp, hzp⟩ : ∃ zp, Z p = zp := ⟨_, rfl⟩
        rw [hzp] at cz hzb
        have y3 : (0 : Int) ≤ (p : Int) := by omega
        have y4 : (p : Int) < (n : Int) := by omega
        have HZP := hid hzp
        clear hzp
        cases fb
        · have HF : Hid (false = true → Good W H m T ∧ 0 ≤ (T q - z) * (-1) ∧ ∀ i, i < p + 1 → 0 ≤ (T i - Z i) * (-1)) := hid (fun h => by cases h)
          clear hF
          go_wp2_with fail
          go_quiet (fail)
          have hS2 := fun q => hid (hS.out.stays (Joins.below_draws _ _ q))
          go_wp2_with fail
          go_roundw
          case rel => exact ⟨p + 1, false, by omega, by go_num, rfl, hS2 _, HF⟩
          case measure => simp [intOf]; omega
        · exact absurd (hF.out rfl).1 HNG.out
      · obtain rfl : n = p := by omega
        have HF3 : Hid (fb = true → Good W H m T ∧ m = n ∧ ∀ i, i < n → 0 ≤ (T i - X i) * (-1)) := hid (fun h => by
          exact absurd (hF.out h).1 HNG.out)
        clear hF
        have c2 := hS.out.lb.c2
        rw [← HBB.out] at c2
        go_wp2_with fail
        clear c2
        go_loopw [150, 19] (fun iv kv wr => ∃ p : Nat, p ≤ n ∧ iv = .int .i64 p ∧ kv = .int .i64 ((chs W x y z (-1) Z p).length : Nat) ∧ Hid (LL b1 W H (some ⟨b, off, none⟩) n cap Z g c X (.slice (some ⟨gl, 0, none⟩) L.length capl) L bo m T w wr)) (fun iv _ _ => n - (intOf iv).toNat)
        case atStart => exact ⟨0, Nat.zero_le _, rfl, rfl, hS⟩
        case round =>
          clear hS
          obtain ⟨p, hp, rfl, rfl, hS⟩ := hrel
          obtain ⟨k, hk⟩ : ∃ k, (chs W x y z (-1) Z p).length = k := ⟨_, rfl⟩
          rw [hk]
          have HK := hid hk
          clear hk
          by_cases hlt : p < n
          · have c0 := hS.out.lb.c0
            have c2 := hS.out.lb.c2
            rw [← HBB.out] at c0 c2
            have a2 := hS.out.a2
            have cz := at_place hS.out.lb.ints hlt
            have cx := at_place hS.out.xs hlt
            rw [Nat.zero_add] at cx
            have hzb := HG.out.high p hlt
            have hxb := HX.out.high p hlt
            obtain ⟨zp, hzp⟩ : ∃ zp, Z p = zp := ⟨_, rfl⟩
            have y3 : (0 : Int) ≤ (p : Int) := by omega
            have y4 : (p : Int) < (n : Int) := by omega
            rcases HOK.out.one hlt with ⟨hc, hx⟩ | ⟨hc, hx⟩
            · have hkl : k < L.length := by rw [← HK.out, HOK.out.hL]; exact chs_lt hc hlt
              have hgd : L.getD k 0 = p := by rw [← HK.out, HOK.out.hL, List.getD_eq_getElem?_getD, chs_nth hc _ hlt]; rfl
              have HK1 : Hid ((chs W x y z (-1) Z (p + 1)).length = k + 1) := hid (by rw [chs_yes hc, List.length_append, HK.out]; rfl)
              have e3 := encC_get (W := W) (Y := X) hkl
              have r0 := (hS.out.row.cellAt (k * 3) (by omega)).trans e3.1
              have r1 := (hS.out.row.cellAt (k * 3 + 1) (by omega)).trans e3.2.1
              have r2 := (hS.out.row.cellAt (k * 3 + 2) (by omega)).trans e3.2.2
              rw [hgd] at r0 r1 r2
              rw [hx, hzp] at cx r2 hxb
              rw [hzp] at cz hzb
              obtain ⟨u, hu⟩ : ∃ u, p % (W + 1) = u := ⟨_, rfl⟩
              obtain ⟨vv, hv⟩ : ∃ vv, p / (W + 1) = vv := ⟨_, rfl⟩
              have HXP := hid (hx.trans (by rw [hzp]))
              have y6 : Int.tmod (p : Int) ((W : Int) + 1) = (u : Int) := by rw [← hu]; rfl
              have y7 : Int.tdiv (p : Int) ((W : Int) + 1) = (vv : Int) := by rw [← hv]; rfl
              rw [hu] at r0
              rw [hv] at r1
              have hub : u ≤ W := by rw [← hu]; have := Nat.mod_lt p (show 0 < W + 1 by omega); omega
              have hvb : vv ≤ p := by rw [← hv]; exact Nat.div_le_self _ _
              have y8 : IntKind.i64.wrap ((W : Int) + 1) = (W : Int) + 1 := IntWalk.i64_in _ (by omega)
              have y9 : IntKind.i64.wrap (zp + (-1)) = zp + (-1) := IntWalk.i64_in _ (by omega)
              have y10 : IntKind.i64.wrap (u : Int) = (u : Int) := IntWalk.i64_in _ (by omega)
              have y11 : IntKind.i64.wrap (vv : Int) = (vv : Int) := IntWalk.i64_in _ (by omega)
              have y12 : (zp + (-1) != zp) = true := by simp <;> omega
              have y13 : decide (L.length ≤ k) = false := by simp; omega
              have y14 : decide ((L.length : Int) ≤ (k : Int)) = false := by simp; omega
              have y15 : (0 : Int) ≤ (k : Int) := by omega
              have y16 : (k : Int) < (L.length : Int) := by omega
              clear e3 hc hx hgd hzp hu hv
              go_wp2_with fail
              go_quiet (fail)
              go_wp2_with fail
              go_quiet (fail)
              go_wp2_with fail
              clear r0 r1 r2 y6 y7 y8 y9 y10 y11 y12 y13 y14 y15 y16 hub hvb c0 c2 cz
              cases fb
              · go_quiet (fail)
                go_wp2_with fail
                go_roundw
                case rel => exact ⟨p + 1, by omega, by go_num, by rw [HK1.out]; go_num, hid (hS.out.stays (by repeat (first | exact Joins.below_draws _ _ _ | refine (Joins.below_draws _ _ _).trans ?_)))⟩
                case measure => simp [intOf]; omega
              · exact absurd (HF3.out rfl).1 HNG.out
            · have HK1 : Hid ((chs W x y z (-1) Z (p + 1)).length = k) := hid (by rw [chs_no hc, HK.out])
              have HXP := hid (hx.trans hzp)
              rw [hx, hzp] at cx hxb
              rw [hzp] at cz hzb
              clear hc hx hzp
              go_wp2_with fail
              go_quiet (fail)
              go_wp2_with fail
              clear c0 c2 cz
              cases fb
              · go_quiet (fail)
                go_wp2_with fail
                go_roundw
                case rel => exact ⟨p + 1, by omega, by go_num, by rw [HK1.out], hid (hS.out.stays (by repeat (first | exact Joins.below_draws _ _ _ | refine (Joins.below_draws _ _ _).trans ?_)))⟩
                case measure => simp [intOf]; omega
              · exact absurd (HF3.out rfl).1 HNG.out
          · obtain rfl : n = p := by omega
            have hkl : k = L.length := by rw [← HK.out, HOK.out.hL]
            subst hkl
            go_wp2_with fail
            refine (known_any _).mono ?_
            rintro r w7 ⟨rfl, hb7⟩
            go_wp2
            go_ret
            exact ⟨rfl, step hS.out.lb.below hb7⟩



theorem walk_least (W H : Int) (ao : Option Addr) (n cap : Nat) (Z : Nat → Int) (hn : n ≤ 9223372036854775807) (x y : Int) (up : Bool) (bo : Option Addr) (m cap2 : Nat) (hm : m ≤ 9223372036854775807) (T : Nat → Int) (w : World) (hI : Ints w ao n Z) (hT : Ints w bo m T) :
    Calls Try.prog 11 #[lv W H (.slice ao n cap), .int .i64 x, .int .i64 y, .bool up, .slice bo m cap2] w fun r w' => r = .returned (.bool true) ∧ Below w.heap.size w w' := by
  by_cases h1 : 4000 < max n m
  · exact least_large W H ao n cap Z hn x y up bo m cap2 hm h1 w hI
  · cases up
    · rcases shift_cases W H n Z x y (-1) (.inr rfl) 0 (fun _ => 0) with ⟨e, he⟩ | ⟨W', H', x', y', z, L, X, rfl, rfl, rfl, rfl, hok⟩
      · exact least_no W H ao n cap Z hn x y false (-1) (.inr ⟨rfl, rfl⟩) bo m cap2 hm h1 e he w hI
      · exact least_dn W' H' ao n cap Z x' y' bo m cap2 hm h1 T z L X hok w hI hT
    · rcases shift_cases W H n Z x y 1 (.inl rfl) 0 (fun _ => 0) with ⟨e, he⟩ | ⟨W', H', x', y', z, L, X, rfl, rfl, rfl, rfl, hok⟩
      · exact least_no W H ao n cap Z hn x y true 1 (.inl ⟨rfl, rfl⟩) bo m cap2 hm h1 e he w hI
      · exact least_up W' H' ao n cap Z x' y' bo m cap2 hm h1 T z L X hok w hI hT
end Go.Proofs.Ytngamphkehppfaa
