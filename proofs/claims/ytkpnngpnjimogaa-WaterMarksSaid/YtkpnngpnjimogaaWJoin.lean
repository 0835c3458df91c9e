/-
  The walk of joined of a chart.
-/
import Derived.Test.YtkpnngpnjimogaaWSrv2
import Derived.Deep.RegionHeld3
namespace Go.Proofs.Ytkpnngpnjimogaa
open Go.RowKit

/-- How high the water of a tile stands. -/
def lev (W : Nat) (Z : Nat → Int) (u : Nat) : Int := if sea W Z u = true then 2 else gba W Z u
/-- Whether a ship may go from a tile through a side behind which another tile lies. -/
def joi2 (W : Nat) (Z K : Nat → Int) (t n : Nat) (s : Int) : Bool :=
  if wt W Z K t = false ∨ wt W Z K n = false then false
  else if K t = 2 ∧ K n = 2 then false
  else if K t = 2 then lft (gsl W Z t) (gba W Z t) s (lev W Z n)
  else if K n = 2 then lft (gsl W Z n) (gba W Z n) ((s + 2) % 4) (lev W Z t)
  else decide (lev W Z t = lev W Z n)
def joi (W H : Nat) (Z K : Nat → Int) (t : Nat) (s : Int) : Bool := if bey W H t s < 0 then false else joi2 W Z K t (bey W H t s).toNat s
theorem gba_bd {W H n : Nat} {Z : Nat → Int} (hg : Good W H n Z) {u : Nat} (hu : u < W * H) : 0 ≤ gba W Z u ∧ gba W Z u ≤ 15 := by
  have hp : nw W u + W + 2 < n := by rw [hg.len]; exact nw_lt hu
  have h0 := hg.high (nw W u) (by omega)
  have h1 := hg.high (nw W u + 1) (by omega)
  have h2 := hg.high (nw W u + W + 2) (by omega)
  have h3 := hg.high (nw W u + W + 1) (by omega)
  unfold gba base mn4
  split <;> omega
theorem cb_keep {d : Wat} {M A : Nat} {w wr w' : World} {C : Prop} (hA : A = w.heap.size) (h : CB d M w wr ∧ C) (k : Nx d M wr w') :
    CB d M w w' ∧ w'.cell? ⟨A, 0, none⟩ = some (.int .i64 d.W) ∧ w'.cell? ⟨A, 1, none⟩ = some (.int .i64 d.H) ∧ w'.cell? ⟨A, 2, none⟩ = some d.as ∧ w'.cell? ⟨A, 3, none⟩ = some d.ks ∧ w'.cell? ⟨A, 4, none⟩ = some d.bs ∧ w'.cell? ⟨A, 5, none⟩ = some (.map (some M)) := by
  subst hA
  have h' := h.1.on k
  exact ⟨h', h'.c0, h'.c1, h'.c2, h'.c3, h'.c4, h'.c5⟩
theorem cb_keepB {d : Wat} {M A : Nat} {w wr w' : World} {C : Prop} (hA : A = w.heap.size) (h : CB d M w wr ∧ C) (k : Below wr.heap.size wr w') :
    CB d M w w' ∧ w'.cell? ⟨A, 0, none⟩ = some (.int .i64 d.W) ∧ w'.cell? ⟨A, 1, none⟩ = some (.int .i64 d.H) ∧ w'.cell? ⟨A, 2, none⟩ = some d.as ∧ w'.cell? ⟨A, 3, none⟩ = some d.ks ∧ w'.cell? ⟨A, 4, none⟩ = some d.bs ∧ w'.cell? ⟨A, 5, none⟩ = some (.map (some M)) := cb_keep hA h (h.1.cx.go k)
theorem cb_cx {d : Wat} {M : Nat} {w wr : World} {C : Prop} (h : CB d M w wr ∧ C) : Cx d M wr := h.1.cx
theorem cb_nx {d : Wat} {M : Nat} {w wr : World} {C : Prop} (h : CB d M w wr ∧ C) : Nx d M w wr := h.1.nx

set_option maxRecDepth 20000 in
set_option maxHeartbeats 12800000 in
theorem joined_any (d : Wat) (hg : Good d.W d.H d.n d.Z) (hm : d.m = d.W * d.H) (M t : Nat) (ht : t < d.W * d.H) (s : Int) (hs0 : 0 ≤ s) (hs3 : s ≤ 3) (r : Bool) (hr : r = joi d.W d.H d.Z d.K t s) (w : World) (hC : Cx d M w) :
    Calls Try.prog 53 #[d.cht M, .int .i64 t, .int .i64 s] w fun e w' => e = .returned (.bool r) ∧ Nx d M w w' := by
  have hsd := hg.side
  have hsm := mul_small hsd.2.1 hsd.2.2.2
  have hSz : Sized d.W d.H := ⟨⟨by omega, by omega⟩, by omega, by omega⟩
  have hWH : (d.W : Int) * (d.H : Int) = ((d.W * d.H : Nat) : Int) := by simp
  have htz : (t : Int) < (d.W : Int) * (d.H : Int) := by rw [hWH]; omega
  have ht2 : t ≤ 1024 := by omega
  have HV := hid (CB.start hC)
  obtain ⟨A, hA⟩ : ∃ A, A = w.heap.size := ⟨_, rfl⟩
  have HA := hid hA
  unfold joi at hr
  obtain ⟨b, hb⟩ : ∃ b, bey d.W d.H t s = b := ⟨_, rfl⟩
  have HBY := hid (fun w => cbeyond_any d.W d.H t s b d.as d.ks d.bs (.map (some M)) hSz (by omega) htz hs0 hs3 hb w)
  rw [hb] at hr
  by_cases hbn : b < 0
  · have hrf : r = false := by rw [hr, if_pos hbn]
    subst hrf
    clear hr hb hg hm hC hsd hsm hSz hWH htz ht
    go_enter Try.func53, Try.ntmps53
    go_upto_region 1 with fail
    generalize World.alloc _ _ = wv at HV ⊢
    have c0 := HV.out.c0
    have c1 := HV.out.c1
    have c2 := HV.out.c2
    have c3 := HV.out.c3
    have c4 := HV.out.c4
    have c5 := HV.out.c5
    have hz := HV.out.size
    go_wp2_with (go_at_call 79; (refine (HBY.out _).mono ?_); rintro r wn ⟨rfl, hn⟩; have HVn := hid (HV.out.below hn); clear hn c0 c1 c2 c3 c4 c5 hz HV; have HV := HVn; clear HVn; have c0 := HV.out.c0; have c1 := HV.out.c1; have c2 := HV.out.c2; have c3 := HV.out.c3; have c4 := HV.out.c4; have c5 := HV.out.c5; have hz := HV.out.size)
    go_ret
    exact ⟨rfl, HV.out.nx⟩
  · rw [if_neg hbn] at hr
    have hin := bey_in hSz (by omega) htz (t := (t : Int)) (s := s) (by rw [hb]; omega)
    rw [hb] at hin
    obtain ⟨n, hnb⟩ : ∃ n : Nat, b = n := ⟨b.toNat, by omega⟩
    subst hnb
    rw [Int.toNat_natCast] at hr
    have hn : n < d.W * d.H := by rw [hWH] at hin; omega
    have hn2 : n ≤ 1024 := by omega
    unfold joi2 at hr
    obtain ⟨b1, hb1⟩ : ∃ b, b = wt d.W d.Z d.K t := ⟨_, rfl⟩
    obtain ⟨b2, hb2⟩ : ∃ b, b = wt d.W d.Z d.K n := ⟨_, rfl⟩
    have HW1 := hid (fun w hC => cwet_any d hg hm M t ht b1 hb1 w hC)
    have HW2 := hid (fun w hC => cwet_any d hg hm M n hn b2 hb2 w hC)
    rw [← hb1, ← hb2] at hr
    have htm : t < d.m := by omega
    have hnm : n < d.m := by omega
    have HL1 := hid (look_any d hg M t ht)
    have HL2 := hid (look_any d hg M n hn)
    have hg1 := gba_bd hg ht
    have hg2 := gba_bd hg hn
    unfold gnd at HL1 HL2
    unfold lev at hr
    obtain ⟨s1, hs1⟩ : ∃ x, x = sea d.W d.Z t := ⟨_, rfl⟩
    obtain ⟨s2, hs2⟩ : ∃ x, x = sea d.W d.Z n := ⟨_, rfl⟩
    obtain ⟨a1, ha1⟩ : ∃ x, x = gsl d.W d.Z t := ⟨_, rfl⟩
    obtain ⟨a2, ha2⟩ : ∃ x, x = gsl d.W d.Z n := ⟨_, rfl⟩
    obtain ⟨g1, hgb1⟩ : ∃ x, x = gba d.W d.Z t := ⟨_, rfl⟩
    obtain ⟨g2, hgb2⟩ : ∃ x, x = gba d.W d.Z n := ⟨_, rfl⟩
    rw [← hs1, ← ha1, ← hgb1] at HL1
    rw [← hs2, ← ha2, ← hgb2] at HL2
    rw [← hgb1] at hg1
    rw [← hgb2] at hg2
    rw [← hs1, ← ha1, ← hgb1, ← hs2, ← ha2, ← hgb2] at hr
    have HV1 := hid (fun w => level_any s1 a1 g1 w)
    have HV2 := hid (fun w => level_any s2 a2 g2 w)
    obtain ⟨l1, hl1⟩ : ∃ x : Int, x = if s1 = true then 2 else g1 := ⟨_, rfl⟩
    obtain ⟨l2, hl2⟩ : ∃ x : Int, x = if s2 = true then 2 else g2 := ⟨_, rfl⟩
    rw [← hl1] at HV1 hr
    rw [← hl2] at HV2 hr
    obtain ⟨o, ho⟩ : ∃ o, (s + 2) % 4 = o := ⟨_, rfl⟩
    rw [ho] at hr
    have HO := hid (fun w => wopposite_any s (by omega) hs3 o ho w)
    have HF1 := hid (fun r hr w => lifts_any s1 a1 g1 s l2 hg1 r hr w)
    have HF2 := hid (fun r hr w => lifts_any s2 a2 g2 o l1 hg2 r hr w)
    obtain ⟨k1, hk1⟩ : ∃ k, k = d.K t := ⟨_, rfl⟩
    obtain ⟨k2, hk2⟩ : ∃ k, k = d.K n := ⟨_, rfl⟩
    rw [← hk1, ← hk2] at hr
    have HK := hid (And.intro hk1 hk2)
    have HR := hid hr
    clear hr hb hg hm hC hsd hsm hSz hWH htz ht hn hin hb1 hb2 hs1 hs2 ha1 ha2 hgb1 hgb2 hl1 hl2 ho hk1 hk2 hg1 hg2 hs0 hs3 hbn
    go_enter Try.func53, Try.ntmps53
    go_upto_region 1 with fail
    generalize World.alloc _ _ = wv at HV ⊢
    have c0 := HV.out.c0
    have c1 := HV.out.c1
    have c2 := HV.out.c2
    have c3 := HV.out.c3
    have c4 := HV.out.c4
    have c5 := HV.out.c5
    have hz := HV.out.size
    cases b1
    · have hrf : r = false := by rw [HR.out]; simp
      subst hrf
      clear HR
      go_wp2_with (first | (go_at_call 79; (refine (HBY.out _).mono ?_); rintro r wn ⟨rfl, hn⟩; have HVn := hid (HV.out.below hn); clear hn c0 c1 c2 c3 c4 c5 hz HV; have HV := HVn; clear HVn; have c0 := HV.out.c0; have c1 := HV.out.c1; have c2 := HV.out.c2; have c3 := HV.out.c3; have c4 := HV.out.c4; have c5 := HV.out.c5; have hz := HV.out.size) | (go_at_call 57; ((with_reducible refine (HW1.out _ HV.out.cx).mono ?_)); rintro r wn ⟨rfl, hn⟩; have HVn := hid (HV.out.on hn); clear hn c0 c1 c2 c3 c4 c5 hz HV; have HV := HVn; clear HVn; have c0 := HV.out.c0; have c1 := HV.out.c1; have c2 := HV.out.c2; have c3 := HV.out.c3; have c4 := HV.out.c4; have c5 := HV.out.c5; have hz := HV.out.size))
      go_ret
      exact ⟨rfl, HV.out.nx⟩
    · cases b2
      · have hrf : r = false := by rw [HR.out]; simp
        subst hrf
        clear HR
        go_wp2_with (first | (go_at_call 79; (refine (HBY.out _).mono ?_); rintro r wn ⟨rfl, hn⟩; have HVn := hid (HV.out.below hn); clear hn c0 c1 c2 c3 c4 c5 hz HV; have HV := HVn; clear HVn; have c0 := HV.out.c0; have c1 := HV.out.c1; have c2 := HV.out.c2; have c3 := HV.out.c3; have c4 := HV.out.c4; have c5 := HV.out.c5; have hz := HV.out.size) | (go_at_call 57; ((with_reducible refine (HW1.out _ HV.out.cx).mono ?_)); rintro r wn ⟨rfl, hn⟩; have HVn := hid (HV.out.on hn); clear hn c0 c1 c2 c3 c4 c5 hz HV; have HV := HVn; clear HVn; have c0 := HV.out.c0; have c1 := HV.out.c1; have c2 := HV.out.c2; have c3 := HV.out.c3; have c4 := HV.out.c4; have c5 := HV.out.c5; have hz := HV.out.size) | (go_at_call 57; ((with_reducible refine (HW2.out _ HV.out.cx).mono ?_)); rintro r wn ⟨rfl, hn⟩; have HVn := hid (HV.out.on hn); clear hn c0 c1 c2 c3 c4 c5 hz HV; have HV := HVn; clear HVn; have c0 := HV.out.c0; have c1 := HV.out.c1; have c2 := HV.out.c2; have c3 := HV.out.c3; have c4 := HV.out.c4; have c5 := HV.out.c5; have hz := HV.out.size))
        go_ret
        exact ⟨rfl, HV.out.nx⟩
      · go_upto_region 4 with (first | (go_at_call 79; (refine (HBY.out _).mono ?_); rintro r wn ⟨rfl, hn⟩; have HVn := hid (HV.out.below hn); clear hn c0 c1 c2 c3 c4 c5 hz HV; have HV := HVn; clear HVn; have c0 := HV.out.c0; have c1 := HV.out.c1; have c2 := HV.out.c2; have c3 := HV.out.c3; have c4 := HV.out.c4; have c5 := HV.out.c5; have hz := HV.out.size) | (go_at_call 57; ((with_reducible refine (HW1.out _ HV.out.cx).mono ?_)); rintro r wn ⟨rfl, hn⟩; have HVn := hid (HV.out.on hn); clear hn c0 c1 c2 c3 c4 c5 hz HV; have HV := HVn; clear HVn; have c0 := HV.out.c0; have c1 := HV.out.c1; have c2 := HV.out.c2; have c3 := HV.out.c3; have c4 := HV.out.c4; have c5 := HV.out.c5; have hz := HV.out.size) | (go_at_call 57; ((with_reducible refine (HW2.out _ HV.out.cx).mono ?_)); rintro r wn ⟨rfl, hn⟩; have HVn := hid (HV.out.on hn); clear hn c0 c1 c2 c3 c4 c5 hz HV; have HV := HVn; clear HVn; have c0 := HV.out.c0; have c1 := HV.out.c1; have c2 := HV.out.c2; have c3 := HV.out.c3; have c4 := HV.out.c4; have c5 := HV.out.c5; have hz := HV.out.size))
        obtain ⟨bk, off, e, hbz, q0⟩ := HV.out.cx.kinds t htm
        cases e
        obtain ⟨bk', off', e, hbz', q1⟩ := HV.out.cx.kinds n hnm
        cases e
        rw [← HK.out.1] at q0
        rw [← HK.out.2] at q1
        clear hbz'
        have htm' : (t : Int) < (d.m : Int) := by omega
        have hnm' : (n : Int) < (d.m : Int) := by omega
        by_cases h1 : k1 = 2
        · subst h1
          by_cases h2 : k2 = 2
          · subst h2
            have hrf : r = false := by rw [HR.out]; simp
            subst hrf
            clear HR
            go_wp2_with fail
            go_quiet (fail)
            have HVn := hid (HV.out.below (Joins.below_draws _ _ nq))
            clear c0 c1 c2 c3 c4 c5 hz HV q0 q1
            have HV := HVn
            clear HVn
            generalize World.drewN _ _ = wd at HV ⊢
            have c0 := HV.out.c0
            have c1 := HV.out.c1
            have c2 := HV.out.c2
            have c3 := HV.out.c3
            have c4 := HV.out.c4
            have c5 := HV.out.c5
            have hz := HV.out.size
            go_wp2_with fail
            go_ret
            exact ⟨rfl, HV.out.nx⟩
          · have hr' : r = lft a1 g1 s l2 := by rw [HR.out]; simp [h2]
            have HF := hid (HF1.out r hr')
            clear HR hr' HF1 HF2
            go_wp2_with fail
            go_quiet (fail)
            have HVn := hid (HV.out.below (Joins.below_draws _ _ nq))
            clear c0 c1 c2 c3 c4 c5 hz HV q0 q1
            have HV := HVn
            clear HVn
            generalize World.drewN _ _ = wd at HV ⊢
            have c0 := HV.out.c0
            have c1 := HV.out.c1
            have c2 := HV.out.c2
            have c3 := HV.out.c3
            have c4 := HV.out.c4
            have c5 := HV.out.c5
            have hz := HV.out.size
            simp only [← hA] at c0 c1 c2 c3 c4 c5 hz ⊢
            clear hA
            go_wp2_with fail
            go_region_held3 (fun w' => CB d M w w' ∧ w'.cell? ⟨A, 0, none⟩ = some (.int .i64 d.W) ∧ w'.cell? ⟨A, 1, none⟩ = some (.int .i64 d.H) ∧ w'.cell? ⟨A, 2, none⟩ = some d.as ∧ w'.cell? ⟨A, 3, none⟩ = some d.ks ∧ w'.cell? ⟨A, 4, none⟩ = some d.bs ∧ w'.cell? ⟨A, 5, none⟩ = some (.map (some M)))
            (first
            | exact cb_keep HA.out (And.intro HV.out trivial) (HV.out.cx.go ((Below.refl _ _).drew))
            | exact cb_keep HA.out (by assumption) hn
            | exact cb_keepB HA.out (by assumption) hb
            | exact cb_keepB HA.out (by assumption) (Below.refl _ _)
            | assumption)
            (first
            | (go_at_call 51; (with_reducible refine (HL1.out _ (cb_cx (by assumption))).mono ?_); rintro e wx ⟨rfl, hn⟩)
            | (go_at_call 51; (with_reducible refine (HL2.out _ (cb_cx (by assumption))).mono ?_); rintro e wx ⟨rfl, hn⟩)
            | (go_at_call 81; (with_reducible refine (HV1.out _).mono ?_); rintro e wx ⟨rfl, hb⟩)
            | (go_at_call 81; (with_reducible refine (HV2.out _).mono ?_); rintro e wx ⟨rfl, hb⟩)
            | (go_at_call 82; (refine (HO.out _).mono ?_); rintro e wx ⟨rfl, rfl⟩)
            | (go_at_call 80; (with_reducible refine (HF.out _).mono ?_); rintro e wx ⟨rfl, hb⟩))
            all_goals go_wp2_with fail
            all_goals go_ret
            all_goals exact ⟨rfl, cb_nx (by assumption)⟩
        · by_cases h2 : k2 = 2
          · subst h2
            have hr' : r = lft a2 g2 o l1 := by rw [HR.out]; simp [h1]
            have HF := hid (HF2.out r hr')
            clear HR hr' HF1 HF2
            go_wp2_with fail
            go_quiet (fail)
            have HVn := hid (HV.out.below (Joins.below_draws _ _ nq))
            clear c0 c1 c2 c3 c4 c5 hz HV q0 q1
            have HV := HVn
            clear HVn
            generalize World.drewN _ _ = wd at HV ⊢
            have c0 := HV.out.c0
            have c1 := HV.out.c1
            have c2 := HV.out.c2
            have c3 := HV.out.c3
            have c4 := HV.out.c4
            have c5 := HV.out.c5
            have hz := HV.out.size
            simp only [← hA] at c0 c1 c2 c3 c4 c5 hz ⊢
            clear hA
            go_wp2_with fail
            go_region_held3 (fun w' => CB d M w w' ∧ w'.cell? ⟨A, 0, none⟩ = some (.int .i64 d.W) ∧ w'.cell? ⟨A, 1, none⟩ = some (.int .i64 d.H) ∧ w'.cell? ⟨A, 2, none⟩ = some d.as ∧ w'.cell? ⟨A, 3, none⟩ = some d.ks ∧ w'.cell? ⟨A, 4, none⟩ = some d.bs ∧ w'.cell? ⟨A, 5, none⟩ = some (.map (some M)))
            (first
            | exact cb_keep HA.out (And.intro HV.out trivial) (HV.out.cx.go ((Below.refl _ _).drew))
            | exact cb_keep HA.out (by assumption) hn
            | exact cb_keepB HA.out (by assumption) hb
            | exact cb_keepB HA.out (by assumption) (Below.refl _ _)
            | assumption)
            (first
            | (go_at_call 51; (with_reducible refine (HL1.out _ (cb_cx (by assumption))).mono ?_); rintro e wx ⟨rfl, hn⟩)
            | (go_at_call 51; (with_reducible refine (HL2.out _ (cb_cx (by assumption))).mono ?_); rintro e wx ⟨rfl, hn⟩)
            | (go_at_call 81; (with_reducible refine (HV1.out _).mono ?_); rintro e wx ⟨rfl, hb⟩)
            | (go_at_call 81; (with_reducible refine (HV2.out _).mono ?_); rintro e wx ⟨rfl, hb⟩)
            | (go_at_call 82; (refine (HO.out _).mono ?_); rintro e wx ⟨rfl, rfl⟩)
            | (go_at_call 80; (with_reducible refine (HF.out _).mono ?_); rintro e wx ⟨rfl, hb⟩))
            all_goals go_wp2_with fail
            all_goals go_ret
            all_goals exact ⟨rfl, cb_nx (by assumption)⟩
          · have hr' : r = decide (l1 = l2) := by rw [HR.out]; simp [h1, h2]
            have HRR := hid hr'
            clear HR hr' HF1 HF2
            go_wp2_with fail
            go_quiet (fail)
            have HVn := hid (HV.out.below (Joins.below_draws _ _ nq))
            clear c0 c1 c2 c3 c4 c5 hz HV q0 q1
            have HV := HVn
            clear HVn
            generalize World.drewN _ _ = wd at HV ⊢
            have c0 := HV.out.c0
            have c1 := HV.out.c1
            have c2 := HV.out.c2
            have c3 := HV.out.c3
            have c4 := HV.out.c4
            have c5 := HV.out.c5
            have hz := HV.out.size
            simp only [← hA] at c0 c1 c2 c3 c4 c5 hz ⊢
            clear hA
            go_wp2_with fail
            go_region_held3 (fun w' => CB d M w w' ∧ w'.cell? ⟨A, 0, none⟩ = some (.int .i64 d.W) ∧ w'.cell? ⟨A, 1, none⟩ = some (.int .i64 d.H) ∧ w'.cell? ⟨A, 2, none⟩ = some d.as ∧ w'.cell? ⟨A, 3, none⟩ = some d.ks ∧ w'.cell? ⟨A, 4, none⟩ = some d.bs ∧ w'.cell? ⟨A, 5, none⟩ = some (.map (some M)))
            (first
            | exact cb_keep HA.out (And.intro HV.out trivial) (HV.out.cx.go ((Below.refl _ _).drew))
            | exact cb_keep HA.out (by assumption) hn
            | exact cb_keepB HA.out (by assumption) hb
            | exact cb_keepB HA.out (by assumption) (Below.refl _ _)
            | assumption)
            (first
            | (go_at_call 51; (with_reducible refine (HL1.out _ (cb_cx (by assumption))).mono ?_); rintro e wx ⟨rfl, hn⟩)
            | (go_at_call 51; (with_reducible refine (HL2.out _ (cb_cx (by assumption))).mono ?_); rintro e wx ⟨rfl, hn⟩)
            | (go_at_call 81; (with_reducible refine (HV1.out _).mono ?_); rintro e wx ⟨rfl, hb⟩)
            | (go_at_call 81; (with_reducible refine (HV2.out _).mono ?_); rintro e wx ⟨rfl, hb⟩)
            | (go_at_call 82; (refine (HO.out _).mono ?_); rintro e wx ⟨rfl, rfl⟩)
)
            all_goals go_wp2_with fail
            all_goals go_ret
            all_goals exact ⟨ret_bool (by rw [HRR.out, Bool.eq_iff_iff]; simp), cb_nx (by assumption)⟩
end Go.Proofs.Ytkpnngpnjimogaa
