/-
  The walk of the reference's right: a kind's name, its cargoes and amounts.
-/
import Derived.Test.YtnhkblkijiipeaaFKnd
namespace Go.Proofs.Ytnhkblkijiipeaa
open Go.RowKit

theorem okK_nm {k : Kd} (h : isNm k.nm = false) : okK k = false := by unfold okK; rw [h]; rfl
theorem okK_tn {k : Kd} (h : 4 < k.tn) : okK k = false := by
  have : okL k.tn k.T = false := by unfold okL; rw [decide_eq_false (by omega), Bool.and_false]
  unfold okK; rw [this, Bool.and_false]; rfl
theorem okK_mn {k : Kd} (h : 4 < k.mn) : okK k = false := by
  have : okL k.mn k.C = false := by unfold okL; rw [decide_eq_false (by omega), Bool.and_false]
  unfold okK; rw [this, Bool.and_false]; rfl
theorem okK_T {k : Kd} {i : Nat} (hi : i < k.tn) (h : badC k.T i = true) : okK k = false := by
  unfold okK; rw [okL_no hi h, Bool.and_false]; rfl
theorem okK_C {k : Kd} {i : Nat} (hi : i < k.mn) (h : badC k.C i = true) : okK k = false := by
  unfold okK; rw [okL_no hi h, Bool.and_false]; rfl
theorem okK_A {k : Kd} {i : Nat} (hi : i < k.mn) (h : badA k.A i = true) : okK k = false := by
  unfold okK; rw [anyP_yes hi h]; simp
theorem okK_yes {k : Kd} (h1 : isNm k.nm = true) (h2 : k.tn ≤ 4) (h3 : k.mn ≤ 4) (hT : ∀ j, j < k.tn → badC k.T j = false) (hM : ∀ j, j < k.mn → badC k.C j = false ∧ badA k.A j = false) : okK k = true := by
  unfold okK
  rw [h1, okL_end hT, okL_end (fun j hj => (hM j hj).1), anyP_no (fun j hj => (hM j hj).2), decide_eq_true h2, decide_eq_true h3]; rfl
set_option maxRecDepth 100000 in
set_option maxHeartbeats 12800000 in
theorem rright_any (k : Kd) (htn : k.tn ≤ 1000) (hmn : k.mn ≤ 1000) (hs : k.nm.size ≤ maxLen) (q : Bool) (hq : okK k = q) (w : World) (h : KdAt w k) :
    Calls Try.prog 61 #[kv k] w fun e w' => e = .returned (.bool q) ∧ Below w.heap.size w w' := by
  have H0 := hid (KB.start h)
  have HK := hid hq
  obtain ⟨nm, ta, tn, tc, T, ma, mn, mc, C, A⟩ := k
  dsimp only at htn hmn hs
  show Calls _ _ #[.agg #[.string nm, .slice ta tn tc, .slice ma mn mc]] w _
  obtain ⟨q1, e1⟩ : ∃ q, isNm nm = q := ⟨_, rfl⟩
  have HN := hid (fun W => named_any nm hs q1 e1 W)
  have HN1 := hid e1
  obtain ⟨B, hB⟩ : ∃ B, w.heap.size = B := ⟨_, rfl⟩
  rw [hB] at H0 ⊢
  clear e1 hq h
  cases q1
  · have HF : Hid (q = false) := hid (by rw [← HK.out]; exact okK_nm HN1.out)
    go_enter Try.func61, Try.ntmps61
    go_upto_region 1 with fail
    generalize World.alloc w _ = w1 at H0 ⊢
    have c0 := H0.out.c0; have c1 := H0.out.c1; have c2 := H0.out.c2
    go_wp2_with (go_at_call 72; refine (HN.out _).mono ?_; rintro e w2 ⟨rfl, rfl⟩)
    go_ret
    exact ⟨by rw [HF.out]; rfl, H0.out.below⟩
  by_cases h2 : (4 : Int) < (tn : Int)
  · have HF : Hid (q = false) := hid (by rw [← HK.out]; exact okK_tn (by show 4 < tn; omega))
    go_enter Try.func61, Try.ntmps61
    go_upto_region 1 with fail
    generalize World.alloc w _ = w1 at H0 ⊢
    have c0 := H0.out.c0; have c1 := H0.out.c1; have c2 := H0.out.c2
    go_wp2_with (go_at_call 72; refine (HN.out _).mono ?_; rintro e w2 ⟨rfl, rfl⟩)
    go_ret
    exact ⟨by rw [HF.out]; rfl, H0.out.below⟩
  by_cases h3 : (4 : Int) < (mn : Int)
  · have HF : Hid (q = false) := hid (by rw [← HK.out]; exact okK_mn (by show 4 < mn; omega))
    go_enter Try.func61, Try.ntmps61
    go_upto_region 1 with fail
    generalize World.alloc w _ = w1 at H0 ⊢
    have c0 := H0.out.c0; have c1 := H0.out.c1; have c2 := H0.out.c2
    go_wp2_with (go_at_call 72; refine (HN.out _).mono ?_; rintro e w2 ⟨rfl, rfl⟩)
    go_ret
    exact ⟨by rw [HF.out]; rfl, H0.out.below⟩
  go_enter Try.func61, Try.ntmps61
  go_upto_region 1 with fail
  generalize World.alloc w _ = w1 at H0 ⊢
  have c0 := H0.out.c0; have c1 := H0.out.c1; have c2 := H0.out.c2
  go_wp2_with (go_at_call 72; refine (HN.out _).mono ?_; rintro e w2 ⟨rfl, rfl⟩)
  go_loop [26] (fun iv => ∃ i : Nat, i ≤ tn ∧ iv = .int .i64 i ∧ Hid (∀ j, j < i → badC T j = false)) (fun iv => tn - (intOf iv).toNat)
  case atStart => exact ⟨0, Nat.zero_le _, rfl, hid (fun j hj => absurd hj (Nat.not_lt_zero _))⟩
  case round =>
    obtain ⟨i, hi, rfl, HI⟩ := hrel
    by_cases hlt : i < tn
    · obtain ⟨b, off, e, _, a0⟩ := iat H0.out.lists.t hlt
      dsimp only at e a0
      subst e
      obtain ⟨x, hx⟩ : ∃ x, T i = x := ⟨_, rfl⟩
      rw [hx] at a0
      have HX := hid hx
      clear hx
      cases q0 : inB 0 x 15
      · have HB := hid q0
        have HF : Hid (q = false) := hid (by rw [← HK.out]; exact okK_T hlt (badC_0 HX.out q0))
        clear q0
        go_wp2_with (go_at_call 37; refine (rwithin_any 0 x 15 false HB.out _).mono ?_; rintro e w' ⟨rfl, rfl⟩)
        go_ret
        exact ⟨by rw [HF.out]; rfl, H0.out.below⟩
      · have HB := hid q0
        clear q0
        by_cases h0 : 0 < i
        · obtain ⟨j, hj⟩ : ∃ j, j + 1 = i := ⟨i - 1, by omega⟩
          have HJ := hid hj
          have e1 : (i : Int) - 1 = (j : Int) := by omega
          have e2 : IntKind.i64.wrap (j : Int) = (j : Int) := by rw [IntKind.wrap_i64]; omega
          have e3 : (j : Int) < (tn : Int) := by omega
          have e4 : (0 : Int) < (i : Int) := by omega
          obtain ⟨b', off', e', _, d0⟩ := iat H0.out.lists.t (j := j) (by show j < tn; omega)
          dsimp only at d0
          cases e'
          obtain ⟨y, hy⟩ : ∃ y, T j = y := ⟨_, rfl⟩
          rw [hy] at d0
          have HY := hid hy
          clear hy hj
          by_cases hxy : x ≤ y
          · have HF : Hid (q = false) := hid (by rw [← HK.out]; exact okK_T hlt (badC_1 HX.out HJ.out HY.out hxy))
            go_wp2_with (go_at_call 37; refine (rwithin_any 0 x 15 true HB.out _).mono ?_; rintro e w' ⟨rfl, rfl⟩)
            go_ret
            exact ⟨by rw [HF.out]; rfl, H0.out.below⟩
          · have HNX := hid (snoc_no HI.out (badC_2 HX.out HB.out HJ.out HY.out hxy))
            go_wp2_with (go_at_call 37; refine (rwithin_any 0 x 15 true HB.out _).mono ?_; rintro e w' ⟨rfl, rfl⟩)
            go_round
            case rel => exact ⟨i + 1, by omega, by go_num, HNX⟩
            case measure => simp [intOf]; omega
        · have e4 : ¬ (0 : Int) < (i : Int) := by omega
          have HNX := hid (snoc_no HI.out (badC_3 HX.out HB.out h0))
          clear h0
          go_wp2_with (go_at_call 37; refine (rwithin_any 0 x 15 true HB.out _).mono ?_; rintro e w' ⟨rfl, rfl⟩)
          go_round
          case rel => exact ⟨i + 1, by omega, by go_num, HNX⟩
          case measure => simp [intOf]; omega
    · obtain rfl : tn = i := by omega
      have HT := hid HI.out
      clear hlt hi HI
      go_wp2_with fail
      clear c0 c1 c2
      go_loopw [52] (fun iv wr => ∃ i : Nat, i ≤ mn ∧ iv = .int .i64 i ∧ Hid (∀ j, j < i → badC C j = false ∧ badA A j = false) ∧ Hid (KB ⟨nm, ta, tn, tc, T, ma, mn, mc, C, A⟩ B B w wr)) (fun iv _ => mn - (intOf iv).toNat)
      case atStart => exact ⟨0, Nat.zero_le _, rfl, hid (fun j hj => absurd hj (Nat.not_lt_zero _)), H0⟩
      case round =>
        obtain ⟨i, hi, rfl, HI, HS⟩ := hrel
        by_cases hlt : i < mn
        · obtain ⟨b, off, e, _, a0, a1⟩ := mat HS.out.lists.m hlt
          dsimp only at e a0 a1
          subst e
          obtain ⟨x, hx⟩ : ∃ x, C i = x := ⟨_, rfl⟩
          obtain ⟨y, hy⟩ : ∃ y, A i = y := ⟨_, rfl⟩
          rw [hx] at a0
          rw [hy] at a1
          have HX := hid hx
          have HY := hid hy
          clear hx hy
          have HS2 := hid (HS.out.stays ((Below.refl _ wr).alloc (Nat.le_refl _) (.cells #[.int .i64 x, .int .i64 y] 42)))
          have d0 : (wr.alloc (.cells #[.int .i64 x, .int .i64 y] 42)).cell? ⟨wr.heap.size, 0, none⟩ = some (.int .i64 x) := cell_of_row _ _ 0 _ _ _ (heap_new _ _)
          have d1 : (wr.alloc (.cells #[.int .i64 x, .int .i64 y] 42)).cell? ⟨wr.heap.size, 1, none⟩ = some (.int .i64 y) := cell_of_row _ _ 1 _ _ _ (heap_new _ _)
          have HD := hid (And.intro d0 d1)
          clear d0 d1
          go_upto_region 12 with fail
          clear a0 a1 HS
          obtain ⟨Y, hY⟩ : ∃ Y, wr.heap.size = Y := ⟨_, rfl⟩
          rw [hY] at HD ⊢
          clear hY
          generalize World.alloc wr _ = w2 at HS2 HD ⊢
          obtain ⟨d0, d1⟩ := HD.out
          have c2 := HS2.out.c2
          dsimp only at c2
          cases q0 : inB 0 x 15
          · have HB := hid q0
            have HF : Hid (q = false) := hid (by rw [← HK.out]; exact okK_C hlt (badC_0 HX.out q0))
            clear q0
            go_quiet (exact quiet_eq (rwithin_any 0 x 15 false HB.out _))
            have HE : Hid (∀ n, Below B w (World.drewN w2 n)) := hid (fun n => (HS2.out.stays (Joins.below_draws _ _ _)).below)
            go_wp2_with fail
            go_ret
            exact ⟨by rw [HF.out]; rfl, HE.out _⟩
          have HB := hid q0
          clear q0
          cases q0 : inB 1 y 1000
          · have HB2 := hid q0
            have HF : Hid (q = false) := hid (by rw [← HK.out]; exact okK_A hlt (show (!inB 1 (A i) 1000) = true by rw [HY.out, q0]; rfl))
            clear q0
            go_quiet (first | (with_reducible exact quiet_eq (rwithin_any 0 x 15 true HB.out _)) | (with_reducible exact quiet_eq (rwithin_any 1 y 1000 false HB2.out _)))
            have HE : Hid (∀ n, Below B w (World.drewN w2 n)) := hid (fun n => (HS2.out.stays (Joins.below_draws _ _ _)).below)
            go_wp2_with fail
            go_ret
            exact ⟨by rw [HF.out]; rfl, HE.out _⟩
          have HB2 := hid q0
          clear q0
          have HA1 : Hid (badA A i = false) := hid (show (!inB 1 (A i) 1000) = false by rw [HY.out, HB2.out]; rfl)
          by_cases h0 : 0 < i
          · obtain ⟨j, hj⟩ : ∃ j, j + 1 = i := ⟨i - 1, by omega⟩
            have HJ := hid hj
            have e1 : (i : Int) - 1 = (j : Int) := by omega
            have e2 : IntKind.i64.wrap (j : Int) = (j : Int) := by rw [IntKind.wrap_i64]; omega
            have e3 : (j : Int) < (mn : Int) := by omega
            have e5 : j < mn := by omega
            have e4 : decide (0 < i) = true := decide_eq_true h0
            have HH0 := hid h0
            clear h0
            obtain ⟨b', off', e', _, z0, _⟩ := mat HS2.out.lists.m (j := j) (by show j < mn; have := HJ.out; omega)
            dsimp only at z0
            cases e'
            obtain ⟨z, hz⟩ : ∃ z, C j = z := ⟨_, rfl⟩
            rw [hz] at z0
            have HZ := hid hz
            clear hz hj
            by_cases hxy : x ≤ z
            · have hxd : decide (x ≤ z) = true := decide_eq_true hxy
              have HF : Hid (q = false) := hid (by rw [← HK.out]; exact okK_C hlt (badC_1 HX.out HJ.out HZ.out hxy))
              go_quiet (first | (with_reducible exact quiet_eq (rwithin_any 0 x 15 true HB.out _)) | (with_reducible exact quiet_eq (rwithin_any 1 y 1000 true HB2.out _)))
              have HE : Hid (∀ n, Below B w (World.drewN w2 n)) := hid (fun n => (HS2.out.stays (Joins.below_draws _ _ _)).below)
              go_wp2_with fail
              go_ret
              exact ⟨by rw [HF.out]; rfl, HE.out _⟩
            · have hxd : decide (x ≤ z) = false := decide_eq_false hxy
              have HNX : Hid (∀ j, j < i + 1 → badC C j = false ∧ badA A j = false) := hid (fun u hu => by
                by_cases e : u = i
                · subst e; exact ⟨badC_2 HX.out HB.out HJ.out HZ.out hxy, HA1.out⟩
                · exact HI.out u (by omega))
              go_quiet (first | (with_reducible exact quiet_eq (rwithin_any 0 x 15 true HB.out _)) | (with_reducible exact quiet_eq (rwithin_any 1 y 1000 true HB2.out _)))
              have HE := hid (fun n : Nat => HS2.out.stays (w' := World.drewN w2 n) (Joins.below_draws _ _ _))
              go_wp2_with fail
              go_roundw
              case rel => exact ⟨i + 1, by omega, by go_num, HNX, hid (HE.out _)⟩
              case measure => simp [intOf]; omega
          · have e4 : decide (0 < i) = false := decide_eq_false h0
            have HNX : Hid (∀ j, j < i + 1 → badC C j = false ∧ badA A j = false) := hid (fun u hu => by
              by_cases e : u = i
              · subst e; exact ⟨badC_3 HX.out HB.out h0, HA1.out⟩
              · exact HI.out u (by omega))
            clear h0
            go_quiet (first | (with_reducible exact quiet_eq (rwithin_any 0 x 15 true HB.out _)) | (with_reducible exact quiet_eq (rwithin_any 1 y 1000 true HB2.out _)))
            have HE := hid (fun n : Nat => HS2.out.stays (w' := World.drewN w2 n) (Joins.below_draws _ _ _))
            go_wp2_with fail
            go_roundw
            case rel => exact ⟨i + 1, by omega, by go_num, HNX, hid (HE.out _)⟩
            case measure => simp [intOf]; omega
        · obtain rfl : mn = i := by omega
          have HF : Hid (q = true) := hid (by rw [← HK.out]; exact okK_yes HN1.out (by show tn ≤ 4; omega) (by show mn ≤ 4; omega) HT.out HI.out)
          go_wp2_with fail
          go_ret
          exact ⟨by rw [HF.out]; rfl, HS.out.below⟩
end Go.Proofs.Ytnhkblkijiipeaa
