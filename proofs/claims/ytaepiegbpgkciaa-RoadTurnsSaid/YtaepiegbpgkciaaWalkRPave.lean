/-
  The walks of checked, Pave and Tear of the reference.
-/
import Derived.Test.YtaepiegbpgkciaaWalkPave
import Derived.Test.YtaepiegbpgkciaaWalkRVal
namespace Go.Proofs.Ytaepiegbpgkciaa
open Go.RowKit

set_option maxHeartbeats 3200000 in
theorem checked_to (W H : Int) (ao : Option Addr) (n cap : Nat) (Z : Nat → Int) (bo : Option Addr) (m bcap : Nat) (Y : Nat → Int) (hn : n ≤ 9223372036854775807) (hm : m ≤ 9223372036854775807) (t a e : Int) (h : AErr (0 ≤ a ∧ a ≤ 15) W H n m Z Y t e) (w : World) (hI : Ints w ao n Z) (hB : Ints w bo m Y) :
    Calls Try.prog 49 #[rv W H (.slice ao n cap) (.slice bo m bcap), .int .i64 t, .int .i64 a] w fun r w' => r = .returned (.int .i64 e) ∧ Below w.heap.size w w' := by
  have HS := hid (sb_start (W := W) (H := H) (cap := cap) (bcap := bcap) hI hB)
  obtain ⟨X, hX⟩ : ∃ X, X = w.heap.size := ⟨_, rfl⟩
  have HX := hid hX
  clear hI hB
  rcases h with ⟨he, h⟩ | ⟨rfl, h, hf⟩ | ⟨rfl, h, hf⟩
  · rcases h with ⟨_, h⟩ | ⟨rfl, hr, ht⟩ | ⟨rfl, _, _⟩
    · have HV := hid h
      have e0 : (e != 0) = true := by simpa using he
      clear h he
      go_enter Try.func49, Try.ntmps49
      go_wp2_with fail
      refine (refvalidate_any W H ao n cap Z bo m bcap Y hn hm _ HS.out.arms HS.out.ways e HV.out).mono ?_
      rintro r w1 ⟨rfl, hb1⟩
      have HS1 := hid (HS.out.stays hb1)
      clear hb1
      go_wp2_with fail
      go_ret
      exact ⟨rfl, HS1.out.below⟩
    · have HV := hid (verr_ok hr)
      have hbd := hr.sized.bound
      have hWH : W * H = n := hr.args.arms.symm
      obtain ⟨⟨w1, w2⟩, w3, w4⟩ := hr.sized
      obtain ⟨q1, q2⟩ := hbd
      by_cases h0 : t < 0
      · clear hr ht he
        go_enter Try.func49, Try.ntmps49
        go_wp2_with fail
        refine (refvalidate_any W H ao n cap Z bo m bcap Y hn hm _ HS.out.arms HS.out.ways 0 HV.out).mono ?_
        rintro r w1 ⟨rfl, hb1⟩
        have HS1 := hid (HS.out.stays hb1)
        clear hb1
        go_wp2_with fail
        go_ret
        exact ⟨rfl, HS1.out.below⟩
      · have h1 : W * H ≤ t := by omega
        clear hr ht he
        go_enter Try.func49, Try.ntmps49
        go_wp2_with fail
        refine (refvalidate_any W H ao n cap Z bo m bcap Y hn hm _ HS.out.arms HS.out.ways 0 HV.out).mono ?_
        rintro r w1 ⟨rfl, hb1⟩
        have HS1 := hid (HS.out.stays hb1)
        clear hb1
        obtain ⟨c0, c1, c2, c3, hz2⟩ := HS1.out.at HX.out
        simp only [← hX] at c0 c1 c2 c3 ⊢
        clear HS hX
        go_wp2_with fail
        go_ret
        exact ⟨rfl, HS1.out.below⟩
    · exact absurd rfl he
  all_goals
    obtain ⟨hR, ht0, ht1⟩ := h.right
    have HV := hid (verr_ok hR)
    have hbd := hR.sized.bound
    have hWH : W * H = n := hR.args.arms.symm
    obtain ⟨⟨w1, w2⟩, w3, w4⟩ := hR.sized
    obtain ⟨q1, q2⟩ := hbd
    have ht2 : t < W * H := by omega
  · by_cases h0 : a < 0
    · clear h hf hR
      go_enter Try.func49, Try.ntmps49
      go_wp2_with fail
      refine (refvalidate_any W H ao n cap Z bo m bcap Y hn hm _ HS.out.arms HS.out.ways 0 HV.out).mono ?_
      rintro r w1 ⟨rfl, hb1⟩
      have HS1 := hid (HS.out.stays hb1)
      clear hb1
      obtain ⟨c0, c1, c2, c3, hz2⟩ := HS1.out.at HX.out
      simp only [← hX] at c0 c1 c2 c3 ⊢
      clear HS hX
      go_wp2_with fail
      go_ret
      exact ⟨rfl, HS1.out.below⟩
    · have h1 : 15 < a := by omega
      clear h hf hR
      go_enter Try.func49, Try.ntmps49
      go_wp2_with fail
      refine (refvalidate_any W H ao n cap Z bo m bcap Y hn hm _ HS.out.arms HS.out.ways 0 HV.out).mono ?_
      rintro r w1 ⟨rfl, hb1⟩
      have HS1 := hid (HS.out.stays hb1)
      clear hb1
      obtain ⟨c0, c1, c2, c3, hz2⟩ := HS1.out.at HX.out
      simp only [← hX] at c0 c1 c2 c3 ⊢
      clear HS hX
      go_wp2_with fail
      go_ret
      exact ⟨rfl, HS1.out.below⟩
  · obtain ⟨f0, f1⟩ := hf
    clear h hR
    go_enter Try.func49, Try.ntmps49
    go_wp2_with fail
    refine (refvalidate_any W H ao n cap Z bo m bcap Y hn hm _ HS.out.arms HS.out.ways 0 HV.out).mono ?_
    rintro r w1 ⟨rfl, hb1⟩
    have HS1 := hid (HS.out.stays hb1)
    clear hb1
    obtain ⟨c0, c1, c2, c3, hz2⟩ := HS1.out.at HX.out
    simp only [← hX] at c0 c1 c2 c3 ⊢
    clear HS hX
    go_wp2_with fail
    go_ret
    exact ⟨rfl, HS1.out.below⟩

set_option maxRecDepth 100000 in
set_option maxHeartbeats 12800000 in
theorem refpave_to (W H : Int) (ao : Option Addr) (n cap : Nat) (Z : Nat → Int) (bo : Option Addr) (m bcap : Nat) (Y : Nat → Int) (hn : n ≤ 9223372036854775807) (hm : m ≤ 9223372036854775807) (t a : Int) {W' H' : Int} {n' : Nat} {Z' Y' : Nat → Int} {c e : Int}
    (h : PaveIs false 150 W H n m Z Y t a W' H' n' Z' Y' c e) (w : World) (hI : Ints w ao n Z) (hB : Ints w bo m Y) :
    Calls Try.prog 22 #[rv W H (.slice ao n cap) (.slice bo m bcap), .int .i64 t, .int .i64 a] w (Out3 W' H' n' Z' Y' c e w) := by
  have hst := bx2_start w 24 24 #[.int .i64 W, .int .i64 H, .slice ao n cap, .slice bo m bcap] #[.int .i64 0, .int .i64 0, .slice none 0 0, .slice none 0 0]
  have HI := hid (hI.stays hst.below)
  have HB := hid (hB.stays hst.below)
  have HST := hid hst
  obtain ⟨A, hA⟩ : ∃ A, A = w.heap.size := ⟨_, rfl⟩
  have HA := hid hA
  rcases h with ⟨he, h, rfl, rfl, rfl, rfl, rfl, rfl⟩ | ⟨rfl, h, rfl, rfl, rfl, rfl, t, rfl, rfl, rfl, rfl⟩
  · have HV := hid h
    have e0 : (e != 0) = true := by simpa using he
    clear hI hB hst h he
    go_enter Try.func22, Try.ntmps22
    go_wp2_with fail
    refine (checked_to W H ao n cap Z bo m bcap Y hn hm t a e HV.out _ HI.out HB.out).mono ?_
    rintro r w2 ⟨rfl, hb2⟩
    have H2 := hid (HST.out.stays hb2)
    simp only [← hA] at H2 ⊢
    clear hA hb2 HST HI HB
    have r0 := cell_of_row w2 (A + 1) 0 _ _ _ H2.out.hr
    have r1 := cell_of_row w2 (A + 1) 1 _ _ _ H2.out.hr
    have r2 := cell_of_row w2 (A + 1) 2 _ _ _ H2.out.hr
    have r3 := cell_of_row w2 (A + 1) 3 _ _ _ H2.out.hr
    simp only [List.getElem?_toArray, List.getElem?_cons_zero, List.getElem?_cons_succ] at r0 r1 r2 r3
    have f0 := frozen_of_row w2 (A + 1) 0 _ _ H2.out.hr
    have f1 := frozen_of_row w2 (A + 1) 1 _ _ H2.out.hr
    have f2 := frozen_of_row w2 (A + 1) 2 _ _ H2.out.hr
    have f3 := frozen_of_row w2 (A + 1) 3 _ _ H2.out.hr
    have rz := heap_lt H2.out.hr
    go_wp2_with fail
    have k3 := set4 H2.out.hr (.int .i64 0) (.int .i64 0) (.slice none 0 0) (.slice none 0 0)
    have k4 := set4_below (g := A + 1) H2.out.below (Nat.le_succ _) (.int .i64 0) (.int .i64 0) (.slice none 0 0) (.slice none 0 0)
    clear r0 r1 r2 r3 f0 f1 f2 f3
    generalize World.setCell _ _ _ = wz at k3 k4 ⊢
    have q0 := cell_of_row wz (A + 1) 0 _ _ _ k3
    have q1 := cell_of_row wz (A + 1) 1 _ _ _ k3
    have q2 := cell_of_row wz (A + 1) 2 _ _ _ k3
    have q3 := cell_of_row wz (A + 1) 3 _ _ _ k3
    simp only [List.getElem?_toArray, List.getElem?_cons_zero, List.getElem?_cons_succ] at q0 q1 q2 q3
    exact bodyPost_ret (v := (.tuple #[rnil, .int .i64 0, .int .i64 e])) (by simp [results, Try.results22, go_sem, q0, q1, q2, q3]) rfl (out_zero (by rw [← HA.out]; exact k4))
  · obtain ⟨hR, ht, ha⟩ := h.right
    have HV := hid h
    have HR := hid hR
    have hn2 := hR.small
    have ht1 : t < n := by omega
    have HT := hid ht1
    have HAA := hid ha
    have HZB := hid (hR.args.fine t ht1).1
    obtain ⟨gi, off, rfl, hgz, hct⟩ := ints_cell hI ht1
    have HCT := hid hct
    have HI0 := hid hI
    have HSB : Hid (∀ k, k ≤ 4 → 0 ≤ arm false (Z t) a k ∧ arm false (Z t) a k ≤ 15 ∧ 0 ≤ cnt false (Z t) a k ∧ cnt false (Z t) a k ≤ 4 ∧ 0 ≤ sel false (Z t) a k) := hid (fun k hk => by
      obtain ⟨q1, q2, q3, q4, q5, q6, _⟩ := sel_bd (b := false) (z := Z t) (a := a) (hR.args.fine t ht1).1 ha hk
      have hz := (hR.args.fine t ht1).1
      first
        | (have q7 := q5 rfl; unfold arm; simp; omega)
        | (have q7 := q6 rfl; unfold arm; simp; omega))
    clear hR h ha hI hB hst hct
    have t1 : (0 : Int) ≤ (t : Int) := by omega
    have t2 : (t : Int) < (n : Int) := by omega
    go_enter Try.func22, Try.ntmps22
    go_wp2_with fail
    refine (checked_to W H _ n cap Z bo n bcap Y hn hn t a 0 HV.out _ HI.out HB.out).mono ?_
    rintro r w2 ⟨rfl, hb2⟩
    have H2 := hid (HST.out.stays hb2)
    have HI2 := hid (HI.out.stays hb2)
    have HB2 := hid (HB.out.stays hb2)
    simp only [← hA] at H2 ⊢
    clear hA hb2 HST HI HB
    have b0 := cell_of_row w2 A 0 _ _ _ H2.out.hb
    have b1 := cell_of_row w2 A 1 _ _ _ H2.out.hb
    have b2 := cell_of_row w2 A 2 _ _ _ H2.out.hb
    have b3 := cell_of_row w2 A 3 _ _ _ H2.out.hb
    simp only [List.getElem?_toArray, List.getElem?_cons_zero, List.getElem?_cons_succ] at b0 b1 b2 b3
    have bz := heap_lt H2.out.hb
    go_wp2_with fail
    refine (copy_any W H _ n cap Z bo bcap Y (by omega) (by omega) _ HI2.out HB2.out).mono ?_
    rintro r w3 ⟨g, c, k', d, rfl, hg, hk, hgk, hb3⟩
    have H3 := hid (H2.out.stays hb3)
    have HL0 : Hid (LS A w3.heap.size g c k' d n #[.int .i64 W, .int .i64 H, .slice (some ⟨gi, off, none⟩) n cap, .slice bo n bcap] W H Z Y w (w3.alloc (.cells #[.int .i64 W, .int .i64 H, .slice (some ⟨g, 0, none⟩) n c, .slice (some ⟨k', 0, none⟩) n d] 24))) :=
      hid (ls_alloc H3.out (row_mono (base' := A) hg (by have := heap_lt H2.out.hr; omega)) (row_mono (base' := A) hk (by have := heap_lt H2.out.hr; omega)) (by have := (hg.lt g rfl).1; have := heap_lt H2.out.hr; omega) (by have := (hk.lt k' rfl).1; have := heap_lt H2.out.hr; omega) hgk)
    obtain ⟨C, hC⟩ : ∃ C, C = w3.heap.size := ⟨_, rfl⟩
    have HC0 := hid hC
    simp only [← hC] at HL0
    clear hg hk hb3 H2 HI2 HB2 b0 b1 b2 b3 bz H3
    go_wp2_with fail
    simp only [← hC]
    clear hC
    generalize World.alloc _ _ = w4 at HL0 ⊢
    rw [show Z = armZ false Z t a 0 from (armZ_zero _ _ _ _).symm, show Y = armY false Z Y t a 0 from (armY_zero _ _ _ _ _).symm] at HL0
    simp only [armZ_zero, armY_zero] at HL0
    have HL1 : Hid (LS A C g c k' d n #[.int .i64 W, .int .i64 H, .slice (some ⟨gi, off, none⟩) n cap, .slice bo n bcap] W H (armZ false Z t a 0) (armY false Z Y t a 0) w w4) := hid (by rw [armZ_zero, armY_zero]; exact HL0.out)
    clear HL0
    go_loopw [23, 11] (fun iv cv wr => ∃ (k : Nat) (p : Int), k ≤ 4 ∧ iv = .int .i64 k ∧ cv = .int .i64 (p * 150) ∧ Hid (p = cnt false (Z t) a k) ∧ Hid (LS A C g c k' d n #[.int .i64 W, .int .i64 H, .slice (some ⟨gi, off, none⟩) n cap, .slice bo n bcap] W H (armZ false Z t a k) (armY false Z Y t a k) w wr)) (fun iv _ _ => 4 - (intOf iv).toNat)
    case atStart => exact ⟨0, 0, by omega, rfl, by simp, hid rfl, HL1⟩
    case round =>
      obtain ⟨k, p, hk, rfl, rfl, HP, HL⟩ := hrel
      clear HL1
      have hsb := HSB.out k hk
      obtain ⟨y, hy⟩ : ∃ y, y = arm false (Z t) a k := ⟨_, rfl⟩
      rw [← hy, ← HP.out] at hsb
      obtain ⟨y0, y1, p0, p1, hse⟩ := hsb
      have HSE := hid hse
      have HYA := hid hy
      have hcg : armZ false Z t a k t = y := by rw [arm_at, hy]
      obtain ⟨c2, c3, cg, fg, sg⟩ := HL.out.g_at HT.out
      obtain ⟨_, _, ck, fk, sk⟩ := HL.out.k_at HT.out
      rw [hcg] at cg
      have ng := HL.out.ng.1
      have nk := HL.out.nk.1
      have b2 := cell_of_row wr A 2 _ _ _ HL.out.hb
      simp only [List.getElem?_toArray, List.getElem?_cons_zero, List.getElem?_cons_succ] at b2
      have bz := heap_lt HL.out.hb
      have ct := (HL.out.below.cell (p := ⟨gi, off + t, none⟩) (by rw [HA.out]; exact hgz)).trans HCT.out
      obtain ⟨z, hz⟩ : ∃ z, z = Z t := ⟨_, rfl⟩
      have HZZ := hid hz
      have HZB2 := HZB
      rw [← hz] at ct HZB2
      obtain ⟨x, hx⟩ : ∃ x, x = armY false Z Y t a k t := ⟨_, rfl⟩
      rw [← hx] at ck
      clear hy hse hcg hz hx
      obtain rfl | rfl | rfl | rfl | rfl : k = 0 ∨ k = 1 ∨ k = 2 ∨ k = 3 ∨ k = 4 := by omega
      · cases h1 : has a 0
        · have HB1 := hid h1
          clear h1
          go_wp2_with (go_at_call 51; with_reducible refine (has_any a 0 HAA.out (by decide) false HB1.out _).mono ?_; rintro e w' ⟨rfl, rfl⟩)
          go_roundw
          case rel => exact ⟨1, p, by omega, rfl, rfl, hid (by rw [HP.out]; exact (sel_no (k := 0) (fun h => by have := h.1; rw [show has a (0 : Nat) = false from HB1.out] at this; cases this)).2.symm), hid (by rw [show (1 : Nat) = 0 + 1 from rfl, (arm_no (k := 0) (Y := Y) (fun h => by have := h.1; rw [show has a (0 : Nat) = false from HB1.out] at this; cases this)).1, (arm_no (k := 0) (Y := Y) (fun h => by have := h.1; rw [show has a (0 : Nat) = false from HB1.out] at this; cases this)).2]; exact HL.out)⟩
          case measure => simp [intOf]
        · have HB1 := hid h1
          clear h1
          cases h2 : has z 0
          · have HB2 := hid h2
            clear h2
            go_wp2_with (first | (go_at_call 51; with_reducible refine (has_any a 0 HAA.out (by decide) true HB1.out _).mono ?_; rintro e w' ⟨rfl, rfl⟩) | (go_at_call 51; with_reducible refine (has_any z 0 HZB2.out (by decide) false HB2.out _).mono ?_; rintro e w' ⟨rfl, rfl⟩))
            go_roundw
            case rel =>
              refine ⟨1, p + 1, by omega, rfl, by rw [Int.add_mul, Int.one_mul], hid (by rw [HP.out]; exact (sel_yes (k := 0) (show has a 0 = true ∧ has (Z t) 0 = false from ⟨HB1.out, by rw [← HZZ.out]; exact HB2.out⟩)).2.symm), hid ?_⟩
              have e1 := arm_yes (b := false) (Z := Z) (Y := Y) (t := t) (a := a) (k := 0) (show has a 0 = true ∧ has (Z t) 0 = false from ⟨HB1.out, by rw [← HZZ.out]; exact HB2.out⟩) HSE.out
              rw [show (1 : Nat) = 0 + 1 from rfl, e1.1, e1.2, ← HYA.out]
              exact (HL.out.setG t (y + 1)).setK t 0
            case measure => simp [intOf]
          · have HB2 := hid h2
            clear h2
            go_wp2_with (first | (go_at_call 51; with_reducible refine (has_any a 0 HAA.out (by decide) true HB1.out _).mono ?_; rintro e w' ⟨rfl, rfl⟩) | (go_at_call 51; with_reducible refine (has_any z 0 HZB2.out (by decide) true HB2.out _).mono ?_; rintro e w' ⟨rfl, rfl⟩))
            go_roundw
            case rel => exact ⟨1, p, by omega, rfl, rfl, hid (by rw [HP.out]; exact (sel_no (k := 0) (fun h => by have := h.2; rw [← HZZ.out, show has z (0 : Nat) = true from HB2.out] at this; cases this)).2.symm), hid (by rw [show (1 : Nat) = 0 + 1 from rfl, (arm_no (k := 0) (Y := Y) (fun h => by have := h.2; rw [← HZZ.out, show has z (0 : Nat) = true from HB2.out] at this; cases this)).1, (arm_no (k := 0) (Y := Y) (fun h => by have := h.2; rw [← HZZ.out, show has z (0 : Nat) = true from HB2.out] at this; cases this)).2]; exact HL.out)⟩
            case measure => simp [intOf]
      · cases h1 : has a 1
        · have HB1 := hid h1
          clear h1
          go_wp2_with (go_at_call 51; with_reducible refine (has_any a 1 HAA.out (by decide) false HB1.out _).mono ?_; rintro e w' ⟨rfl, rfl⟩)
          go_roundw
          case rel => exact ⟨2, p, by omega, rfl, rfl, hid (by rw [HP.out]; exact (sel_no (k := 1) (fun h => by have := h.1; rw [show has a (1 : Nat) = false from HB1.out] at this; cases this)).2.symm), hid (by rw [show (2 : Nat) = 1 + 1 from rfl, (arm_no (k := 1) (Y := Y) (fun h => by have := h.1; rw [show has a (1 : Nat) = false from HB1.out] at this; cases this)).1, (arm_no (k := 1) (Y := Y) (fun h => by have := h.1; rw [show has a (1 : Nat) = false from HB1.out] at this; cases this)).2]; exact HL.out)⟩
          case measure => simp [intOf]
        · have HB1 := hid h1
          clear h1
          cases h2 : has z 1
          · have HB2 := hid h2
            clear h2
            go_wp2_with (first | (go_at_call 51; with_reducible refine (has_any a 1 HAA.out (by decide) true HB1.out _).mono ?_; rintro e w' ⟨rfl, rfl⟩) | (go_at_call 51; with_reducible refine (has_any z 1 HZB2.out (by decide) false HB2.out _).mono ?_; rintro e w' ⟨rfl, rfl⟩))
            go_roundw
            case rel =>
              refine ⟨2, p + 1, by omega, rfl, by rw [Int.add_mul, Int.one_mul], hid (by rw [HP.out]; exact (sel_yes (k := 1) (show has a 1 = true ∧ has (Z t) 1 = false from ⟨HB1.out, by rw [← HZZ.out]; exact HB2.out⟩)).2.symm), hid ?_⟩
              have e1 := arm_yes (b := false) (Z := Z) (Y := Y) (t := t) (a := a) (k := 1) (show has a 1 = true ∧ has (Z t) 1 = false from ⟨HB1.out, by rw [← HZZ.out]; exact HB2.out⟩) HSE.out
              rw [show (2 : Nat) = 1 + 1 from rfl, e1.1, e1.2, ← HYA.out]
              exact (HL.out.setG t (y + 2)).setK t 0
            case measure => simp [intOf]
          · have HB2 := hid h2
            clear h2
            go_wp2_with (first | (go_at_call 51; with_reducible refine (has_any a 1 HAA.out (by decide) true HB1.out _).mono ?_; rintro e w' ⟨rfl, rfl⟩) | (go_at_call 51; with_reducible refine (has_any z 1 HZB2.out (by decide) true HB2.out _).mono ?_; rintro e w' ⟨rfl, rfl⟩))
            go_roundw
            case rel => exact ⟨2, p, by omega, rfl, rfl, hid (by rw [HP.out]; exact (sel_no (k := 1) (fun h => by have := h.2; rw [← HZZ.out, show has z (1 : Nat) = true from HB2.out] at this; cases this)).2.symm), hid (by rw [show (2 : Nat) = 1 + 1 from rfl, (arm_no (k := 1) (Y := Y) (fun h => by have := h.2; rw [← HZZ.out, show has z (1 : Nat) = true from HB2.out] at this; cases this)).1, (arm_no (k := 1) (Y := Y) (fun h => by have := h.2; rw [← HZZ.out, show has z (1 : Nat) = true from HB2.out] at this; cases this)).2]; exact HL.out)⟩
            case measure => simp [intOf]
      · cases h1 : has a 2
        · have HB1 := hid h1
          clear h1
          go_wp2_with (go_at_call 51; with_reducible refine (has_any a 2 HAA.out (by decide) false HB1.out _).mono ?_; rintro e w' ⟨rfl, rfl⟩)
          go_roundw
          case rel => exact ⟨3, p, by omega, rfl, rfl, hid (by rw [HP.out]; exact (sel_no (k := 2) (fun h => by have := h.1; rw [show has a (2 : Nat) = false from HB1.out] at this; cases this)).2.symm), hid (by rw [show (3 : Nat) = 2 + 1 from rfl, (arm_no (k := 2) (Y := Y) (fun h => by have := h.1; rw [show has a (2 : Nat) = false from HB1.out] at this; cases this)).1, (arm_no (k := 2) (Y := Y) (fun h => by have := h.1; rw [show has a (2 : Nat) = false from HB1.out] at this; cases this)).2]; exact HL.out)⟩
          case measure => simp [intOf]
        · have HB1 := hid h1
          clear h1
          cases h2 : has z 2
          · have HB2 := hid h2
            clear h2
            go_wp2_with (first | (go_at_call 51; with_reducible refine (has_any a 2 HAA.out (by decide) true HB1.out _).mono ?_; rintro e w' ⟨rfl, rfl⟩) | (go_at_call 51; with_reducible refine (has_any z 2 HZB2.out (by decide) false HB2.out _).mono ?_; rintro e w' ⟨rfl, rfl⟩))
            go_roundw
            case rel =>
              refine ⟨3, p + 1, by omega, rfl, by rw [Int.add_mul, Int.one_mul], hid (by rw [HP.out]; exact (sel_yes (k := 2) (show has a 2 = true ∧ has (Z t) 2 = false from ⟨HB1.out, by rw [← HZZ.out]; exact HB2.out⟩)).2.symm), hid ?_⟩
              have e1 := arm_yes (b := false) (Z := Z) (Y := Y) (t := t) (a := a) (k := 2) (show has a 2 = true ∧ has (Z t) 2 = false from ⟨HB1.out, by rw [← HZZ.out]; exact HB2.out⟩) HSE.out
              rw [show (3 : Nat) = 2 + 1 from rfl, e1.1, e1.2, ← HYA.out]
              exact (HL.out.setG t (y + 4)).setK t 0
            case measure => simp [intOf]
          · have HB2 := hid h2
            clear h2
            go_wp2_with (first | (go_at_call 51; with_reducible refine (has_any a 2 HAA.out (by decide) true HB1.out _).mono ?_; rintro e w' ⟨rfl, rfl⟩) | (go_at_call 51; with_reducible refine (has_any z 2 HZB2.out (by decide) true HB2.out _).mono ?_; rintro e w' ⟨rfl, rfl⟩))
            go_roundw
            case rel => exact ⟨3, p, by omega, rfl, rfl, hid (by rw [HP.out]; exact (sel_no (k := 2) (fun h => by have := h.2; rw [← HZZ.out, show has z (2 : Nat) = true from HB2.out] at this; cases this)).2.symm), hid (by rw [show (3 : Nat) = 2 + 1 from rfl, (arm_no (k := 2) (Y := Y) (fun h => by have := h.2; rw [← HZZ.out, show has z (2 : Nat) = true from HB2.out] at this; cases this)).1, (arm_no (k := 2) (Y := Y) (fun h => by have := h.2; rw [← HZZ.out, show has z (2 : Nat) = true from HB2.out] at this; cases this)).2]; exact HL.out)⟩
            case measure => simp [intOf]
      · cases h1 : has a 3
        · have HB1 := hid h1
          clear h1
          go_wp2_with (go_at_call 51; with_reducible refine (has_any a 3 HAA.out (by decide) false HB1.out _).mono ?_; rintro e w' ⟨rfl, rfl⟩)
          go_roundw
          case rel => exact ⟨4, p, by omega, rfl, rfl, hid (by rw [HP.out]; exact (sel_no (k := 3) (fun h => by have := h.1; rw [show has a (3 : Nat) = false from HB1.out] at this; cases this)).2.symm), hid (by rw [show (4 : Nat) = 3 + 1 from rfl, (arm_no (k := 3) (Y := Y) (fun h => by have := h.1; rw [show has a (3 : Nat) = false from HB1.out] at this; cases this)).1, (arm_no (k := 3) (Y := Y) (fun h => by have := h.1; rw [show has a (3 : Nat) = false from HB1.out] at this; cases this)).2]; exact HL.out)⟩
          case measure => simp [intOf]
        · have HB1 := hid h1
          clear h1
          cases h2 : has z 3
          · have HB2 := hid h2
            clear h2
            go_wp2_with (first | (go_at_call 51; with_reducible refine (has_any a 3 HAA.out (by decide) true HB1.out _).mono ?_; rintro e w' ⟨rfl, rfl⟩) | (go_at_call 51; with_reducible refine (has_any z 3 HZB2.out (by decide) false HB2.out _).mono ?_; rintro e w' ⟨rfl, rfl⟩))
            go_roundw
            case rel =>
              refine ⟨4, p + 1, by omega, rfl, by rw [Int.add_mul, Int.one_mul], hid (by rw [HP.out]; exact (sel_yes (k := 3) (show has a 3 = true ∧ has (Z t) 3 = false from ⟨HB1.out, by rw [← HZZ.out]; exact HB2.out⟩)).2.symm), hid ?_⟩
              have e1 := arm_yes (b := false) (Z := Z) (Y := Y) (t := t) (a := a) (k := 3) (show has a 3 = true ∧ has (Z t) 3 = false from ⟨HB1.out, by rw [← HZZ.out]; exact HB2.out⟩) HSE.out
              rw [show (4 : Nat) = 3 + 1 from rfl, e1.1, e1.2, ← HYA.out]
              exact (HL.out.setG t (y + 8)).setK t 0
            case measure => simp [intOf]
          · have HB2 := hid h2
            clear h2
            go_wp2_with (first | (go_at_call 51; with_reducible refine (has_any a 3 HAA.out (by decide) true HB1.out _).mono ?_; rintro e w' ⟨rfl, rfl⟩) | (go_at_call 51; with_reducible refine (has_any z 3 HZB2.out (by decide) true HB2.out _).mono ?_; rintro e w' ⟨rfl, rfl⟩))
            go_roundw
            case rel => exact ⟨4, p, by omega, rfl, rfl, hid (by rw [HP.out]; exact (sel_no (k := 3) (fun h => by have := h.2; rw [← HZZ.out, show has z (3 : Nat) = true from HB2.out] at this; cases this)).2.symm), hid (by rw [show (4 : Nat) = 3 + 1 from rfl, (arm_no (k := 3) (Y := Y) (fun h => by have := h.2; rw [← HZZ.out, show has z (3 : Nat) = true from HB2.out] at this; cases this)).1, (arm_no (k := 3) (Y := Y) (fun h => by have := h.2; rw [← HZZ.out, show has z (3 : Nat) = true from HB2.out] at this; cases this)).2]; exact HL.out)⟩
            case measure => simp [intOf]
      · clear c2 c3 cg fg sg ck fk sk b2 bz ct ng nk
        obtain ⟨b0, b1, b2, b3, bz⟩ := HL.out.box
        obtain ⟨⟨r0, r1, r2, r3⟩, ⟨f0, f1, f2, f3⟩, rz⟩ := HL.out.res
        have nC := HL.out.no.1
        go_wp2_with fail
        obtain ⟨k3, k4, k5, k6⟩ := HL.out.done rfl rfl rfl rfl
        clear b0 b1 b2 b3 r0 r1 r2 r3 f0 f1 f2 f3
        generalize World.setCell _ _ _ = wz at k3 k4 k5 k6 ⊢
        have q0 := cell_of_row wz (A + 1) 0 _ _ _ k3
        have q1 := cell_of_row wz (A + 1) 1 _ _ _ k3
        have q2 := cell_of_row wz (A + 1) 2 _ _ _ k3
        have q3 := cell_of_row wz (A + 1) 3 _ _ _ k3
        simp only [List.getElem?_toArray, List.getElem?_cons_zero, List.getElem?_cons_succ] at q0 q1 q2 q3
        refine bodyPost_ret (v := .tuple #[rv W H (.slice (some ⟨g, 0, none⟩) n c) (.slice (some ⟨k', 0, none⟩) n d), .int .i64 (p * 150), .int .i64 0]) (by simp [results, Try.results22, go_sem, q0, q1, q2, q3]) rfl ?_
        rw [← HP.out]
        exact ⟨_, c, _, d, rfl, vals_of_row k5, vals_of_row k6, by rw [← HA.out]; exact k4⟩

set_option maxRecDepth 100000 in
set_option maxHeartbeats 12800000 in
theorem reftear_to (W H : Int) (ao : Option Addr) (n cap : Nat) (Z : Nat → Int) (bo : Option Addr) (m bcap : Nat) (Y : Nat → Int) (hn : n ≤ 9223372036854775807) (hm : m ≤ 9223372036854775807) (t a : Int) {W' H' : Int} {n' : Nat} {Z' Y' : Nat → Int} {c e : Int}
    (h : PaveIs true 75 W H n m Z Y t a W' H' n' Z' Y' c e) (w : World) (hI : Ints w ao n Z) (hB : Ints w bo m Y) :
    Calls Try.prog 25 #[rv W H (.slice ao n cap) (.slice bo m bcap), .int .i64 t, .int .i64 a] w (Out3 W' H' n' Z' Y' c e w) := by
  have hst := bx2_start w 24 24 #[.int .i64 W, .int .i64 H, .slice ao n cap, .slice bo m bcap] #[.int .i64 0, .int .i64 0, .slice none 0 0, .slice none 0 0]
  have HI := hid (hI.stays hst.below)
  have HB := hid (hB.stays hst.below)
  have HST := hid hst
  obtain ⟨A, hA⟩ : ∃ A, A = w.heap.size := ⟨_, rfl⟩
  have HA := hid hA
  rcases h with ⟨he, h, rfl, rfl, rfl, rfl, rfl, rfl⟩ | ⟨rfl, h, rfl, rfl, rfl, rfl, t, rfl, rfl, rfl, rfl⟩
  · have HV := hid h
    have e0 : (e != 0) = true := by simpa using he
    clear hI hB hst h he
    go_enter Try.func25, Try.ntmps25
    go_wp2_with fail
    refine (checked_to W H ao n cap Z bo m bcap Y hn hm t a e HV.out _ HI.out HB.out).mono ?_
    rintro r w2 ⟨rfl, hb2⟩
    have H2 := hid (HST.out.stays hb2)
    simp only [← hA] at H2 ⊢
    clear hA hb2 HST HI HB
    have r0 := cell_of_row w2 (A + 1) 0 _ _ _ H2.out.hr
    have r1 := cell_of_row w2 (A + 1) 1 _ _ _ H2.out.hr
    have r2 := cell_of_row w2 (A + 1) 2 _ _ _ H2.out.hr
    have r3 := cell_of_row w2 (A + 1) 3 _ _ _ H2.out.hr
    simp only [List.getElem?_toArray, List.getElem?_cons_zero, List.getElem?_cons_succ] at r0 r1 r2 r3
    have f0 := frozen_of_row w2 (A + 1) 0 _ _ H2.out.hr
    have f1 := frozen_of_row w2 (A + 1) 1 _ _ H2.out.hr
    have f2 := frozen_of_row w2 (A + 1) 2 _ _ H2.out.hr
    have f3 := frozen_of_row w2 (A + 1) 3 _ _ H2.out.hr
    have rz := heap_lt H2.out.hr
    go_wp2_with fail
    have k3 := set4 H2.out.hr (.int .i64 0) (.int .i64 0) (.slice none 0 0) (.slice none 0 0)
    have k4 := set4_below (g := A + 1) H2.out.below (Nat.le_succ _) (.int .i64 0) (.int .i64 0) (.slice none 0 0) (.slice none 0 0)
    clear r0 r1 r2 r3 f0 f1 f2 f3
    generalize World.setCell _ _ _ = wz at k3 k4 ⊢
    have q0 := cell_of_row wz (A + 1) 0 _ _ _ k3
    have q1 := cell_of_row wz (A + 1) 1 _ _ _ k3
    have q2 := cell_of_row wz (A + 1) 2 _ _ _ k3
    have q3 := cell_of_row wz (A + 1) 3 _ _ _ k3
    simp only [List.getElem?_toArray, List.getElem?_cons_zero, List.getElem?_cons_succ] at q0 q1 q2 q3
    exact bodyPost_ret (v := (.tuple #[rnil, .int .i64 0, .int .i64 e])) (by simp [results, Try.results25, go_sem, q0, q1, q2, q3]) rfl (out_zero (by rw [← HA.out]; exact k4))
  · obtain ⟨hR, ht, ha⟩ := h.right
    have HV := hid h
    have HR := hid hR
    have hn2 := hR.small
    have ht1 : t < n := by omega
    have HT := hid ht1
    have HAA := hid ha
    have HZB := hid (hR.args.fine t ht1).1
    obtain ⟨gi, off, rfl, hgz, hct⟩ := ints_cell hI ht1
    have HCT := hid hct
    have HI0 := hid hI
    have HSB : Hid (∀ k, k ≤ 4 → 0 ≤ arm true (Z t) a k ∧ arm true (Z t) a k ≤ 15 ∧ 0 ≤ cnt true (Z t) a k ∧ cnt true (Z t) a k ≤ 4 ∧ 0 ≤ sel true (Z t) a k) := hid (fun k hk => by
      obtain ⟨q1, q2, q3, q4, q5, q6, _⟩ := sel_bd (b := true) (z := Z t) (a := a) (hR.args.fine t ht1).1 ha hk
      have hz := (hR.args.fine t ht1).1
      first
        | (have q7 := q5 rfl; unfold arm; simp; omega)
        | (have q7 := q6 rfl; unfold arm; simp; omega))
    clear hR h ha hI hB hst hct
    have t1 : (0 : Int) ≤ (t : Int) := by omega
    have t2 : (t : Int) < (n : Int) := by omega
    go_enter Try.func25, Try.ntmps25
    go_wp2_with fail
    refine (checked_to W H _ n cap Z bo n bcap Y hn hn t a 0 HV.out _ HI.out HB.out).mono ?_
    rintro r w2 ⟨rfl, hb2⟩
    have H2 := hid (HST.out.stays hb2)
    have HI2 := hid (HI.out.stays hb2)
    have HB2 := hid (HB.out.stays hb2)
    simp only [← hA] at H2 ⊢
    clear hA hb2 HST HI HB
    have b0 := cell_of_row w2 A 0 _ _ _ H2.out.hb
    have b1 := cell_of_row w2 A 1 _ _ _ H2.out.hb
    have b2 := cell_of_row w2 A 2 _ _ _ H2.out.hb
    have b3 := cell_of_row w2 A 3 _ _ _ H2.out.hb
    simp only [List.getElem?_toArray, List.getElem?_cons_zero, List.getElem?_cons_succ] at b0 b1 b2 b3
    have bz := heap_lt H2.out.hb
    go_wp2_with fail
    refine (copy_any W H _ n cap Z bo bcap Y (by omega) (by omega) _ HI2.out HB2.out).mono ?_
    rintro r w3 ⟨g, c, k', d, rfl, hg, hk, hgk, hb3⟩
    have H3 := hid (H2.out.stays hb3)
    have HL0 : Hid (LS A w3.heap.size g c k' d n #[.int .i64 W, .int .i64 H, .slice (some ⟨gi, off, none⟩) n cap, .slice bo n bcap] W H Z Y w (w3.alloc (.cells #[.int .i64 W, .int .i64 H, .slice (some ⟨g, 0, none⟩) n c, .slice (some ⟨k', 0, none⟩) n d] 24))) :=
      hid (ls_alloc H3.out (row_mono (base' := A) hg (by have := heap_lt H2.out.hr; omega)) (row_mono (base' := A) hk (by have := heap_lt H2.out.hr; omega)) (by have := (hg.lt g rfl).1; have := heap_lt H2.out.hr; omega) (by have := (hk.lt k' rfl).1; have := heap_lt H2.out.hr; omega) hgk)
    obtain ⟨C, hC⟩ : ∃ C, C = w3.heap.size := ⟨_, rfl⟩
    have HC0 := hid hC
    simp only [← hC] at HL0
    clear hg hk hb3 H2 HI2 HB2 b0 b1 b2 b3 bz H3
    go_wp2_with fail
    simp only [← hC]
    clear hC
    generalize World.alloc _ _ = w4 at HL0 ⊢
    rw [show Z = armZ true Z t a 0 from (armZ_zero _ _ _ _).symm, show Y = armY true Z Y t a 0 from (armY_zero _ _ _ _ _).symm] at HL0
    simp only [armZ_zero, armY_zero] at HL0
    have HL1 : Hid (LS A C g c k' d n #[.int .i64 W, .int .i64 H, .slice (some ⟨gi, off, none⟩) n cap, .slice bo n bcap] W H (armZ true Z t a 0) (armY true Z Y t a 0) w w4) := hid (by rw [armZ_zero, armY_zero]; exact HL0.out)
    clear HL0
    go_loopw [23, 11] (fun iv cv wr => ∃ (k : Nat) (p : Int), k ≤ 4 ∧ iv = .int .i64 k ∧ cv = .int .i64 (p * 75) ∧ Hid (p = cnt true (Z t) a k) ∧ Hid (LS A C g c k' d n #[.int .i64 W, .int .i64 H, .slice (some ⟨gi, off, none⟩) n cap, .slice bo n bcap] W H (armZ true Z t a k) (armY true Z Y t a k) w wr)) (fun iv _ _ => 4 - (intOf iv).toNat)
    case atStart => exact ⟨0, 0, by omega, rfl, by simp, hid rfl, HL1⟩
    case round =>
      obtain ⟨k, p, hk, rfl, rfl, HP, HL⟩ := hrel
      clear HL1
      have hsb := HSB.out k hk
      obtain ⟨y, hy⟩ : ∃ y, y = arm true (Z t) a k := ⟨_, rfl⟩
      rw [← hy, ← HP.out] at hsb
      obtain ⟨y0, y1, p0, p1, hse⟩ := hsb
      have HSE := hid hse
      have HYA := hid hy
      have hcg : armZ true Z t a k t = y := by rw [arm_at, hy]
      obtain ⟨c2, c3, cg, fg, sg⟩ := HL.out.g_at HT.out
      obtain ⟨_, _, ck, fk, sk⟩ := HL.out.k_at HT.out
      rw [hcg] at cg
      have ng := HL.out.ng.1
      have nk := HL.out.nk.1
      have b2 := cell_of_row wr A 2 _ _ _ HL.out.hb
      simp only [List.getElem?_toArray, List.getElem?_cons_zero, List.getElem?_cons_succ] at b2
      have bz := heap_lt HL.out.hb
      have ct := (HL.out.below.cell (p := ⟨gi, off + t, none⟩) (by rw [HA.out]; exact hgz)).trans HCT.out
      obtain ⟨z, hz⟩ : ∃ z, z = Z t := ⟨_, rfl⟩
      have HZZ := hid hz
      have HZB2 := HZB
      rw [← hz] at ct HZB2
      obtain ⟨x, hx⟩ : ∃ x, x = armY true Z Y t a k t := ⟨_, rfl⟩
      rw [← hx] at ck
      clear hy hse hcg hz hx
      obtain rfl | rfl | rfl | rfl | rfl : k = 0 ∨ k = 1 ∨ k = 2 ∨ k = 3 ∨ k = 4 := by omega
      · cases h1 : has a 0
        · have HB1 := hid h1
          clear h1
          go_wp2_with (go_at_call 51; with_reducible refine (has_any a 0 HAA.out (by decide) false HB1.out _).mono ?_; rintro e w' ⟨rfl, rfl⟩)
          go_roundw
          case rel => exact ⟨1, p, by omega, rfl, rfl, hid (by rw [HP.out]; exact (sel_no (k := 0) (fun h => by have := h.1; rw [show has a (0 : Nat) = false from HB1.out] at this; cases this)).2.symm), hid (by rw [show (1 : Nat) = 0 + 1 from rfl, (arm_no (k := 0) (Y := Y) (fun h => by have := h.1; rw [show has a (0 : Nat) = false from HB1.out] at this; cases this)).1, (arm_no (k := 0) (Y := Y) (fun h => by have := h.1; rw [show has a (0 : Nat) = false from HB1.out] at this; cases this)).2]; exact HL.out)⟩
          case measure => simp [intOf]
        · have HB1 := hid h1
          clear h1
          cases h2 : has z 0
          · have HB2 := hid h2
            clear h2
            go_wp2_with (first | (go_at_call 51; with_reducible refine (has_any a 0 HAA.out (by decide) true HB1.out _).mono ?_; rintro e w' ⟨rfl, rfl⟩) | (go_at_call 51; with_reducible refine (has_any z 0 HZB2.out (by decide) false HB2.out _).mono ?_; rintro e w' ⟨rfl, rfl⟩))
            go_roundw
            case rel => exact ⟨1, p, by omega, rfl, rfl, hid (by rw [HP.out]; exact (sel_no (k := 0) (fun h => by have := h.2; rw [← HZZ.out, show has z (0 : Nat) = false from HB2.out] at this; cases this)).2.symm), hid (by rw [show (1 : Nat) = 0 + 1 from rfl, (arm_no (k := 0) (Y := Y) (fun h => by have := h.2; rw [← HZZ.out, show has z (0 : Nat) = false from HB2.out] at this; cases this)).1, (arm_no (k := 0) (Y := Y) (fun h => by have := h.2; rw [← HZZ.out, show has z (0 : Nat) = false from HB2.out] at this; cases this)).2]; exact HL.out)⟩
            case measure => simp [intOf]
          · have HB2 := hid h2
            clear h2
            go_wp2_with (first | (go_at_call 51; with_reducible refine (has_any a 0 HAA.out (by decide) true HB1.out _).mono ?_; rintro e w' ⟨rfl, rfl⟩) | (go_at_call 51; with_reducible refine (has_any z 0 HZB2.out (by decide) true HB2.out _).mono ?_; rintro e w' ⟨rfl, rfl⟩))
            go_roundw
            case rel =>
              refine ⟨1, p + 1, by omega, rfl, by rw [Int.add_mul, Int.one_mul], hid (by rw [HP.out]; exact (sel_yes (k := 0) (show has a 0 = true ∧ has (Z t) 0 = true from ⟨HB1.out, by rw [← HZZ.out]; exact HB2.out⟩)).2.symm), hid ?_⟩
              have e1 := arm_yes (b := true) (Z := Z) (Y := Y) (t := t) (a := a) (k := 0) (show has a 0 = true ∧ has (Z t) 0 = true from ⟨HB1.out, by rw [← HZZ.out]; exact HB2.out⟩) HSE.out
              rw [show (1 : Nat) = 0 + 1 from rfl, e1.1, e1.2, ← HYA.out]
              exact (HL.out.setG t (y - 1)).setK t 0
            case measure => simp [intOf]
      · cases h1 : has a 1
        · have HB1 := hid h1
          clear h1
          go_wp2_with (go_at_call 51; with_reducible refine (has_any a 1 HAA.out (by decide) false HB1.out _).mono ?_; rintro e w' ⟨rfl, rfl⟩)
          go_roundw
          case rel => exact ⟨2, p, by omega, rfl, rfl, hid (by rw [HP.out]; exact (sel_no (k := 1) (fun h => by have := h.1; rw [show has a (1 : Nat) = false from HB1.out] at this; cases this)).2.symm), hid (by rw [show (2 : Nat) = 1 + 1 from rfl, (arm_no (k := 1) (Y := Y) (fun h => by have := h.1; rw [show has a (1 : Nat) = false from HB1.out] at this; cases this)).1, (arm_no (k := 1) (Y := Y) (fun h => by have := h.1; rw [show has a (1 : Nat) = false from HB1.out] at this; cases this)).2]; exact HL.out)⟩
          case measure => simp [intOf]
        · have HB1 := hid h1
          clear h1
          cases h2 : has z 1
          · have HB2 := hid h2
            clear h2
            go_wp2_with (first | (go_at_call 51; with_reducible refine (has_any a 1 HAA.out (by decide) true HB1.out _).mono ?_; rintro e w' ⟨rfl, rfl⟩) | (go_at_call 51; with_reducible refine (has_any z 1 HZB2.out (by decide) false HB2.out _).mono ?_; rintro e w' ⟨rfl, rfl⟩))
            go_roundw
            case rel => exact ⟨2, p, by omega, rfl, rfl, hid (by rw [HP.out]; exact (sel_no (k := 1) (fun h => by have := h.2; rw [← HZZ.out, show has z (1 : Nat) = false from HB2.out] at this; cases this)).2.symm), hid (by rw [show (2 : Nat) = 1 + 1 from rfl, (arm_no (k := 1) (Y := Y) (fun h => by have := h.2; rw [← HZZ.out, show has z (1 : Nat) = false from HB2.out] at this; cases this)).1, (arm_no (k := 1) (Y := Y) (fun h => by have := h.2; rw [← HZZ.out, show has z (1 : Nat) = false from HB2.out] at this; cases this)).2]; exact HL.out)⟩
            case measure => simp [intOf]
          · have HB2 := hid h2
            clear h2
            go_wp2_with (first | (go_at_call 51; with_reducible refine (has_any a 1 HAA.out (by decide) true HB1.out _).mono ?_; rintro e w' ⟨rfl, rfl⟩) | (go_at_call 51; with_reducible refine (has_any z 1 HZB2.out (by decide) true HB2.out _).mono ?_; rintro e w' ⟨rfl, rfl⟩))
            go_roundw
            case rel =>
              refine ⟨2, p + 1, by omega, rfl, by rw [Int.add_mul, Int.one_mul], hid (by rw [HP.out]; exact (sel_yes (k := 1) (show has a 1 = true ∧ has (Z t) 1 = true from ⟨HB1.out, by rw [← HZZ.out]; exact HB2.out⟩)).2.symm), hid ?_⟩
              have e1 := arm_yes (b := true) (Z := Z) (Y := Y) (t := t) (a := a) (k := 1) (show has a 1 = true ∧ has (Z t) 1 = true from ⟨HB1.out, by rw [← HZZ.out]; exact HB2.out⟩) HSE.out
              rw [show (2 : Nat) = 1 + 1 from rfl, e1.1, e1.2, ← HYA.out]
              exact (HL.out.setG t (y - 2)).setK t 0
            case measure => simp [intOf]
      · cases h1 : has a 2
        · have HB1 := hid h1
          clear h1
          go_wp2_with (go_at_call 51; with_reducible refine (has_any a 2 HAA.out (by decide) false HB1.out _).mono ?_; rintro e w' ⟨rfl, rfl⟩)
          go_roundw
          case rel => exact ⟨3, p, by omega, rfl, rfl, hid (by rw [HP.out]; exact (sel_no (k := 2) (fun h => by have := h.1; rw [show has a (2 : Nat) = false from HB1.out] at this; cases this)).2.symm), hid (by rw [show (3 : Nat) = 2 + 1 from rfl, (arm_no (k := 2) (Y := Y) (fun h => by have := h.1; rw [show has a (2 : Nat) = false from HB1.out] at this; cases this)).1, (arm_no (k := 2) (Y := Y) (fun h => by have := h.1; rw [show has a (2 : Nat) = false from HB1.out] at this; cases this)).2]; exact HL.out)⟩
          case measure => simp [intOf]
        · have HB1 := hid h1
          clear h1
          cases h2 : has z 2
          · have HB2 := hid h2
            clear h2
            go_wp2_with (first | (go_at_call 51; with_reducible refine (has_any a 2 HAA.out (by decide) true HB1.out _).mono ?_; rintro e w' ⟨rfl, rfl⟩) | (go_at_call 51; with_reducible refine (has_any z 2 HZB2.out (by decide) false HB2.out _).mono ?_; rintro e w' ⟨rfl, rfl⟩))
            go_roundw
            case rel => exact ⟨3, p, by omega, rfl, rfl, hid (by rw [HP.out]; exact (sel_no (k := 2) (fun h => by have := h.2; rw [← HZZ.out, show has z (2 : Nat) = false from HB2.out] at this; cases this)).2.symm), hid (by rw [show (3 : Nat) = 2 + 1 from rfl, (arm_no (k := 2) (Y := Y) (fun h => by have := h.2; rw [← HZZ.out, show has z (2 : Nat) = false from HB2.out] at this; cases this)).1, (arm_no (k := 2) (Y := Y) (fun h => by have := h.2; rw [← HZZ.out, show has z (2 : Nat) = false from HB2.out] at this; cases this)).2]; exact HL.out)⟩
            case measure => simp [intOf]
          · have HB2 := hid h2
            clear h2
            go_wp2_with (first | (go_at_call 51; with_reducible refine (has_any a 2 HAA.out (by decide) true HB1.out _).mono ?_; rintro e w' ⟨rfl, rfl⟩) | (go_at_call 51; with_reducible refine (has_any z 2 HZB2.out (by decide) true HB2.out _).mono ?_; rintro e w' ⟨rfl, rfl⟩))
            go_roundw
            case rel =>
              refine ⟨3, p + 1, by omega, rfl, by rw [Int.add_mul, Int.one_mul], hid (by rw [HP.out]; exact (sel_yes (k := 2) (show has a 2 = true ∧ has (Z t) 2 = true from ⟨HB1.out, by rw [← HZZ.out]; exact HB2.out⟩)).2.symm), hid ?_⟩
              have e1 := arm_yes (b := true) (Z := Z) (Y := Y) (t := t) (a := a) (k := 2) (show has a 2 = true ∧ has (Z t) 2 = true from ⟨HB1.out, by rw [← HZZ.out]; exact HB2.out⟩) HSE.out
              rw [show (3 : Nat) = 2 + 1 from rfl, e1.1, e1.2, ← HYA.out]
              exact (HL.out.setG t (y - 4)).setK t 0
            case measure => simp [intOf]
      · cases h1 : has a 3
        · have HB1 := hid h1
          clear h1
          go_wp2_with (go_at_call 51; with_reducible refine (has_any a 3 HAA.out (by decide) false HB1.out _).mono ?_; rintro e w' ⟨rfl, rfl⟩)
          go_roundw
          case rel => exact ⟨4, p, by omega, rfl, rfl, hid (by rw [HP.out]; exact (sel_no (k := 3) (fun h => by have := h.1; rw [show has a (3 : Nat) = false from HB1.out] at this; cases this)).2.symm), hid (by rw [show (4 : Nat) = 3 + 1 from rfl, (arm_no (k := 3) (Y := Y) (fun h => by have := h.1; rw [show has a (3 : Nat) = false from HB1.out] at this; cases this)).1, (arm_no (k := 3) (Y := Y) (fun h => by have := h.1; rw [show has a (3 : Nat) = false from HB1.out] at this; cases this)).2]; exact HL.out)⟩
          case measure => simp [intOf]
        · have HB1 := hid h1
          clear h1
          cases h2 : has z 3
          · have HB2 := hid h2
            clear h2
            go_wp2_with (first | (go_at_call 51; with_reducible refine (has_any a 3 HAA.out (by decide) true HB1.out _).mono ?_; rintro e w' ⟨rfl, rfl⟩) | (go_at_call 51; with_reducible refine (has_any z 3 HZB2.out (by decide) false HB2.out _).mono ?_; rintro e w' ⟨rfl, rfl⟩))
            go_roundw
            case rel => exact ⟨4, p, by omega, rfl, rfl, hid (by rw [HP.out]; exact (sel_no (k := 3) (fun h => by have := h.2; rw [← HZZ.out, show has z (3 : Nat) = false from HB2.out] at this; cases this)).2.symm), hid (by rw [show (4 : Nat) = 3 + 1 from rfl, (arm_no (k := 3) (Y := Y) (fun h => by have := h.2; rw [← HZZ.out, show has z (3 : Nat) = false from HB2.out] at this; cases this)).1, (arm_no (k := 3) (Y := Y) (fun h => by have := h.2; rw [← HZZ.out, show has z (3 : Nat) = false from HB2.out] at this; cases this)).2]; exact HL.out)⟩
            case measure => simp [intOf]
          · have HB2 := hid h2
            clear h2
            go_wp2_with (first | (go_at_call 51; with_reducible refine (has_any a 3 HAA.out (by decide) true HB1.out _).mono ?_; rintro e w' ⟨rfl, rfl⟩) | (go_at_call 51; with_reducible refine (has_any z 3 HZB2.out (by decide) true HB2.out _).mono ?_; rintro e w' ⟨rfl, rfl⟩))
            go_roundw
            case rel =>
              refine ⟨4, p + 1, by omega, rfl, by rw [Int.add_mul, Int.one_mul], hid (by rw [HP.out]; exact (sel_yes (k := 3) (show has a 3 = true ∧ has (Z t) 3 = true from ⟨HB1.out, by rw [← HZZ.out]; exact HB2.out⟩)).2.symm), hid ?_⟩
              have e1 := arm_yes (b := true) (Z := Z) (Y := Y) (t := t) (a := a) (k := 3) (show has a 3 = true ∧ has (Z t) 3 = true from ⟨HB1.out, by rw [← HZZ.out]; exact HB2.out⟩) HSE.out
              rw [show (4 : Nat) = 3 + 1 from rfl, e1.1, e1.2, ← HYA.out]
              exact (HL.out.setG t (y - 8)).setK t 0
            case measure => simp [intOf]
      · clear c2 c3 cg fg sg ck fk sk b2 bz ct ng nk
        obtain ⟨b0, b1, b2, b3, bz⟩ := HL.out.box
        obtain ⟨⟨r0, r1, r2, r3⟩, ⟨f0, f1, f2, f3⟩, rz⟩ := HL.out.res
        have nC := HL.out.no.1
        go_wp2_with fail
        obtain ⟨k3, k4, k5, k6⟩ := HL.out.done rfl rfl rfl rfl
        clear b0 b1 b2 b3 r0 r1 r2 r3 f0 f1 f2 f3
        generalize World.setCell _ _ _ = wz at k3 k4 k5 k6 ⊢
        have q0 := cell_of_row wz (A + 1) 0 _ _ _ k3
        have q1 := cell_of_row wz (A + 1) 1 _ _ _ k3
        have q2 := cell_of_row wz (A + 1) 2 _ _ _ k3
        have q3 := cell_of_row wz (A + 1) 3 _ _ _ k3
        simp only [List.getElem?_toArray, List.getElem?_cons_zero, List.getElem?_cons_succ] at q0 q1 q2 q3
        refine bodyPost_ret (v := .tuple #[rv W H (.slice (some ⟨g, 0, none⟩) n c) (.slice (some ⟨k', 0, none⟩) n d), .int .i64 (p * 75), .int .i64 0]) (by simp [results, Try.results25, go_sem, q0, q1, q2, q3]) rfl ?_
        rw [← HP.out]
        exact ⟨_, c, _, d, rfl, vals_of_row k5, vals_of_row k6, by rw [← HA.out]; exact k4⟩
end Go.Proofs.Ytaepiegbpgkciaa
