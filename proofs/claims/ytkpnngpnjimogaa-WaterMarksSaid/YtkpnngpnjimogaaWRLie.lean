/-
  The walks of lies, Wet and Validate of the reference.
-/
import Derived.Test.YtkpnngpnjimogaaWSrv2
namespace Go.Proofs.Ytkpnngpnjimogaa
open Go.RowKit

/-- The land's box alone. -/
theorem tile_no {W H : Nat} {t : Int} (h : tileB W H t = false) : ¬ ∃ u : Nat, t = u ∧ u < W * H := by
  rintro ⟨u, rfl, hu⟩
  rw [tile_yes hu] at h; cases h
theorem tile_ex {W H : Nat} {t : Int} (h : tileB W H t = true) : ∃ u : Nat, t = u ∧ u < W * H := by
  unfold tileB at h
  simp only [Bool.and_eq_true, decide_eq_true_eq] at h
  exact ⟨t.toNat, by omega, by omega⟩
/-- The reference's word on a kind. -/
def rflt (s : Bool) (sl k : Int) : Int :=
  if k = 1 ∨ k = 2 then (if s = true then 9 else if k = 1 ∧ sl ≠ 0 ∨ k = 2 ∧ up sl < 0 then 5 else 0) else if k = 3 then (if s = false ∧ sl ≠ 0 then 9 else 0) else 0
theorem rflt_flt {W : Nat} {Z : Nat → Int} {u : Nat} {k : Int} (h : k = 1 ∨ k = 2 ∨ k = 3) : rflt (sea W Z u) (slope W Z u) k = flt (sea W Z u) (gsl W Z u) k := by
  unfold rflt flt gsl
  have hb := up_bd (slope W Z u)
  cases hs : sea W Z u
  · rcases h with rfl | rfl | rfl
    · simp
    · by_cases hu : up (slope W Z u) = -1
      · simp [hu]
      · have : ¬ up (slope W Z u) < 0 := by omega
        simp [hu]; omega
    · simp
  · rcases h with rfl | rfl | rfl <;> simp
theorem rflt_zero (s : Bool) (sl : Int) : rflt s sl 0 = 0 := by unfold rflt; simp

set_option maxRecDepth 20000 in
set_option maxHeartbeats 3200000 in
theorem lies_any (W H : Nat) (ao : Option Addr) (n cap : Nat) (Z : Nat → Int) (hg : Good W H n Z) (u : Nat) (hu : u < W * H) (k e : Int) (he : e = rflt (sea W Z u) (slope W Z u) k) (w : World) (hI : Ints w ao n Z) :
    Calls Try.prog 42 #[lv W H (.slice ao n cap), .int .i64 u, .int .i64 k] w fun r w' => r = .returned (.int .i64 e) ∧ Below w.heap.size w w' := by
  have HL := hid (lb_start (W := W) (H := H) (cap := cap) hI)
  have HF := hid (fun w hI => face_any W H ao n cap Z hg u hu w hI)
  have HS := hid (fun w hI => sea_any W H ao n cap Z hg u hu w hI)
  obtain ⟨s, hs⟩ : ∃ s, s = sea W Z u := ⟨_, rfl⟩
  obtain ⟨a, ha⟩ : ∃ a, a = slope W Z u := ⟨_, rfl⟩
  obtain ⟨b, hb⟩ : ∃ a, a = base W Z u := ⟨_, rfl⟩
  rw [← ha, ← hb] at HF
  rw [show decide (top W Z u ≤ 2) = s from hs.symm] at HS
  rw [← hs, ← ha] at he
  have HUP := hid (fun w => refupper_any a w)
  obtain ⟨p, hp⟩ : ∃ p, p = up a := ⟨_, rfl⟩
  rw [← hp] at HUP
  have HP := hid hp
  have HE := hid he
  clear hI hg hu hs ha hb hp he
  cases s
  · by_cases h1 : k = 1
    · subst h1
      by_cases h0 : a = 0
      · subst h0
        have he' : e = 0 := by rw [HE.out]; unfold rflt; simp []
        subst he'
        clear HE
        go_enter Try.func42, Try.ntmps42
        go_upto_region 1 with fail
        generalize World.alloc _ _ = wl at HL ⊢
        have c0 := HL.out.c0
        have c1 := HL.out.c1
        have c2 := HL.out.c2
        have hz := HL.out.size
        go_wp2_with (first | (go_at_call 65; refine (HF.out _ HL.out.ints).mono ?_; rintro r w1 ⟨rfl, hb⟩; have HLn := hid (HL.out.stays hb); clear hb c0 c1 c2 hz HL; have HL := HLn; clear HLn; have c0 := HL.out.c0; have c1 := HL.out.c1; have c2 := HL.out.c2; have hz := HL.out.size) | (go_at_call 66; refine (HS.out _ HL.out.ints).mono ?_; rintro r w1 ⟨rfl, hb⟩; have HLn := hid (HL.out.stays hb); clear hb c0 c1 c2 hz HL; have HL := HLn; clear HLn; have c0 := HL.out.c0; have c1 := HL.out.c1; have c2 := HL.out.c2; have hz := HL.out.size) | (go_at_call 74; refine (HUP.out _).mono ?_; rintro r w2 ⟨rfl, rfl⟩))
        go_ret
        exact ⟨rfl, HL.out.below⟩
      · skip
        have he' : e = 5 := by rw [HE.out]; unfold rflt; simp [h0]
        subst he'
        clear HE
        go_enter Try.func42, Try.ntmps42
        go_upto_region 1 with fail
        generalize World.alloc _ _ = wl at HL ⊢
        have c0 := HL.out.c0
        have c1 := HL.out.c1
        have c2 := HL.out.c2
        have hz := HL.out.size
        go_wp2_with (first | (go_at_call 65; refine (HF.out _ HL.out.ints).mono ?_; rintro r w1 ⟨rfl, hb⟩; have HLn := hid (HL.out.stays hb); clear hb c0 c1 c2 hz HL; have HL := HLn; clear HLn; have c0 := HL.out.c0; have c1 := HL.out.c1; have c2 := HL.out.c2; have hz := HL.out.size) | (go_at_call 66; refine (HS.out _ HL.out.ints).mono ?_; rintro r w1 ⟨rfl, hb⟩; have HLn := hid (HL.out.stays hb); clear hb c0 c1 c2 hz HL; have HL := HLn; clear HLn; have c0 := HL.out.c0; have c1 := HL.out.c1; have c2 := HL.out.c2; have hz := HL.out.size) | (go_at_call 74; refine (HUP.out _).mono ?_; rintro r w2 ⟨rfl, rfl⟩))
        go_ret
        exact ⟨rfl, HL.out.below⟩
    · by_cases h2 : k = 2
      · subst h2
        by_cases hq : p < 0
        · have hu : up a < 0 := by rw [← HP.out]; exact hq
          have he' : e = 5 := by rw [HE.out]; unfold rflt; simp [hu]
          subst he'
          clear HE
          clear hu
          go_enter Try.func42, Try.ntmps42
          go_upto_region 1 with fail
          generalize World.alloc _ _ = wl at HL ⊢
          have c0 := HL.out.c0
          have c1 := HL.out.c1
          have c2 := HL.out.c2
          have hz := HL.out.size
          go_wp2_with (first | (go_at_call 65; refine (HF.out _ HL.out.ints).mono ?_; rintro r w1 ⟨rfl, hb⟩; have HLn := hid (HL.out.stays hb); clear hb c0 c1 c2 hz HL; have HL := HLn; clear HLn; have c0 := HL.out.c0; have c1 := HL.out.c1; have c2 := HL.out.c2; have hz := HL.out.size) | (go_at_call 66; refine (HS.out _ HL.out.ints).mono ?_; rintro r w1 ⟨rfl, hb⟩; have HLn := hid (HL.out.stays hb); clear hb c0 c1 c2 hz HL; have HL := HLn; clear HLn; have c0 := HL.out.c0; have c1 := HL.out.c1; have c2 := HL.out.c2; have hz := HL.out.size) | (go_at_call 74; refine (HUP.out _).mono ?_; rintro r w2 ⟨rfl, rfl⟩))
          go_ret
          exact ⟨rfl, HL.out.below⟩
        · have hu : ¬ up a < 0 := by rw [← HP.out]; exact hq
          have he' : e = 0 := by rw [HE.out]; unfold rflt; simp; omega
          subst he'
          clear HE
          clear hu
          go_enter Try.func42, Try.ntmps42
          go_upto_region 1 with fail
          generalize World.alloc _ _ = wl at HL ⊢
          have c0 := HL.out.c0
          have c1 := HL.out.c1
          have c2 := HL.out.c2
          have hz := HL.out.size
          go_wp2_with (first | (go_at_call 65; refine (HF.out _ HL.out.ints).mono ?_; rintro r w1 ⟨rfl, hb⟩; have HLn := hid (HL.out.stays hb); clear hb c0 c1 c2 hz HL; have HL := HLn; clear HLn; have c0 := HL.out.c0; have c1 := HL.out.c1; have c2 := HL.out.c2; have hz := HL.out.size) | (go_at_call 66; refine (HS.out _ HL.out.ints).mono ?_; rintro r w1 ⟨rfl, hb⟩; have HLn := hid (HL.out.stays hb); clear hb c0 c1 c2 hz HL; have HL := HLn; clear HLn; have c0 := HL.out.c0; have c1 := HL.out.c1; have c2 := HL.out.c2; have hz := HL.out.size) | (go_at_call 74; refine (HUP.out _).mono ?_; rintro r w2 ⟨rfl, rfl⟩))
          go_ret
          exact ⟨rfl, HL.out.below⟩
      · by_cases h3 : k = 3
        · subst h3
          by_cases h0 : a = 0
          · subst h0
            have he' : e = 0 := by rw [HE.out]; unfold rflt; simp []
            subst he'
            clear HE
            go_enter Try.func42, Try.ntmps42
            go_upto_region 1 with fail
            generalize World.alloc _ _ = wl at HL ⊢
            have c0 := HL.out.c0
            have c1 := HL.out.c1
            have c2 := HL.out.c2
            have hz := HL.out.size
            go_wp2_with (first | (go_at_call 65; refine (HF.out _ HL.out.ints).mono ?_; rintro r w1 ⟨rfl, hb⟩; have HLn := hid (HL.out.stays hb); clear hb c0 c1 c2 hz HL; have HL := HLn; clear HLn; have c0 := HL.out.c0; have c1 := HL.out.c1; have c2 := HL.out.c2; have hz := HL.out.size) | (go_at_call 66; refine (HS.out _ HL.out.ints).mono ?_; rintro r w1 ⟨rfl, hb⟩; have HLn := hid (HL.out.stays hb); clear hb c0 c1 c2 hz HL; have HL := HLn; clear HLn; have c0 := HL.out.c0; have c1 := HL.out.c1; have c2 := HL.out.c2; have hz := HL.out.size) | (go_at_call 74; refine (HUP.out _).mono ?_; rintro r w2 ⟨rfl, rfl⟩))
            go_ret
            exact ⟨rfl, HL.out.below⟩
          · skip
            have he' : e = 9 := by rw [HE.out]; unfold rflt; simp [h0]
            subst he'
            clear HE
            go_enter Try.func42, Try.ntmps42
            go_upto_region 1 with fail
            generalize World.alloc _ _ = wl at HL ⊢
            have c0 := HL.out.c0
            have c1 := HL.out.c1
            have c2 := HL.out.c2
            have hz := HL.out.size
            go_wp2_with (first | (go_at_call 65; refine (HF.out _ HL.out.ints).mono ?_; rintro r w1 ⟨rfl, hb⟩; have HLn := hid (HL.out.stays hb); clear hb c0 c1 c2 hz HL; have HL := HLn; clear HLn; have c0 := HL.out.c0; have c1 := HL.out.c1; have c2 := HL.out.c2; have hz := HL.out.size) | (go_at_call 66; refine (HS.out _ HL.out.ints).mono ?_; rintro r w1 ⟨rfl, hb⟩; have HLn := hid (HL.out.stays hb); clear hb c0 c1 c2 hz HL; have HL := HLn; clear HLn; have c0 := HL.out.c0; have c1 := HL.out.c1; have c2 := HL.out.c2; have hz := HL.out.size) | (go_at_call 74; refine (HUP.out _).mono ?_; rintro r w2 ⟨rfl, rfl⟩))
            go_ret
            exact ⟨rfl, HL.out.below⟩
        · skip
          have he' : e = 0 := by rw [HE.out]; unfold rflt; simp [h1, h2, h3]
          subst he'
          clear HE
          go_enter Try.func42, Try.ntmps42
          go_upto_region 1 with fail
          generalize World.alloc _ _ = wl at HL ⊢
          have c0 := HL.out.c0
          have c1 := HL.out.c1
          have c2 := HL.out.c2
          have hz := HL.out.size
          go_wp2_with (first | (go_at_call 65; refine (HF.out _ HL.out.ints).mono ?_; rintro r w1 ⟨rfl, hb⟩; have HLn := hid (HL.out.stays hb); clear hb c0 c1 c2 hz HL; have HL := HLn; clear HLn; have c0 := HL.out.c0; have c1 := HL.out.c1; have c2 := HL.out.c2; have hz := HL.out.size) | (go_at_call 66; refine (HS.out _ HL.out.ints).mono ?_; rintro r w1 ⟨rfl, hb⟩; have HLn := hid (HL.out.stays hb); clear hb c0 c1 c2 hz HL; have HL := HLn; clear HLn; have c0 := HL.out.c0; have c1 := HL.out.c1; have c2 := HL.out.c2; have hz := HL.out.size) | (go_at_call 74; refine (HUP.out _).mono ?_; rintro r w2 ⟨rfl, rfl⟩))
          go_ret
          exact ⟨rfl, HL.out.below⟩
  · by_cases h1 : k = 1
    · subst h1
      have he' : e = 9 := by rw [HE.out]; unfold rflt; simp []
      subst he'
      clear HE
      go_enter Try.func42, Try.ntmps42
      go_upto_region 1 with fail
      generalize World.alloc _ _ = wl at HL ⊢
      have c0 := HL.out.c0
      have c1 := HL.out.c1
      have c2 := HL.out.c2
      have hz := HL.out.size
      go_wp2_with (first | (go_at_call 65; refine (HF.out _ HL.out.ints).mono ?_; rintro r w1 ⟨rfl, hb⟩; have HLn := hid (HL.out.stays hb); clear hb c0 c1 c2 hz HL; have HL := HLn; clear HLn; have c0 := HL.out.c0; have c1 := HL.out.c1; have c2 := HL.out.c2; have hz := HL.out.size) | (go_at_call 66; refine (HS.out _ HL.out.ints).mono ?_; rintro r w1 ⟨rfl, hb⟩; have HLn := hid (HL.out.stays hb); clear hb c0 c1 c2 hz HL; have HL := HLn; clear HLn; have c0 := HL.out.c0; have c1 := HL.out.c1; have c2 := HL.out.c2; have hz := HL.out.size) | (go_at_call 74; refine (HUP.out _).mono ?_; rintro r w2 ⟨rfl, rfl⟩))
      go_ret
      exact ⟨rfl, HL.out.below⟩
    · by_cases h2 : k = 2
      · subst h2
        have he' : e = 9 := by rw [HE.out]; unfold rflt; simp []
        subst he'
        clear HE
        go_enter Try.func42, Try.ntmps42
        go_upto_region 1 with fail
        generalize World.alloc _ _ = wl at HL ⊢
        have c0 := HL.out.c0
        have c1 := HL.out.c1
        have c2 := HL.out.c2
        have hz := HL.out.size
        go_wp2_with (first | (go_at_call 65; refine (HF.out _ HL.out.ints).mono ?_; rintro r w1 ⟨rfl, hb⟩; have HLn := hid (HL.out.stays hb); clear hb c0 c1 c2 hz HL; have HL := HLn; clear HLn; have c0 := HL.out.c0; have c1 := HL.out.c1; have c2 := HL.out.c2; have hz := HL.out.size) | (go_at_call 66; refine (HS.out _ HL.out.ints).mono ?_; rintro r w1 ⟨rfl, hb⟩; have HLn := hid (HL.out.stays hb); clear hb c0 c1 c2 hz HL; have HL := HLn; clear HLn; have c0 := HL.out.c0; have c1 := HL.out.c1; have c2 := HL.out.c2; have hz := HL.out.size) | (go_at_call 74; refine (HUP.out _).mono ?_; rintro r w2 ⟨rfl, rfl⟩))
        go_ret
        exact ⟨rfl, HL.out.below⟩
      · by_cases h3 : k = 3
        · subst h3
          have he' : e = 0 := by rw [HE.out]; unfold rflt; simp []
          subst he'
          clear HE
          go_enter Try.func42, Try.ntmps42
          go_upto_region 1 with fail
          generalize World.alloc _ _ = wl at HL ⊢
          have c0 := HL.out.c0
          have c1 := HL.out.c1
          have c2 := HL.out.c2
          have hz := HL.out.size
          go_wp2_with (first | (go_at_call 65; refine (HF.out _ HL.out.ints).mono ?_; rintro r w1 ⟨rfl, hb⟩; have HLn := hid (HL.out.stays hb); clear hb c0 c1 c2 hz HL; have HL := HLn; clear HLn; have c0 := HL.out.c0; have c1 := HL.out.c1; have c2 := HL.out.c2; have hz := HL.out.size) | (go_at_call 66; refine (HS.out _ HL.out.ints).mono ?_; rintro r w1 ⟨rfl, hb⟩; have HLn := hid (HL.out.stays hb); clear hb c0 c1 c2 hz HL; have HL := HLn; clear HLn; have c0 := HL.out.c0; have c1 := HL.out.c1; have c2 := HL.out.c2; have hz := HL.out.size) | (go_at_call 74; refine (HUP.out _).mono ?_; rintro r w2 ⟨rfl, rfl⟩))
          go_ret
          exact ⟨rfl, HL.out.below⟩
        · skip
          have he' : e = 0 := by rw [HE.out]; unfold rflt; simp [h1, h2, h3]
          subst he'
          clear HE
          go_enter Try.func42, Try.ntmps42
          go_upto_region 1 with fail
          generalize World.alloc _ _ = wl at HL ⊢
          have c0 := HL.out.c0
          have c1 := HL.out.c1
          have c2 := HL.out.c2
          have hz := HL.out.size
          go_wp2_with (first | (go_at_call 65; refine (HF.out _ HL.out.ints).mono ?_; rintro r w1 ⟨rfl, hb⟩; have HLn := hid (HL.out.stays hb); clear hb c0 c1 c2 hz HL; have HL := HLn; clear HLn; have c0 := HL.out.c0; have c1 := HL.out.c1; have c2 := HL.out.c2; have hz := HL.out.size) | (go_at_call 66; refine (HS.out _ HL.out.ints).mono ?_; rintro r w1 ⟨rfl, hb⟩; have HLn := hid (HL.out.stays hb); clear hb c0 c1 c2 hz HL; have HL := HLn; clear HLn; have c0 := HL.out.c0; have c1 := HL.out.c1; have c2 := HL.out.c2; have hz := HL.out.size) | (go_at_call 74; refine (HUP.out _).mono ?_; rintro r w2 ⟨rfl, rfl⟩))
          go_ret
          exact ⟨rfl, HL.out.below⟩

/-- The reference's word on where a ship may be. -/
def rwet (k : Int) (s : Bool) : Bool := (decide (k ≠ 0) && ((decide (k ≠ 1) && decide (k ≠ 2)) || !s)) || (decide (k = 0) && s)
theorem rwet_wt {W : Nat} {Z K : Nat → Int} {u : Nat} (h : K u ≠ 0 → flt (sea W Z u) (gsl W Z u) (K u) = 0) : rwet (K u) (sea W Z u) = wt W Z K u := by
  unfold rwet wt
  by_cases h0 : K u = 0
  · simp [h0]
  · have hf := h h0
    cases hs : sea W Z u
    · simp [h0]
    · unfold flt at hf
      rw [hs] at hf
      by_cases h3 : K u = 3
      · simp [h3]
      · simp [h3] at hf
set_option maxRecDepth 20000 in
set_option maxHeartbeats 3200000 in
theorem rWet_any (W H : Nat) (ao ko : Option Addr) (n cap m kcap : Nat) (Z K : Nat → Int) (hg : Good W H n Z) (hm : m = W * H) (u : Nat) (hu : u < W * H) (r : Bool) (hr : r = rwet (K u) (sea W Z u)) (w : World) (hI : Ints w ao n Z) (hK : Ints w ko m K) :
    Calls Try.prog 43 #[lv W H (.slice ao n cap), .slice ko m kcap, .int .i64 u] w fun e w' => e = .returned (.bool r) ∧ Below w.heap.size w w' := by
  have hsd := hg.side
  have hsm := mul_small hsd.2.1 hsd.2.2.2
  have hum : u < m := by omega
  have hu2 : u ≤ 1024 := by omega
  have HL := hid (lb_start (W := W) (H := H) (cap := cap) hI)
  have HS := hid (fun w hI => sea_any W H ao n cap Z hg u hu w hI)
  obtain ⟨bk, off, rfl, hbz, k0⟩ := (hK.stays (Joins.below_alloc1 w (.cells #[.int .i64 W, .int .i64 H, .slice ao n cap] 24))) u hum
  obtain ⟨s, hs⟩ : ∃ s, s = sea W Z u := ⟨_, rfl⟩
  obtain ⟨k, hk⟩ : ∃ k, k = K u := ⟨_, rfl⟩
  rw [show decide (top W Z u ≤ 2) = s from hs.symm] at HS
  rw [← hk] at k0
  rw [← hk, ← hs] at hr
  have HR := hid hr
  clear hI hK hg hu hs hk hr hsd hsm hm
  by_cases h0 : k = 0
  · subst h0
    have hr' : r = s := by rw [HR.out]; unfold rwet; simp []
    have HR' := hid hr'
    clear hr' HR
    go_enter Try.func43, Try.ntmps43
    go_wp2_with (go_at_call 66; refine (HS.out _ HL.out.ints).mono ?_; rintro e w1 ⟨rfl, hb⟩; have HL1 := hid (HL.out.stays hb); clear hb)
    go_ret
    exact ⟨ret_bool HR'.out.symm, HL1.out.below⟩
  · by_cases h1 : k = 1
    · subst h1
      cases s
      · skip
        have hr' : r = true := by rw [HR.out]; unfold rwet; simp []
        have HR' := hid hr'
        clear hr' HR
        go_enter Try.func43, Try.ntmps43
        go_wp2_with (go_at_call 66; refine (HS.out _ HL.out.ints).mono ?_; rintro e w1 ⟨rfl, hb⟩; have HL1 := hid (HL.out.stays hb); clear hb)
        go_ret
        exact ⟨ret_bool HR'.out.symm, HL1.out.below⟩
      · skip
        have hr' : r = false := by rw [HR.out]; unfold rwet; simp []
        have HR' := hid hr'
        clear hr' HR
        go_enter Try.func43, Try.ntmps43
        go_wp2_with (go_at_call 66; refine (HS.out _ HL.out.ints).mono ?_; rintro e w1 ⟨rfl, hb⟩; have HL1 := hid (HL.out.stays hb); clear hb)
        go_ret
        exact ⟨ret_bool HR'.out.symm, HL1.out.below⟩
    · by_cases h2 : k = 2
      · subst h2
        cases s
        · skip
          have hr' : r = true := by rw [HR.out]; unfold rwet; simp []
          have HR' := hid hr'
          clear hr' HR
          go_enter Try.func43, Try.ntmps43
          go_wp2_with (go_at_call 66; refine (HS.out _ HL.out.ints).mono ?_; rintro e w1 ⟨rfl, hb⟩; have HL1 := hid (HL.out.stays hb); clear hb)
          go_ret
          exact ⟨ret_bool HR'.out.symm, HL1.out.below⟩
        · skip
          have hr' : r = false := by rw [HR.out]; unfold rwet; simp []
          have HR' := hid hr'
          clear hr' HR
          go_enter Try.func43, Try.ntmps43
          go_wp2_with (go_at_call 66; refine (HS.out _ HL.out.ints).mono ?_; rintro e w1 ⟨rfl, hb⟩; have HL1 := hid (HL.out.stays hb); clear hb)
          go_ret
          exact ⟨ret_bool HR'.out.symm, HL1.out.below⟩
      · skip
        have hr' : r = true := by rw [HR.out]; unfold rwet; simp [h0, h1, h2]
        have HR' := hid hr'
        clear hr' HR
        go_enter Try.func43, Try.ntmps43
        go_wp2_with (go_at_call 66; refine (HS.out _ HL.out.ints).mono ?_; rintro e w1 ⟨rfl, hb⟩; have HL1 := hid (HL.out.stays hb); clear hb)
        go_ret
        exact ⟨ret_bool HR'.out.symm, HL.out.below⟩
end Go.Proofs.Ytkpnngpnjimogaa
