/-
  The walks of Depth and Meets of the reference.
-/
import Derived.Test.YtkpnngpnjimogaaWLawVal
namespace Go.Proofs.Ytkpnngpnjimogaa
open Go.RowKit

theorem lev_eq (W : Nat) (Z : Nat → Int) (u : Nat) : lev W Z u = if sea W Z u = true then 2 else base W Z u := by
  unfold lev gba
  cases sea W Z u <;> simp
theorem base_bd {W H n : Nat} {Z : Nat → Int} (hg : Good W H n Z) {u : Nat} (hu : u < W * H) : 0 ≤ base W Z u ∧ base W Z u ≤ 15 := by
  have hp : nw W u + W + 2 < n := by rw [hg.len]; exact nw_lt hu
  have h0 := hg.high (nw W u) (by omega)
  have h1 := hg.high (nw W u + 1) (by omega)
  have h2 := hg.high (nw W u + W + 2) (by omega)
  have h3 := hg.high (nw W u + W + 1) (by omega)
  unfold base mn4
  omega
theorem lev_bd {W H n : Nat} {Z : Nat → Int} (hg : Good W H n Z) {u : Nat} (hu : u < W * H) : 0 ≤ lev W Z u ∧ lev W Z u ≤ 15 := by
  have := base_bd hg hu
  rw [lev_eq]
  split <;> omega
set_option maxHeartbeats 1600000 in
theorem depth_any (W H : Nat) (ao : Option Addr) (n cap : Nat) (Z : Nat → Int) (hg : Good W H n Z) (u : Nat) (hu : u < W * H) (w : World) (hI : Ints w ao n Z) :
    Calls Try.prog 83 #[lv W H (.slice ao n cap), .int .i64 u] w fun r w' => r = .returned (.int .i64 (lev W Z u)) ∧ Below w.heap.size w w' := by
  have HL := hid (lb_start (W := W) (H := H) (cap := cap) hI)
  have HF := hid (fun w hI => face_any W H ao n cap Z hg u hu w hI)
  have HS := hid (fun w hI => sea_any W H ao n cap Z hg u hu w hI)
  rw [lev_eq]
  obtain ⟨s, hs⟩ : ∃ s, s = sea W Z u := ⟨_, rfl⟩
  obtain ⟨a, ha⟩ : ∃ a, a = slope W Z u := ⟨_, rfl⟩
  obtain ⟨b, hb⟩ : ∃ a, a = base W Z u := ⟨_, rfl⟩
  rw [← ha, ← hb] at HF
  rw [show decide (top W Z u ≤ 2) = s from hs.symm] at HS
  rw [← hs, ← hb]
  clear hI hg hu hs ha hb
  cases s
  all_goals
    go_enter Try.func83, Try.ntmps83
    go_upto_region 1 with fail
    generalize World.alloc _ _ = wl at HL ⊢
    have c0 := HL.out.c0
    have c1 := HL.out.c1
    have c2 := HL.out.c2
    have hz := HL.out.size
    go_wp2_with (first
      | (go_at_call 65; refine (HF.out _ HL.out.ints).mono ?_; rintro r w1 ⟨rfl, hb⟩; have HLn := hid (HL.out.stays hb); clear hb c0 c1 c2 hz HL; have HL := HLn; clear HLn; have c0 := HL.out.c0; have c1 := HL.out.c1; have c2 := HL.out.c2; have hz := HL.out.size)
      | (go_at_call 66; refine (HS.out _ HL.out.ints).mono ?_; rintro r w1 ⟨rfl, hb⟩; have HLn := hid (HL.out.stays hb); clear hb c0 c1 c2 hz HL; have HL := HLn; clear HLn; have c0 := HL.out.c0; have c1 := HL.out.c1; have c2 := HL.out.c2; have hz := HL.out.size))
    go_ret
    exact ⟨rfl, HL.out.below⟩
theorem LW.kcell {W H : Int} {ao bo : Option Addr} {kb koff n cap m kcap q bcap : Nat} {Z K Y : Nat → Int} {w wr : World} (h : LW W H ao (some ⟨kb, koff, none⟩) bo n cap m kcap q bcap Z K Y w wr) {j : Nat} (hj : j < m) : wr.cell? ⟨kb, koff + j, none⟩ = some (.int .i64 (K j)) := by
  obtain ⟨b, off, e, _, hc⟩ := h.kinds j hj
  cases e
  exact hc
/-- A lock of right waters is no sea, and goes up to a side. -/
theorem lock_fit {W H : Nat} {Z K : Nat → Int} (hf : Fits W H Z K) {u : Nat} (hu : u < W * H) (hk : K u = 2) : sea W Z u = false ∧ 0 ≤ up (gsl W Z u) := by
  have h := hf u hu (by rw [hk]; omega)
  rw [hk] at h
  unfold flt at h
  have hb := up_bd (gsl W Z u)
  cases hs : sea W Z u
  · refine ⟨rfl, ?_⟩
    by_cases hu : up (gsl W Z u) = -1
    · rw [hs, hu] at h; simp at h
    · omega
  · rw [hs] at h; simp at h

set_option maxRecDepth 20000 in
set_option maxHeartbeats 25600000 in
theorem meets_any (W H : Nat) (ao ko bo : Option Addr) (n cap m kcap q bcap : Nat) (Z K Y : Nat → Int) (hg : Good W H n Z) (hm : m = W * H) (hf : Fits W H Z K) (t : Nat) (ht : t < W * H) (s : Int) (hs0 : 0 ≤ s) (hs3 : s ≤ 3) (r : Int) (hr : r = if joi W H Z K t s = true then bey W H t s else -1) (w : World) (hI : Ints w ao n Z) (hK : Ints w ko m K) (hY : Ints w bo q Y) :
    Calls Try.prog 55 #[lv W H (.slice ao n cap), .agg #[.slice ko m kcap, .slice bo q bcap], .int .i64 t, .int .i64 s] w fun e w' => e = .returned (.int .i64 r) ∧ Below w.heap.size w w' := by
  have hsd := hg.side
  have hsm := mul_small hsd.2.1 hsd.2.2.2
  have hSz : Sized W H := ⟨⟨by omega, by omega⟩, by omega, by omega⟩
  have hWH : (W : Int) * (H : Int) = ((W * H : Nat) : Int) := by simp
  have htz : (t : Int) < (W : Int) * (H : Int) := by rw [hWH]; omega
  have ht2 : t ≤ 1024 := by omega
  have htm : t < m := by omega
  obtain ⟨kb, koff, rfl⟩ := hK.ptr (by omega)
  have HL := hid (LW.start (W := W) (H := H) (cap := cap) (kcap := kcap) (bcap := bcap) hI hK hY)
  obtain ⟨A, hA⟩ : ∃ A, A = w.heap.size := ⟨_, rfl⟩
  have HA := hid hA
  obtain ⟨b, hb⟩ : ∃ b, bey W H t s = b := ⟨_, rfl⟩
  have HBY := hid (fun w => refbeyond_any W H t s b hSz (by omega) htz hs0 hs3 hb w)
  rw [hb] at hr
  unfold joi at hr
  rw [hb] at hr
  by_cases hbn : b < 0
  · have hnm := htm
    have HKK : Hid (K t = K t ∧ K t = K t) := hid ⟨rfl, rfl⟩
    have hrf : r = -1 := by rw [hr, if_pos hbn]; rfl
    subst hrf
    clear hr hb hg hf hI hK hY hsd hsm hSz hWH htz ht hm
    go_enter Try.func55, Try.ntmps55
    go_upto_region 1 with fail
    generalize World.alloc _ _ = wv at HL ⊢
    simp only [← hA]
    clear hA
    have c0 := HL.out.c0
    have c1 := HL.out.c1
    have c2 := HL.out.c2
    have c3 := HL.out.c3
    have c4 := HL.out.c4
    have hz := HL.out.size
    simp only [← HA.out] at c0 c1 c2 c3 c4 hz
    have q0 := HL.out.kcell htm
    have q1 := HL.out.kcell hnm
    rw [← HKK.out.1] at q0
    rw [← HKK.out.2] at q1
    go_wp2_with (go_at_call 25; (refine (HBY.out _).mono ?_); rintro r wn ⟨rfl, hb⟩; have HLn := hid (HL.out.stays hb); clear hb c0 c1 c2 c3 c4 hz q0 q1 HL; have HL := HLn; clear HLn; have c0 := HL.out.c0; have c1 := HL.out.c1; have c2 := HL.out.c2; have c3 := HL.out.c3; have c4 := HL.out.c4; have hz := HL.out.size; simp only [← HA.out] at c0 c1 c2 c3 c4 hz; have q0 := HL.out.kcell htm; have q1 := HL.out.kcell hnm; rw [← HKK.out.1] at q0; rw [← HKK.out.2] at q1)
    go_ret
    exact ⟨rfl, HL.out.below⟩
  · rw [if_neg hbn] at hr
    have hin := bey_in hSz (by omega) htz (t := (t : Int)) (s := s) (by rw [hb]; omega)
    rw [hb] at hin
    obtain ⟨u, hub⟩ : ∃ n : Nat, b = n := ⟨b.toNat, by omega⟩
    subst hub
    rw [Int.toNat_natCast] at hr
    have hu : u < W * H := by rw [hWH] at hin; omega
    have hu2 : u ≤ 1024 := by omega
    have hnm : u < m := by omega
    unfold joi2 at hr
    obtain ⟨f1, hf1⟩ : ∃ f, f = rwet (K t) (sea W Z t) := ⟨_, rfl⟩
    obtain ⟨f2, hf2⟩ : ∃ f, f = rwet (K u) (sea W Z u) := ⟨_, rfl⟩
    have HW1 := hid (fun w hI hK => rWet_any W H ao (some ⟨kb, koff, none⟩) n cap m kcap Z K hg hm t ht f1 hf1 w hI hK)
    have HW2 := hid (fun w hI hK => rWet_any W H ao (some ⟨kb, koff, none⟩) n cap m kcap Z K hg hm u hu f2 hf2 w hI hK)
    rw [← rwet_wt (hf t ht), ← rwet_wt (hf u hu), ← hf1, ← hf2] at hr
    have HD1 := hid (fun w hI => depth_any W H ao n cap Z hg t ht w hI)
    have HD2 := hid (fun w hI => depth_any W H ao n cap Z hg u hu w hI)
    have HF1 := hid (fun w hI => face_any W H ao n cap Z hg t ht w hI)
    have HF2 := hid (fun w hI => face_any W H ao n cap Z hg u hu w hI)
    have hd1 := lev_bd hg ht
    have hd2 := lev_bd hg hu
    have hk1 : K t = 2 → gsl W Z t = slope W Z t ∧ gba W Z t = lev W Z t ∧ 0 ≤ up (slope W Z t) := fun h => by
      obtain ⟨h1, h2⟩ := lock_fit hf ht h
      unfold gsl at h2 ⊢
      unfold lev gba
      rw [h1] at h2 ⊢
      simpa using h2
    have hk2 : K u = 2 → gsl W Z u = slope W Z u ∧ gba W Z u = lev W Z u ∧ 0 ≤ up (slope W Z u) := fun h => by
      obtain ⟨h1, h2⟩ := lock_fit hf hu h
      unfold gsl at h2 ⊢
      unfold lev gba
      rw [h1] at h2 ⊢
      simpa using h2
    obtain ⟨a1, ha1⟩ : ∃ x, x = slope W Z t := ⟨_, rfl⟩
    obtain ⟨a2, ha2⟩ : ∃ x, x = slope W Z u := ⟨_, rfl⟩
    obtain ⟨l1, hl1⟩ : ∃ x, x = lev W Z t := ⟨_, rfl⟩
    obtain ⟨l2, hl2⟩ : ∃ x, x = lev W Z u := ⟨_, rfl⟩
    rw [← ha1] at HF1 hk1
    rw [← ha2] at HF2 hk2
    rw [← hl1] at HD1 hd1 hk1
    rw [← hl2] at HD2 hd2 hk2
    rw [← hl1, ← hl2] at hr
    obtain ⟨k1, hkk1⟩ : ∃ k, k = K t := ⟨_, rfl⟩
    obtain ⟨k2, hkk2⟩ : ∃ k, k = K u := ⟨_, rfl⟩
    rw [← hkk1] at hk1
    rw [← hkk2] at hk2
    rw [← hkk1, ← hkk2] at hr
    have HKK := hid (And.intro hkk1 hkk2)
    obtain ⟨o, ho⟩ : ∃ o, (s + 2) % 4 = o := ⟨_, rfl⟩
    rw [ho] at hr
    have ho0 : 0 ≤ o ∧ o ≤ 3 := by omega
    have HO := hid ho
    obtain ⟨p1, hp1⟩ : ∃ p, p = up a1 := ⟨_, rfl⟩
    obtain ⟨p2, hp2⟩ : ∃ p, p = up a2 := ⟨_, rfl⟩
    have HU1 := hid (fun w => refupper_any a1 w)
    have HU2 := hid (fun w => refupper_any a2 w)
    rw [← hp1] at HU1 hk1
    rw [← hp2] at HU2 hk2
    have hb1 := up_bd a1
    have hb2 := up_bd a2
    rw [← hp1] at hb1
    rw [← hp2] at hb2
    have HR := hid hr
    clear hr hb hg hf hI hK hY hsd hsm hSz hWH htz ht hm hin hu hf1 hf2 ha1 ha2 hl1 hl2 hkk1 hkk2 hbn
    have HP := hid (And.intro hp1 hp2)
    clear hp1 hp2
    have w10 : IntKind.i64.wrap l1 = l1 := by rw [IntKind.wrap_i64]; omega
    have w11 : IntKind.i64.wrap (l1 + 1) = l1 + 1 := by rw [IntKind.wrap_i64]; omega
    have w20 : IntKind.i64.wrap l2 = l2 := by rw [IntKind.wrap_i64]; omega
    have w21 : IntKind.i64.wrap (l2 + 1) = l2 + 1 := by rw [IntKind.wrap_i64]; omega
    cases f1
    · skip
      have hr' : r = -1 := by rw [HR.out]; simp
      subst hr'
      clear HR
      go_enter Try.func55, Try.ntmps55
      go_upto_region 1 with fail
      generalize World.alloc _ _ = wv at HL ⊢
      simp only [← hA]
      clear hA
      have c0 := HL.out.c0
      have c1 := HL.out.c1
      have c2 := HL.out.c2
      have c3 := HL.out.c3
      have c4 := HL.out.c4
      have hz := HL.out.size
      simp only [← HA.out] at c0 c1 c2 c3 c4 hz
      have q0 := HL.out.kcell htm
      have q1 := HL.out.kcell hnm
      rw [← HKK.out.1] at q0
      rw [← HKK.out.2] at q1
      go_wp2_with (first | (go_at_call 25; (refine (HBY.out _).mono ?_); rintro r wn ⟨rfl, hb⟩; have HLn := hid (HL.out.stays hb); clear hb c0 c1 c2 c3 c4 hz q0 q1 HL; have HL := HLn; clear HLn; have c0 := HL.out.c0; have c1 := HL.out.c1; have c2 := HL.out.c2; have c3 := HL.out.c3; have c4 := HL.out.c4; have hz := HL.out.size; simp only [← HA.out] at c0 c1 c2 c3 c4 hz; have q0 := HL.out.kcell htm; have q1 := HL.out.kcell hnm; rw [← HKK.out.1] at q0; rw [← HKK.out.2] at q1) | (go_at_call 43; ((with_reducible refine (HW1.out _ HL.out.land HL.out.kinds).mono ?_)); rintro r wn ⟨rfl, hb⟩; have HLn := hid (HL.out.stays hb); clear hb c0 c1 c2 c3 c4 hz q0 q1 HL; have HL := HLn; clear HLn; have c0 := HL.out.c0; have c1 := HL.out.c1; have c2 := HL.out.c2; have c3 := HL.out.c3; have c4 := HL.out.c4; have hz := HL.out.size; simp only [← HA.out] at c0 c1 c2 c3 c4 hz; have q0 := HL.out.kcell htm; have q1 := HL.out.kcell hnm; rw [← HKK.out.1] at q0; rw [← HKK.out.2] at q1))
      go_ret
      exact ⟨rfl, HL.out.below⟩
    · cases f2
      · skip
        have hr' : r = -1 := by rw [HR.out]; simp
        subst hr'
        clear HR
        go_enter Try.func55, Try.ntmps55
        go_upto_region 1 with fail
        generalize World.alloc _ _ = wv at HL ⊢
        simp only [← hA]
        clear hA
        have c0 := HL.out.c0
        have c1 := HL.out.c1
        have c2 := HL.out.c2
        have c3 := HL.out.c3
        have c4 := HL.out.c4
        have hz := HL.out.size
        simp only [← HA.out] at c0 c1 c2 c3 c4 hz
        have q0 := HL.out.kcell htm
        have q1 := HL.out.kcell hnm
        rw [← HKK.out.1] at q0
        rw [← HKK.out.2] at q1
        go_wp2_with (first | (go_at_call 25; (refine (HBY.out _).mono ?_); rintro r wn ⟨rfl, hb⟩; have HLn := hid (HL.out.stays hb); clear hb c0 c1 c2 c3 c4 hz q0 q1 HL; have HL := HLn; clear HLn; have c0 := HL.out.c0; have c1 := HL.out.c1; have c2 := HL.out.c2; have c3 := HL.out.c3; have c4 := HL.out.c4; have hz := HL.out.size; simp only [← HA.out] at c0 c1 c2 c3 c4 hz; have q0 := HL.out.kcell htm; have q1 := HL.out.kcell hnm; rw [← HKK.out.1] at q0; rw [← HKK.out.2] at q1) | (go_at_call 43; ((with_reducible refine (HW1.out _ HL.out.land HL.out.kinds).mono ?_)); rintro r wn ⟨rfl, hb⟩; have HLn := hid (HL.out.stays hb); clear hb c0 c1 c2 c3 c4 hz q0 q1 HL; have HL := HLn; clear HLn; have c0 := HL.out.c0; have c1 := HL.out.c1; have c2 := HL.out.c2; have c3 := HL.out.c3; have c4 := HL.out.c4; have hz := HL.out.size; simp only [← HA.out] at c0 c1 c2 c3 c4 hz; have q0 := HL.out.kcell htm; have q1 := HL.out.kcell hnm; rw [← HKK.out.1] at q0; rw [← HKK.out.2] at q1) | (go_at_call 43; ((with_reducible refine (HW2.out _ HL.out.land HL.out.kinds).mono ?_)); rintro r wn ⟨rfl, hb⟩; have HLn := hid (HL.out.stays hb); clear hb c0 c1 c2 c3 c4 hz q0 q1 HL; have HL := HLn; clear HLn; have c0 := HL.out.c0; have c1 := HL.out.c1; have c2 := HL.out.c2; have c3 := HL.out.c3; have c4 := HL.out.c4; have hz := HL.out.size; simp only [← HA.out] at c0 c1 c2 c3 c4 hz; have q0 := HL.out.kcell htm; have q1 := HL.out.kcell hnm; rw [← HKK.out.1] at q0; rw [← HKK.out.2] at q1))
        go_ret
        exact ⟨rfl, HL.out.below⟩
      · by_cases h2 : k2 = 2
        · subst h2
          by_cases h1 : k1 = 2
          · subst h1
            have hr' : r = -1 := by rw [HR.out]; simp
            subst hr'
            clear HR
            go_enter Try.func55, Try.ntmps55
            go_upto_region 1 with fail
            generalize World.alloc _ _ = wv at HL ⊢
            simp only [← hA]
            clear hA
            have c0 := HL.out.c0
            have c1 := HL.out.c1
            have c2 := HL.out.c2
            have c3 := HL.out.c3
            have c4 := HL.out.c4
            have hz := HL.out.size
            simp only [← HA.out] at c0 c1 c2 c3 c4 hz
            have q0 := HL.out.kcell htm
            have q1 := HL.out.kcell hnm
            rw [← HKK.out.1] at q0
            rw [← HKK.out.2] at q1
            go_wp2_with (first | (go_at_call 25; (refine (HBY.out _).mono ?_); rintro r wn ⟨rfl, hb⟩; have HLn := hid (HL.out.stays hb); clear hb c0 c1 c2 c3 c4 hz q0 q1 HL; have HL := HLn; clear HLn; have c0 := HL.out.c0; have c1 := HL.out.c1; have c2 := HL.out.c2; have c3 := HL.out.c3; have c4 := HL.out.c4; have hz := HL.out.size; simp only [← HA.out] at c0 c1 c2 c3 c4 hz; have q0 := HL.out.kcell htm; have q1 := HL.out.kcell hnm; rw [← HKK.out.1] at q0; rw [← HKK.out.2] at q1) | (go_at_call 43; ((with_reducible refine (HW1.out _ HL.out.land HL.out.kinds).mono ?_)); rintro r wn ⟨rfl, hb⟩; have HLn := hid (HL.out.stays hb); clear hb c0 c1 c2 c3 c4 hz q0 q1 HL; have HL := HLn; clear HLn; have c0 := HL.out.c0; have c1 := HL.out.c1; have c2 := HL.out.c2; have c3 := HL.out.c3; have c4 := HL.out.c4; have hz := HL.out.size; simp only [← HA.out] at c0 c1 c2 c3 c4 hz; have q0 := HL.out.kcell htm; have q1 := HL.out.kcell hnm; rw [← HKK.out.1] at q0; rw [← HKK.out.2] at q1) | (go_at_call 43; ((with_reducible refine (HW2.out _ HL.out.land HL.out.kinds).mono ?_)); rintro r wn ⟨rfl, hb⟩; have HLn := hid (HL.out.stays hb); clear hb c0 c1 c2 c3 c4 hz q0 q1 HL; have HL := HLn; clear HLn; have c0 := HL.out.c0; have c1 := HL.out.c1; have c2 := HL.out.c2; have c3 := HL.out.c3; have c4 := HL.out.c4; have hz := HL.out.size; simp only [← HA.out] at c0 c1 c2 c3 c4 hz; have q0 := HL.out.kcell htm; have q1 := HL.out.kcell hnm; rw [← HKK.out.1] at q0; rw [← HKK.out.2] at q1))
            go_ret
            exact ⟨rfl, HL.out.below⟩
          · skip
            obtain ⟨e1, e2, hp0⟩ := hk2 rfl
            have HE := hid (And.intro e1 e2)
            clear e1 e2
            by_cases hpar : o % 2 = p2 % 2
            · by_cases hup : o = p2
              · subst hup
                by_cases heq : l1 = l2 + 1
                · have g1 : (l1 == l2 + 1) = true := by simpa using heq
                  have hr' : r = (u : Int) := by rw [HR.out]; simp [h1]; rw [HE.out.1, HE.out.2]; unfold lft; rw [← HP.out.2];  simp [heq]
                  subst hr'
                  clear HR
                  go_enter Try.func55, Try.ntmps55
                  go_upto_region 1 with fail
                  generalize World.alloc _ _ = wv at HL ⊢
                  simp only [← hA]
                  clear hA
                  have c0 := HL.out.c0
                  have c1 := HL.out.c1
                  have c2 := HL.out.c2
                  have c3 := HL.out.c3
                  have c4 := HL.out.c4
                  have hz := HL.out.size
                  simp only [← HA.out] at c0 c1 c2 c3 c4 hz
                  have q0 := HL.out.kcell htm
                  have q1 := HL.out.kcell hnm
                  rw [← HKK.out.1] at q0
                  rw [← HKK.out.2] at q1
                  go_upto_region 17 with (first | (go_at_call 25; (refine (HBY.out _).mono ?_); rintro r wn ⟨rfl, hb⟩; have HLn := hid (HL.out.stays hb); clear hb c0 c1 c2 c3 c4 hz q0 q1 HL; have HL := HLn; clear HLn; have c0 := HL.out.c0; have c1 := HL.out.c1; have c2 := HL.out.c2; have c3 := HL.out.c3; have c4 := HL.out.c4; have hz := HL.out.size; simp only [← HA.out] at c0 c1 c2 c3 c4 hz; have q0 := HL.out.kcell htm; have q1 := HL.out.kcell hnm; rw [← HKK.out.1] at q0; rw [← HKK.out.2] at q1) | (go_at_call 43; ((with_reducible refine (HW1.out _ HL.out.land HL.out.kinds).mono ?_)); rintro r wn ⟨rfl, hb⟩; have HLn := hid (HL.out.stays hb); clear hb c0 c1 c2 c3 c4 hz q0 q1 HL; have HL := HLn; clear HLn; have c0 := HL.out.c0; have c1 := HL.out.c1; have c2 := HL.out.c2; have c3 := HL.out.c3; have c4 := HL.out.c4; have hz := HL.out.size; simp only [← HA.out] at c0 c1 c2 c3 c4 hz; have q0 := HL.out.kcell htm; have q1 := HL.out.kcell hnm; rw [← HKK.out.1] at q0; rw [← HKK.out.2] at q1) | (go_at_call 43; ((with_reducible refine (HW2.out _ HL.out.land HL.out.kinds).mono ?_)); rintro r wn ⟨rfl, hb⟩; have HLn := hid (HL.out.stays hb); clear hb c0 c1 c2 c3 c4 hz q0 q1 HL; have HL := HLn; clear HLn; have c0 := HL.out.c0; have c1 := HL.out.c1; have c2 := HL.out.c2; have c3 := HL.out.c3; have c4 := HL.out.c4; have hz := HL.out.size; simp only [← HA.out] at c0 c1 c2 c3 c4 hz; have q0 := HL.out.kcell htm; have q1 := HL.out.kcell hnm; rw [← HKK.out.1] at q0; rw [← HKK.out.2] at q1) | (go_at_call 65; ((with_reducible refine (HF2.out _ HL.out.land).mono ?_)); rintro r wn ⟨rfl, hb⟩; have HLn := hid (HL.out.stays hb); clear hb c0 c1 c2 c3 c4 hz q0 q1 HL; have HL := HLn; clear HLn; have c0 := HL.out.c0; have c1 := HL.out.c1; have c2 := HL.out.c2; have c3 := HL.out.c3; have c4 := HL.out.c4; have hz := HL.out.size; simp only [← HA.out] at c0 c1 c2 c3 c4 hz; have q0 := HL.out.kcell htm; have q1 := HL.out.kcell hnm; rw [← HKK.out.1] at q0; rw [← HKK.out.2] at q1) | (go_at_call 74; ((with_reducible refine (HU2.out _).mono ?_)); rintro r wn ⟨rfl, rfl⟩))
                  go_wp2_with fail
                  go_region_held3 (fun w' => LW W H ao (some ⟨kb, koff, none⟩) bo n cap m kcap q bcap Z K Y w w' ∧ w'.cell? ⟨A, 0, none⟩ = some (.int .i64 W) ∧ w'.cell? ⟨A, 1, none⟩ = some (.int .i64 H) ∧ w'.cell? ⟨A, 2, none⟩ = some (.slice ao n cap) ∧ w'.cell? ⟨A + 1, 0, none⟩ = some (.slice (some ⟨kb, koff, none⟩) m kcap) ∧ w'.cell? ⟨A + 1, 1, none⟩ = some (.slice bo q bcap))
                    (first
                      | exact lw_keep HA.out (And.intro HL.out trivial) ((Below.refl _ _).drew)
                      | exact lw_keep HA.out (by assumption) hb
                      | assumption)
                    (first
                      | (go_at_call 83; ((with_reducible refine (HD1.out _ (lw_l (by assumption))).mono ?_)); rintro r wx ⟨rfl, hb⟩)
                      | (go_at_call 83; ((with_reducible refine (HD2.out _ (lw_l (by assumption))).mono ?_)); rintro r wx ⟨rfl, hb⟩))
                  all_goals go_wp2_with fail
                  all_goals go_ret
                  all_goals exact ⟨rfl, lw_below (by assumption)⟩
                · have g1 : (l1 == l2 + 1) = false := by simpa using heq
                  have hr' : r = -1 := by rw [HR.out]; simp [h1]; rw [HE.out.1, HE.out.2]; unfold lft; rw [← HP.out.2];  simp [heq]
                  subst hr'
                  clear HR
                  go_enter Try.func55, Try.ntmps55
                  go_upto_region 1 with fail
                  generalize World.alloc _ _ = wv at HL ⊢
                  simp only [← hA]
                  clear hA
                  have c0 := HL.out.c0
                  have c1 := HL.out.c1
                  have c2 := HL.out.c2
                  have c3 := HL.out.c3
                  have c4 := HL.out.c4
                  have hz := HL.out.size
                  simp only [← HA.out] at c0 c1 c2 c3 c4 hz
                  have q0 := HL.out.kcell htm
                  have q1 := HL.out.kcell hnm
                  rw [← HKK.out.1] at q0
                  rw [← HKK.out.2] at q1
                  go_upto_region 17 with (first | (go_at_call 25; (refine (HBY.out _).mono ?_); rintro r wn ⟨rfl, hb⟩; have HLn := hid (HL.out.stays hb); clear hb c0 c1 c2 c3 c4 hz q0 q1 HL; have HL := HLn; clear HLn; have c0 := HL.out.c0; have c1 := HL.out.c1; have c2 := HL.out.c2; have c3 := HL.out.c3; have c4 := HL.out.c4; have hz := HL.out.size; simp only [← HA.out] at c0 c1 c2 c3 c4 hz; have q0 := HL.out.kcell htm; have q1 := HL.out.kcell hnm; rw [← HKK.out.1] at q0; rw [← HKK.out.2] at q1) | (go_at_call 43; ((with_reducible refine (HW1.out _ HL.out.land HL.out.kinds).mono ?_)); rintro r wn ⟨rfl, hb⟩; have HLn := hid (HL.out.stays hb); clear hb c0 c1 c2 c3 c4 hz q0 q1 HL; have HL := HLn; clear HLn; have c0 := HL.out.c0; have c1 := HL.out.c1; have c2 := HL.out.c2; have c3 := HL.out.c3; have c4 := HL.out.c4; have hz := HL.out.size; simp only [← HA.out] at c0 c1 c2 c3 c4 hz; have q0 := HL.out.kcell htm; have q1 := HL.out.kcell hnm; rw [← HKK.out.1] at q0; rw [← HKK.out.2] at q1) | (go_at_call 43; ((with_reducible refine (HW2.out _ HL.out.land HL.out.kinds).mono ?_)); rintro r wn ⟨rfl, hb⟩; have HLn := hid (HL.out.stays hb); clear hb c0 c1 c2 c3 c4 hz q0 q1 HL; have HL := HLn; clear HLn; have c0 := HL.out.c0; have c1 := HL.out.c1; have c2 := HL.out.c2; have c3 := HL.out.c3; have c4 := HL.out.c4; have hz := HL.out.size; simp only [← HA.out] at c0 c1 c2 c3 c4 hz; have q0 := HL.out.kcell htm; have q1 := HL.out.kcell hnm; rw [← HKK.out.1] at q0; rw [← HKK.out.2] at q1) | (go_at_call 65; ((with_reducible refine (HF2.out _ HL.out.land).mono ?_)); rintro r wn ⟨rfl, hb⟩; have HLn := hid (HL.out.stays hb); clear hb c0 c1 c2 c3 c4 hz q0 q1 HL; have HL := HLn; clear HLn; have c0 := HL.out.c0; have c1 := HL.out.c1; have c2 := HL.out.c2; have c3 := HL.out.c3; have c4 := HL.out.c4; have hz := HL.out.size; simp only [← HA.out] at c0 c1 c2 c3 c4 hz; have q0 := HL.out.kcell htm; have q1 := HL.out.kcell hnm; rw [← HKK.out.1] at q0; rw [← HKK.out.2] at q1) | (go_at_call 74; ((with_reducible refine (HU2.out _).mono ?_)); rintro r wn ⟨rfl, rfl⟩))
                  go_wp2_with fail
                  go_region_held3 (fun w' => LW W H ao (some ⟨kb, koff, none⟩) bo n cap m kcap q bcap Z K Y w w' ∧ w'.cell? ⟨A, 0, none⟩ = some (.int .i64 W) ∧ w'.cell? ⟨A, 1, none⟩ = some (.int .i64 H) ∧ w'.cell? ⟨A, 2, none⟩ = some (.slice ao n cap) ∧ w'.cell? ⟨A + 1, 0, none⟩ = some (.slice (some ⟨kb, koff, none⟩) m kcap) ∧ w'.cell? ⟨A + 1, 1, none⟩ = some (.slice bo q bcap))
                    (first
                      | exact lw_keep HA.out (And.intro HL.out trivial) ((Below.refl _ _).drew)
                      | exact lw_keep HA.out (by assumption) hb
                      | assumption)
                    (first
                      | (go_at_call 83; ((with_reducible refine (HD1.out _ (lw_l (by assumption))).mono ?_)); rintro r wx ⟨rfl, hb⟩)
                      | (go_at_call 83; ((with_reducible refine (HD2.out _ (lw_l (by assumption))).mono ?_)); rintro r wx ⟨rfl, hb⟩))
                  all_goals go_wp2_with fail
                  all_goals go_ret
                  all_goals exact ⟨rfl, lw_below (by assumption)⟩
              · have hop : o = (p2 + 2) % 4 := by omega
                have HOP := hid hop
                clear hop
                by_cases heq : l1 = l2
                · have g1 : (l1 == l2) = true := by simpa using heq
                  have hr' : r = (u : Int) := by rw [HR.out]; simp [h1]; rw [HE.out.1, HE.out.2]; unfold lft; rw [← HP.out.2];  rw [if_neg hup, if_pos HOP.out]; simp [heq]
                  subst hr'
                  clear HR
                  go_enter Try.func55, Try.ntmps55
                  go_upto_region 1 with fail
                  generalize World.alloc _ _ = wv at HL ⊢
                  simp only [← hA]
                  clear hA
                  have c0 := HL.out.c0
                  have c1 := HL.out.c1
                  have c2 := HL.out.c2
                  have c3 := HL.out.c3
                  have c4 := HL.out.c4
                  have hz := HL.out.size
                  simp only [← HA.out] at c0 c1 c2 c3 c4 hz
                  have q0 := HL.out.kcell htm
                  have q1 := HL.out.kcell hnm
                  rw [← HKK.out.1] at q0
                  rw [← HKK.out.2] at q1
                  go_upto_region 17 with (first | (go_at_call 25; (refine (HBY.out _).mono ?_); rintro r wn ⟨rfl, hb⟩; have HLn := hid (HL.out.stays hb); clear hb c0 c1 c2 c3 c4 hz q0 q1 HL; have HL := HLn; clear HLn; have c0 := HL.out.c0; have c1 := HL.out.c1; have c2 := HL.out.c2; have c3 := HL.out.c3; have c4 := HL.out.c4; have hz := HL.out.size; simp only [← HA.out] at c0 c1 c2 c3 c4 hz; have q0 := HL.out.kcell htm; have q1 := HL.out.kcell hnm; rw [← HKK.out.1] at q0; rw [← HKK.out.2] at q1) | (go_at_call 43; ((with_reducible refine (HW1.out _ HL.out.land HL.out.kinds).mono ?_)); rintro r wn ⟨rfl, hb⟩; have HLn := hid (HL.out.stays hb); clear hb c0 c1 c2 c3 c4 hz q0 q1 HL; have HL := HLn; clear HLn; have c0 := HL.out.c0; have c1 := HL.out.c1; have c2 := HL.out.c2; have c3 := HL.out.c3; have c4 := HL.out.c4; have hz := HL.out.size; simp only [← HA.out] at c0 c1 c2 c3 c4 hz; have q0 := HL.out.kcell htm; have q1 := HL.out.kcell hnm; rw [← HKK.out.1] at q0; rw [← HKK.out.2] at q1) | (go_at_call 43; ((with_reducible refine (HW2.out _ HL.out.land HL.out.kinds).mono ?_)); rintro r wn ⟨rfl, hb⟩; have HLn := hid (HL.out.stays hb); clear hb c0 c1 c2 c3 c4 hz q0 q1 HL; have HL := HLn; clear HLn; have c0 := HL.out.c0; have c1 := HL.out.c1; have c2 := HL.out.c2; have c3 := HL.out.c3; have c4 := HL.out.c4; have hz := HL.out.size; simp only [← HA.out] at c0 c1 c2 c3 c4 hz; have q0 := HL.out.kcell htm; have q1 := HL.out.kcell hnm; rw [← HKK.out.1] at q0; rw [← HKK.out.2] at q1) | (go_at_call 65; ((with_reducible refine (HF2.out _ HL.out.land).mono ?_)); rintro r wn ⟨rfl, hb⟩; have HLn := hid (HL.out.stays hb); clear hb c0 c1 c2 c3 c4 hz q0 q1 HL; have HL := HLn; clear HLn; have c0 := HL.out.c0; have c1 := HL.out.c1; have c2 := HL.out.c2; have c3 := HL.out.c3; have c4 := HL.out.c4; have hz := HL.out.size; simp only [← HA.out] at c0 c1 c2 c3 c4 hz; have q0 := HL.out.kcell htm; have q1 := HL.out.kcell hnm; rw [← HKK.out.1] at q0; rw [← HKK.out.2] at q1) | (go_at_call 74; ((with_reducible refine (HU2.out _).mono ?_)); rintro r wn ⟨rfl, rfl⟩))
                  go_wp2_with fail
                  go_region_held3 (fun w' => LW W H ao (some ⟨kb, koff, none⟩) bo n cap m kcap q bcap Z K Y w w' ∧ w'.cell? ⟨A, 0, none⟩ = some (.int .i64 W) ∧ w'.cell? ⟨A, 1, none⟩ = some (.int .i64 H) ∧ w'.cell? ⟨A, 2, none⟩ = some (.slice ao n cap) ∧ w'.cell? ⟨A + 1, 0, none⟩ = some (.slice (some ⟨kb, koff, none⟩) m kcap) ∧ w'.cell? ⟨A + 1, 1, none⟩ = some (.slice bo q bcap))
                    (first
                      | exact lw_keep HA.out (And.intro HL.out trivial) ((Below.refl _ _).drew)
                      | exact lw_keep HA.out (by assumption) hb
                      | assumption)
                    (first
                      | (go_at_call 83; ((with_reducible refine (HD1.out _ (lw_l (by assumption))).mono ?_)); rintro r wx ⟨rfl, hb⟩)
                      | (go_at_call 83; ((with_reducible refine (HD2.out _ (lw_l (by assumption))).mono ?_)); rintro r wx ⟨rfl, hb⟩))
                  all_goals go_wp2_with fail
                  all_goals go_ret
                  all_goals exact ⟨rfl, lw_below (by assumption)⟩
                · have g1 : (l1 == l2) = false := by simpa using heq
                  have hr' : r = -1 := by rw [HR.out]; simp [h1]; rw [HE.out.1, HE.out.2]; unfold lft; rw [← HP.out.2];  rw [if_neg hup, if_pos HOP.out]; simp [heq]
                  subst hr'
                  clear HR
                  go_enter Try.func55, Try.ntmps55
                  go_upto_region 1 with fail
                  generalize World.alloc _ _ = wv at HL ⊢
                  simp only [← hA]
                  clear hA
                  have c0 := HL.out.c0
                  have c1 := HL.out.c1
                  have c2 := HL.out.c2
                  have c3 := HL.out.c3
                  have c4 := HL.out.c4
                  have hz := HL.out.size
                  simp only [← HA.out] at c0 c1 c2 c3 c4 hz
                  have q0 := HL.out.kcell htm
                  have q1 := HL.out.kcell hnm
                  rw [← HKK.out.1] at q0
                  rw [← HKK.out.2] at q1
                  go_upto_region 17 with (first | (go_at_call 25; (refine (HBY.out _).mono ?_); rintro r wn ⟨rfl, hb⟩; have HLn := hid (HL.out.stays hb); clear hb c0 c1 c2 c3 c4 hz q0 q1 HL; have HL := HLn; clear HLn; have c0 := HL.out.c0; have c1 := HL.out.c1; have c2 := HL.out.c2; have c3 := HL.out.c3; have c4 := HL.out.c4; have hz := HL.out.size; simp only [← HA.out] at c0 c1 c2 c3 c4 hz; have q0 := HL.out.kcell htm; have q1 := HL.out.kcell hnm; rw [← HKK.out.1] at q0; rw [← HKK.out.2] at q1) | (go_at_call 43; ((with_reducible refine (HW1.out _ HL.out.land HL.out.kinds).mono ?_)); rintro r wn ⟨rfl, hb⟩; have HLn := hid (HL.out.stays hb); clear hb c0 c1 c2 c3 c4 hz q0 q1 HL; have HL := HLn; clear HLn; have c0 := HL.out.c0; have c1 := HL.out.c1; have c2 := HL.out.c2; have c3 := HL.out.c3; have c4 := HL.out.c4; have hz := HL.out.size; simp only [← HA.out] at c0 c1 c2 c3 c4 hz; have q0 := HL.out.kcell htm; have q1 := HL.out.kcell hnm; rw [← HKK.out.1] at q0; rw [← HKK.out.2] at q1) | (go_at_call 43; ((with_reducible refine (HW2.out _ HL.out.land HL.out.kinds).mono ?_)); rintro r wn ⟨rfl, hb⟩; have HLn := hid (HL.out.stays hb); clear hb c0 c1 c2 c3 c4 hz q0 q1 HL; have HL := HLn; clear HLn; have c0 := HL.out.c0; have c1 := HL.out.c1; have c2 := HL.out.c2; have c3 := HL.out.c3; have c4 := HL.out.c4; have hz := HL.out.size; simp only [← HA.out] at c0 c1 c2 c3 c4 hz; have q0 := HL.out.kcell htm; have q1 := HL.out.kcell hnm; rw [← HKK.out.1] at q0; rw [← HKK.out.2] at q1) | (go_at_call 65; ((with_reducible refine (HF2.out _ HL.out.land).mono ?_)); rintro r wn ⟨rfl, hb⟩; have HLn := hid (HL.out.stays hb); clear hb c0 c1 c2 c3 c4 hz q0 q1 HL; have HL := HLn; clear HLn; have c0 := HL.out.c0; have c1 := HL.out.c1; have c2 := HL.out.c2; have c3 := HL.out.c3; have c4 := HL.out.c4; have hz := HL.out.size; simp only [← HA.out] at c0 c1 c2 c3 c4 hz; have q0 := HL.out.kcell htm; have q1 := HL.out.kcell hnm; rw [← HKK.out.1] at q0; rw [← HKK.out.2] at q1) | (go_at_call 74; ((with_reducible refine (HU2.out _).mono ?_)); rintro r wn ⟨rfl, rfl⟩))
                  go_wp2_with fail
                  go_region_held3 (fun w' => LW W H ao (some ⟨kb, koff, none⟩) bo n cap m kcap q bcap Z K Y w w' ∧ w'.cell? ⟨A, 0, none⟩ = some (.int .i64 W) ∧ w'.cell? ⟨A, 1, none⟩ = some (.int .i64 H) ∧ w'.cell? ⟨A, 2, none⟩ = some (.slice ao n cap) ∧ w'.cell? ⟨A + 1, 0, none⟩ = some (.slice (some ⟨kb, koff, none⟩) m kcap) ∧ w'.cell? ⟨A + 1, 1, none⟩ = some (.slice bo q bcap))
                    (first
                      | exact lw_keep HA.out (And.intro HL.out trivial) ((Below.refl _ _).drew)
                      | exact lw_keep HA.out (by assumption) hb
                      | assumption)
                    (first
                      | (go_at_call 83; ((with_reducible refine (HD1.out _ (lw_l (by assumption))).mono ?_)); rintro r wx ⟨rfl, hb⟩)
                      | (go_at_call 83; ((with_reducible refine (HD2.out _ (lw_l (by assumption))).mono ?_)); rintro r wx ⟨rfl, hb⟩))
                  all_goals go_wp2_with fail
                  all_goals go_ret
                  all_goals exact ⟨rfl, lw_below (by assumption)⟩
            · have hn1 : o ≠ p2 := fun h => hpar (by rw [h])
              have hn2 : o ≠ (p2 + 2) % 4 := by omega
              have HNN := hid (And.intro hn1 hn2)
              clear hn1 hn2
              have hr' : r = -1 := by rw [HR.out]; simp [h1]; rw [HE.out.1, HE.out.2]; unfold lft; rw [← HP.out.2];  rw [if_neg HNN.out.1, if_neg HNN.out.2]; first | done | simp
              subst hr'
              clear HR
              go_enter Try.func55, Try.ntmps55
              go_upto_region 1 with fail
              generalize World.alloc _ _ = wv at HL ⊢
              simp only [← hA]
              clear hA
              have c0 := HL.out.c0
              have c1 := HL.out.c1
              have c2 := HL.out.c2
              have c3 := HL.out.c3
              have c4 := HL.out.c4
              have hz := HL.out.size
              simp only [← HA.out] at c0 c1 c2 c3 c4 hz
              have q0 := HL.out.kcell htm
              have q1 := HL.out.kcell hnm
              rw [← HKK.out.1] at q0
              rw [← HKK.out.2] at q1
              go_wp2_with (first | (go_at_call 25; (refine (HBY.out _).mono ?_); rintro r wn ⟨rfl, hb⟩; have HLn := hid (HL.out.stays hb); clear hb c0 c1 c2 c3 c4 hz q0 q1 HL; have HL := HLn; clear HLn; have c0 := HL.out.c0; have c1 := HL.out.c1; have c2 := HL.out.c2; have c3 := HL.out.c3; have c4 := HL.out.c4; have hz := HL.out.size; simp only [← HA.out] at c0 c1 c2 c3 c4 hz; have q0 := HL.out.kcell htm; have q1 := HL.out.kcell hnm; rw [← HKK.out.1] at q0; rw [← HKK.out.2] at q1) | (go_at_call 43; ((with_reducible refine (HW1.out _ HL.out.land HL.out.kinds).mono ?_)); rintro r wn ⟨rfl, hb⟩; have HLn := hid (HL.out.stays hb); clear hb c0 c1 c2 c3 c4 hz q0 q1 HL; have HL := HLn; clear HLn; have c0 := HL.out.c0; have c1 := HL.out.c1; have c2 := HL.out.c2; have c3 := HL.out.c3; have c4 := HL.out.c4; have hz := HL.out.size; simp only [← HA.out] at c0 c1 c2 c3 c4 hz; have q0 := HL.out.kcell htm; have q1 := HL.out.kcell hnm; rw [← HKK.out.1] at q0; rw [← HKK.out.2] at q1) | (go_at_call 43; ((with_reducible refine (HW2.out _ HL.out.land HL.out.kinds).mono ?_)); rintro r wn ⟨rfl, hb⟩; have HLn := hid (HL.out.stays hb); clear hb c0 c1 c2 c3 c4 hz q0 q1 HL; have HL := HLn; clear HLn; have c0 := HL.out.c0; have c1 := HL.out.c1; have c2 := HL.out.c2; have c3 := HL.out.c3; have c4 := HL.out.c4; have hz := HL.out.size; simp only [← HA.out] at c0 c1 c2 c3 c4 hz; have q0 := HL.out.kcell htm; have q1 := HL.out.kcell hnm; rw [← HKK.out.1] at q0; rw [← HKK.out.2] at q1) | (go_at_call 65; ((with_reducible refine (HF2.out _ HL.out.land).mono ?_)); rintro r wn ⟨rfl, hb⟩; have HLn := hid (HL.out.stays hb); clear hb c0 c1 c2 c3 c4 hz q0 q1 HL; have HL := HLn; clear HLn; have c0 := HL.out.c0; have c1 := HL.out.c1; have c2 := HL.out.c2; have c3 := HL.out.c3; have c4 := HL.out.c4; have hz := HL.out.size; simp only [← HA.out] at c0 c1 c2 c3 c4 hz; have q0 := HL.out.kcell htm; have q1 := HL.out.kcell hnm; rw [← HKK.out.1] at q0; rw [← HKK.out.2] at q1) | (go_at_call 74; ((with_reducible refine (HU2.out _).mono ?_)); rintro r wn ⟨rfl, rfl⟩))
              go_ret
              exact ⟨rfl, HL.out.below⟩
        · by_cases h1 : k1 = 2
          · subst h1
            obtain ⟨e1, e2, hp0⟩ := hk1 rfl
            have HE := hid (And.intro e1 e2)
            clear e1 e2
            by_cases hpar : s % 2 = p1 % 2
            · by_cases hup : s = p1
              · subst hup
                by_cases heq : l2 = l1 + 1
                · have g1 : (l2 == l1 + 1) = true := by simpa using heq
                  have hr' : r = (u : Int) := by rw [HR.out]; simp [h2]; rw [HE.out.1, HE.out.2]; unfold lft; rw [← HP.out.1];  simp [heq]
                  subst hr'
                  clear HR
                  go_enter Try.func55, Try.ntmps55
                  go_upto_region 1 with fail
                  generalize World.alloc _ _ = wv at HL ⊢
                  simp only [← hA]
                  clear hA
                  have c0 := HL.out.c0
                  have c1 := HL.out.c1
                  have c2 := HL.out.c2
                  have c3 := HL.out.c3
                  have c4 := HL.out.c4
                  have hz := HL.out.size
                  simp only [← HA.out] at c0 c1 c2 c3 c4 hz
                  have q0 := HL.out.kcell htm
                  have q1 := HL.out.kcell hnm
                  rw [← HKK.out.1] at q0
                  rw [← HKK.out.2] at q1
                  go_upto_region 17 with (first | (go_at_call 25; (refine (HBY.out _).mono ?_); rintro r wn ⟨rfl, hb⟩; have HLn := hid (HL.out.stays hb); clear hb c0 c1 c2 c3 c4 hz q0 q1 HL; have HL := HLn; clear HLn; have c0 := HL.out.c0; have c1 := HL.out.c1; have c2 := HL.out.c2; have c3 := HL.out.c3; have c4 := HL.out.c4; have hz := HL.out.size; simp only [← HA.out] at c0 c1 c2 c3 c4 hz; have q0 := HL.out.kcell htm; have q1 := HL.out.kcell hnm; rw [← HKK.out.1] at q0; rw [← HKK.out.2] at q1) | (go_at_call 43; ((with_reducible refine (HW1.out _ HL.out.land HL.out.kinds).mono ?_)); rintro r wn ⟨rfl, hb⟩; have HLn := hid (HL.out.stays hb); clear hb c0 c1 c2 c3 c4 hz q0 q1 HL; have HL := HLn; clear HLn; have c0 := HL.out.c0; have c1 := HL.out.c1; have c2 := HL.out.c2; have c3 := HL.out.c3; have c4 := HL.out.c4; have hz := HL.out.size; simp only [← HA.out] at c0 c1 c2 c3 c4 hz; have q0 := HL.out.kcell htm; have q1 := HL.out.kcell hnm; rw [← HKK.out.1] at q0; rw [← HKK.out.2] at q1) | (go_at_call 43; ((with_reducible refine (HW2.out _ HL.out.land HL.out.kinds).mono ?_)); rintro r wn ⟨rfl, hb⟩; have HLn := hid (HL.out.stays hb); clear hb c0 c1 c2 c3 c4 hz q0 q1 HL; have HL := HLn; clear HLn; have c0 := HL.out.c0; have c1 := HL.out.c1; have c2 := HL.out.c2; have c3 := HL.out.c3; have c4 := HL.out.c4; have hz := HL.out.size; simp only [← HA.out] at c0 c1 c2 c3 c4 hz; have q0 := HL.out.kcell htm; have q1 := HL.out.kcell hnm; rw [← HKK.out.1] at q0; rw [← HKK.out.2] at q1) | (go_at_call 65; ((with_reducible refine (HF1.out _ HL.out.land).mono ?_)); rintro r wn ⟨rfl, hb⟩; have HLn := hid (HL.out.stays hb); clear hb c0 c1 c2 c3 c4 hz q0 q1 HL; have HL := HLn; clear HLn; have c0 := HL.out.c0; have c1 := HL.out.c1; have c2 := HL.out.c2; have c3 := HL.out.c3; have c4 := HL.out.c4; have hz := HL.out.size; simp only [← HA.out] at c0 c1 c2 c3 c4 hz; have q0 := HL.out.kcell htm; have q1 := HL.out.kcell hnm; rw [← HKK.out.1] at q0; rw [← HKK.out.2] at q1) | (go_at_call 74; ((with_reducible refine (HU1.out _).mono ?_)); rintro r wn ⟨rfl, rfl⟩))
                  go_wp2_with fail
                  go_region_held3 (fun w' => LW W H ao (some ⟨kb, koff, none⟩) bo n cap m kcap q bcap Z K Y w w' ∧ w'.cell? ⟨A, 0, none⟩ = some (.int .i64 W) ∧ w'.cell? ⟨A, 1, none⟩ = some (.int .i64 H) ∧ w'.cell? ⟨A, 2, none⟩ = some (.slice ao n cap) ∧ w'.cell? ⟨A + 1, 0, none⟩ = some (.slice (some ⟨kb, koff, none⟩) m kcap) ∧ w'.cell? ⟨A + 1, 1, none⟩ = some (.slice bo q bcap))
                    (first
                      | exact lw_keep HA.out (And.intro HL.out trivial) ((Below.refl _ _).drew)
                      | exact lw_keep HA.out (by assumption) hb
                      | assumption)
                    (first
                      | (go_at_call 83; ((with_reducible refine (HD1.out _ (lw_l (by assumption))).mono ?_)); rintro r wx ⟨rfl, hb⟩)
                      | (go_at_call 83; ((with_reducible refine (HD2.out _ (lw_l (by assumption))).mono ?_)); rintro r wx ⟨rfl, hb⟩))
                  all_goals go_wp2_with fail
                  all_goals go_ret
                  all_goals exact ⟨rfl, lw_below (by assumption)⟩
                · have g1 : (l2 == l1 + 1) = false := by simpa using heq
                  have hr' : r = -1 := by rw [HR.out]; simp [h2]; rw [HE.out.1, HE.out.2]; unfold lft; rw [← HP.out.1];  simp [heq]
                  subst hr'
                  clear HR
                  go_enter Try.func55, Try.ntmps55
                  go_upto_region 1 with fail
                  generalize World.alloc _ _ = wv at HL ⊢
                  simp only [← hA]
                  clear hA
                  have c0 := HL.out.c0
                  have c1 := HL.out.c1
                  have c2 := HL.out.c2
                  have c3 := HL.out.c3
                  have c4 := HL.out.c4
                  have hz := HL.out.size
                  simp only [← HA.out] at c0 c1 c2 c3 c4 hz
                  have q0 := HL.out.kcell htm
                  have q1 := HL.out.kcell hnm
                  rw [← HKK.out.1] at q0
                  rw [← HKK.out.2] at q1
                  go_upto_region 17 with (first | (go_at_call 25; (refine (HBY.out _).mono ?_); rintro r wn ⟨rfl, hb⟩; have HLn := hid (HL.out.stays hb); clear hb c0 c1 c2 c3 c4 hz q0 q1 HL; have HL := HLn; clear HLn; have c0 := HL.out.c0; have c1 := HL.out.c1; have c2 := HL.out.c2; have c3 := HL.out.c3; have c4 := HL.out.c4; have hz := HL.out.size; simp only [← HA.out] at c0 c1 c2 c3 c4 hz; have q0 := HL.out.kcell htm; have q1 := HL.out.kcell hnm; rw [← HKK.out.1] at q0; rw [← HKK.out.2] at q1) | (go_at_call 43; ((with_reducible refine (HW1.out _ HL.out.land HL.out.kinds).mono ?_)); rintro r wn ⟨rfl, hb⟩; have HLn := hid (HL.out.stays hb); clear hb c0 c1 c2 c3 c4 hz q0 q1 HL; have HL := HLn; clear HLn; have c0 := HL.out.c0; have c1 := HL.out.c1; have c2 := HL.out.c2; have c3 := HL.out.c3; have c4 := HL.out.c4; have hz := HL.out.size; simp only [← HA.out] at c0 c1 c2 c3 c4 hz; have q0 := HL.out.kcell htm; have q1 := HL.out.kcell hnm; rw [← HKK.out.1] at q0; rw [← HKK.out.2] at q1) | (go_at_call 43; ((with_reducible refine (HW2.out _ HL.out.land HL.out.kinds).mono ?_)); rintro r wn ⟨rfl, hb⟩; have HLn := hid (HL.out.stays hb); clear hb c0 c1 c2 c3 c4 hz q0 q1 HL; have HL := HLn; clear HLn; have c0 := HL.out.c0; have c1 := HL.out.c1; have c2 := HL.out.c2; have c3 := HL.out.c3; have c4 := HL.out.c4; have hz := HL.out.size; simp only [← HA.out] at c0 c1 c2 c3 c4 hz; have q0 := HL.out.kcell htm; have q1 := HL.out.kcell hnm; rw [← HKK.out.1] at q0; rw [← HKK.out.2] at q1) | (go_at_call 65; ((with_reducible refine (HF1.out _ HL.out.land).mono ?_)); rintro r wn ⟨rfl, hb⟩; have HLn := hid (HL.out.stays hb); clear hb c0 c1 c2 c3 c4 hz q0 q1 HL; have HL := HLn; clear HLn; have c0 := HL.out.c0; have c1 := HL.out.c1; have c2 := HL.out.c2; have c3 := HL.out.c3; have c4 := HL.out.c4; have hz := HL.out.size; simp only [← HA.out] at c0 c1 c2 c3 c4 hz; have q0 := HL.out.kcell htm; have q1 := HL.out.kcell hnm; rw [← HKK.out.1] at q0; rw [← HKK.out.2] at q1) | (go_at_call 74; ((with_reducible refine (HU1.out _).mono ?_)); rintro r wn ⟨rfl, rfl⟩))
                  go_wp2_with fail
                  go_region_held3 (fun w' => LW W H ao (some ⟨kb, koff, none⟩) bo n cap m kcap q bcap Z K Y w w' ∧ w'.cell? ⟨A, 0, none⟩ = some (.int .i64 W) ∧ w'.cell? ⟨A, 1, none⟩ = some (.int .i64 H) ∧ w'.cell? ⟨A, 2, none⟩ = some (.slice ao n cap) ∧ w'.cell? ⟨A + 1, 0, none⟩ = some (.slice (some ⟨kb, koff, none⟩) m kcap) ∧ w'.cell? ⟨A + 1, 1, none⟩ = some (.slice bo q bcap))
                    (first
                      | exact lw_keep HA.out (And.intro HL.out trivial) ((Below.refl _ _).drew)
                      | exact lw_keep HA.out (by assumption) hb
                      | assumption)
                    (first
                      | (go_at_call 83; ((with_reducible refine (HD1.out _ (lw_l (by assumption))).mono ?_)); rintro r wx ⟨rfl, hb⟩)
                      | (go_at_call 83; ((with_reducible refine (HD2.out _ (lw_l (by assumption))).mono ?_)); rintro r wx ⟨rfl, hb⟩))
                  all_goals go_wp2_with fail
                  all_goals go_ret
                  all_goals exact ⟨rfl, lw_below (by assumption)⟩
              · have hop : s = (p1 + 2) % 4 := by omega
                have HOP := hid hop
                clear hop
                by_cases heq : l2 = l1
                · have g1 : (l2 == l1) = true := by simpa using heq
                  have hr' : r = (u : Int) := by rw [HR.out]; simp [h2]; rw [HE.out.1, HE.out.2]; unfold lft; rw [← HP.out.1];  rw [if_neg hup, if_pos HOP.out]; simp [heq]
                  subst hr'
                  clear HR
                  go_enter Try.func55, Try.ntmps55
                  go_upto_region 1 with fail
                  generalize World.alloc _ _ = wv at HL ⊢
                  simp only [← hA]
                  clear hA
                  have c0 := HL.out.c0
                  have c1 := HL.out.c1
                  have c2 := HL.out.c2
                  have c3 := HL.out.c3
                  have c4 := HL.out.c4
                  have hz := HL.out.size
                  simp only [← HA.out] at c0 c1 c2 c3 c4 hz
                  have q0 := HL.out.kcell htm
                  have q1 := HL.out.kcell hnm
                  rw [← HKK.out.1] at q0
                  rw [← HKK.out.2] at q1
                  go_upto_region 17 with (first | (go_at_call 25; (refine (HBY.out _).mono ?_); rintro r wn ⟨rfl, hb⟩; have HLn := hid (HL.out.stays hb); clear hb c0 c1 c2 c3 c4 hz q0 q1 HL; have HL := HLn; clear HLn; have c0 := HL.out.c0; have c1 := HL.out.c1; have c2 := HL.out.c2; have c3 := HL.out.c3; have c4 := HL.out.c4; have hz := HL.out.size; simp only [← HA.out] at c0 c1 c2 c3 c4 hz; have q0 := HL.out.kcell htm; have q1 := HL.out.kcell hnm; rw [← HKK.out.1] at q0; rw [← HKK.out.2] at q1) | (go_at_call 43; ((with_reducible refine (HW1.out _ HL.out.land HL.out.kinds).mono ?_)); rintro r wn ⟨rfl, hb⟩; have HLn := hid (HL.out.stays hb); clear hb c0 c1 c2 c3 c4 hz q0 q1 HL; have HL := HLn; clear HLn; have c0 := HL.out.c0; have c1 := HL.out.c1; have c2 := HL.out.c2; have c3 := HL.out.c3; have c4 := HL.out.c4; have hz := HL.out.size; simp only [← HA.out] at c0 c1 c2 c3 c4 hz; have q0 := HL.out.kcell htm; have q1 := HL.out.kcell hnm; rw [← HKK.out.1] at q0; rw [← HKK.out.2] at q1) | (go_at_call 43; ((with_reducible refine (HW2.out _ HL.out.land HL.out.kinds).mono ?_)); rintro r wn ⟨rfl, hb⟩; have HLn := hid (HL.out.stays hb); clear hb c0 c1 c2 c3 c4 hz q0 q1 HL; have HL := HLn; clear HLn; have c0 := HL.out.c0; have c1 := HL.out.c1; have c2 := HL.out.c2; have c3 := HL.out.c3; have c4 := HL.out.c4; have hz := HL.out.size; simp only [← HA.out] at c0 c1 c2 c3 c4 hz; have q0 := HL.out.kcell htm; have q1 := HL.out.kcell hnm; rw [← HKK.out.1] at q0; rw [← HKK.out.2] at q1) | (go_at_call 65; ((with_reducible refine (HF1.out _ HL.out.land).mono ?_)); rintro r wn ⟨rfl, hb⟩; have HLn := hid (HL.out.stays hb); clear hb c0 c1 c2 c3 c4 hz q0 q1 HL; have HL := HLn; clear HLn; have c0 := HL.out.c0; have c1 := HL.out.c1; have c2 := HL.out.c2; have c3 := HL.out.c3; have c4 := HL.out.c4; have hz := HL.out.size; simp only [← HA.out] at c0 c1 c2 c3 c4 hz; have q0 := HL.out.kcell htm; have q1 := HL.out.kcell hnm; rw [← HKK.out.1] at q0; rw [← HKK.out.2] at q1) | (go_at_call 74; ((with_reducible refine (HU1.out _).mono ?_)); rintro r wn ⟨rfl, rfl⟩))
                  go_wp2_with fail
                  go_region_held3 (fun w' => LW W H ao (some ⟨kb, koff, none⟩) bo n cap m kcap q bcap Z K Y w w' ∧ w'.cell? ⟨A, 0, none⟩ = some (.int .i64 W) ∧ w'.cell? ⟨A, 1, none⟩ = some (.int .i64 H) ∧ w'.cell? ⟨A, 2, none⟩ = some (.slice ao n cap) ∧ w'.cell? ⟨A + 1, 0, none⟩ = some (.slice (some ⟨kb, koff, none⟩) m kcap) ∧ w'.cell? ⟨A + 1, 1, none⟩ = some (.slice bo q bcap))
                    (first
                      | exact lw_keep HA.out (And.intro HL.out trivial) ((Below.refl _ _).drew)
                      | exact lw_keep HA.out (by assumption) hb
                      | assumption)
                    (first
                      | (go_at_call 83; ((with_reducible refine (HD1.out _ (lw_l (by assumption))).mono ?_)); rintro r wx ⟨rfl, hb⟩)
                      | (go_at_call 83; ((with_reducible refine (HD2.out _ (lw_l (by assumption))).mono ?_)); rintro r wx ⟨rfl, hb⟩))
                  all_goals go_wp2_with fail
                  all_goals go_ret
                  all_goals exact ⟨rfl, lw_below (by assumption)⟩
                · have g1 : (l2 == l1) = false := by simpa using heq
                  have hr' : r = -1 := by rw [HR.out]; simp [h2]; rw [HE.out.1, HE.out.2]; unfold lft; rw [← HP.out.1];  rw [if_neg hup, if_pos HOP.out]; simp [heq]
                  subst hr'
                  clear HR
                  go_enter Try.func55, Try.ntmps55
                  go_upto_region 1 with fail
                  generalize World.alloc _ _ = wv at HL ⊢
                  simp only [← hA]
                  clear hA
                  have c0 := HL.out.c0
                  have c1 := HL.out.c1
                  have c2 := HL.out.c2
                  have c3 := HL.out.c3
                  have c4 := HL.out.c4
                  have hz := HL.out.size
                  simp only [← HA.out] at c0 c1 c2 c3 c4 hz
                  have q0 := HL.out.kcell htm
                  have q1 := HL.out.kcell hnm
                  rw [← HKK.out.1] at q0
                  rw [← HKK.out.2] at q1
                  go_upto_region 17 with (first | (go_at_call 25; (refine (HBY.out _).mono ?_); rintro r wn ⟨rfl, hb⟩; have HLn := hid (HL.out.stays hb); clear hb c0 c1 c2 c3 c4 hz q0 q1 HL; have HL := HLn; clear HLn; have c0 := HL.out.c0; have c1 := HL.out.c1; have c2 := HL.out.c2; have c3 := HL.out.c3; have c4 := HL.out.c4; have hz := HL.out.size; simp only [← HA.out] at c0 c1 c2 c3 c4 hz; have q0 := HL.out.kcell htm; have q1 := HL.out.kcell hnm; rw [← HKK.out.1] at q0; rw [← HKK.out.2] at q1) | (go_at_call 43; ((with_reducible refine (HW1.out _ HL.out.land HL.out.kinds).mono ?_)); rintro r wn ⟨rfl, hb⟩; have HLn := hid (HL.out.stays hb); clear hb c0 c1 c2 c3 c4 hz q0 q1 HL; have HL := HLn; clear HLn; have c0 := HL.out.c0; have c1 := HL.out.c1; have c2 := HL.out.c2; have c3 := HL.out.c3; have c4 := HL.out.c4; have hz := HL.out.size; simp only [← HA.out] at c0 c1 c2 c3 c4 hz; have q0 := HL.out.kcell htm; have q1 := HL.out.kcell hnm; rw [← HKK.out.1] at q0; rw [← HKK.out.2] at q1) | (go_at_call 43; ((with_reducible refine (HW2.out _ HL.out.land HL.out.kinds).mono ?_)); rintro r wn ⟨rfl, hb⟩; have HLn := hid (HL.out.stays hb); clear hb c0 c1 c2 c3 c4 hz q0 q1 HL; have HL := HLn; clear HLn; have c0 := HL.out.c0; have c1 := HL.out.c1; have c2 := HL.out.c2; have c3 := HL.out.c3; have c4 := HL.out.c4; have hz := HL.out.size; simp only [← HA.out] at c0 c1 c2 c3 c4 hz; have q0 := HL.out.kcell htm; have q1 := HL.out.kcell hnm; rw [← HKK.out.1] at q0; rw [← HKK.out.2] at q1) | (go_at_call 65; ((with_reducible refine (HF1.out _ HL.out.land).mono ?_)); rintro r wn ⟨rfl, hb⟩; have HLn := hid (HL.out.stays hb); clear hb c0 c1 c2 c3 c4 hz q0 q1 HL; have HL := HLn; clear HLn; have c0 := HL.out.c0; have c1 := HL.out.c1; have c2 := HL.out.c2; have c3 := HL.out.c3; have c4 := HL.out.c4; have hz := HL.out.size; simp only [← HA.out] at c0 c1 c2 c3 c4 hz; have q0 := HL.out.kcell htm; have q1 := HL.out.kcell hnm; rw [← HKK.out.1] at q0; rw [← HKK.out.2] at q1) | (go_at_call 74; ((with_reducible refine (HU1.out _).mono ?_)); rintro r wn ⟨rfl, rfl⟩))
                  go_wp2_with fail
                  go_region_held3 (fun w' => LW W H ao (some ⟨kb, koff, none⟩) bo n cap m kcap q bcap Z K Y w w' ∧ w'.cell? ⟨A, 0, none⟩ = some (.int .i64 W) ∧ w'.cell? ⟨A, 1, none⟩ = some (.int .i64 H) ∧ w'.cell? ⟨A, 2, none⟩ = some (.slice ao n cap) ∧ w'.cell? ⟨A + 1, 0, none⟩ = some (.slice (some ⟨kb, koff, none⟩) m kcap) ∧ w'.cell? ⟨A + 1, 1, none⟩ = some (.slice bo q bcap))
                    (first
                      | exact lw_keep HA.out (And.intro HL.out trivial) ((Below.refl _ _).drew)
                      | exact lw_keep HA.out (by assumption) hb
                      | assumption)
                    (first
                      | (go_at_call 83; ((with_reducible refine (HD1.out _ (lw_l (by assumption))).mono ?_)); rintro r wx ⟨rfl, hb⟩)
                      | (go_at_call 83; ((with_reducible refine (HD2.out _ (lw_l (by assumption))).mono ?_)); rintro r wx ⟨rfl, hb⟩))
                  all_goals go_wp2_with fail
                  all_goals go_ret
                  all_goals exact ⟨rfl, lw_below (by assumption)⟩
            · have hn1 : s ≠ p1 := fun h => hpar (by rw [h])
              have hn2 : s ≠ (p1 + 2) % 4 := by omega
              have HNN := hid (And.intro hn1 hn2)
              clear hn1 hn2
              have hr' : r = -1 := by rw [HR.out]; simp [h2]; rw [HE.out.1, HE.out.2]; unfold lft; rw [← HP.out.1];  rw [if_neg HNN.out.1, if_neg HNN.out.2]; first | done | simp
              subst hr'
              clear HR
              go_enter Try.func55, Try.ntmps55
              go_upto_region 1 with fail
              generalize World.alloc _ _ = wv at HL ⊢
              simp only [← hA]
              clear hA
              have c0 := HL.out.c0
              have c1 := HL.out.c1
              have c2 := HL.out.c2
              have c3 := HL.out.c3
              have c4 := HL.out.c4
              have hz := HL.out.size
              simp only [← HA.out] at c0 c1 c2 c3 c4 hz
              have q0 := HL.out.kcell htm
              have q1 := HL.out.kcell hnm
              rw [← HKK.out.1] at q0
              rw [← HKK.out.2] at q1
              go_wp2_with (first | (go_at_call 25; (refine (HBY.out _).mono ?_); rintro r wn ⟨rfl, hb⟩; have HLn := hid (HL.out.stays hb); clear hb c0 c1 c2 c3 c4 hz q0 q1 HL; have HL := HLn; clear HLn; have c0 := HL.out.c0; have c1 := HL.out.c1; have c2 := HL.out.c2; have c3 := HL.out.c3; have c4 := HL.out.c4; have hz := HL.out.size; simp only [← HA.out] at c0 c1 c2 c3 c4 hz; have q0 := HL.out.kcell htm; have q1 := HL.out.kcell hnm; rw [← HKK.out.1] at q0; rw [← HKK.out.2] at q1) | (go_at_call 43; ((with_reducible refine (HW1.out _ HL.out.land HL.out.kinds).mono ?_)); rintro r wn ⟨rfl, hb⟩; have HLn := hid (HL.out.stays hb); clear hb c0 c1 c2 c3 c4 hz q0 q1 HL; have HL := HLn; clear HLn; have c0 := HL.out.c0; have c1 := HL.out.c1; have c2 := HL.out.c2; have c3 := HL.out.c3; have c4 := HL.out.c4; have hz := HL.out.size; simp only [← HA.out] at c0 c1 c2 c3 c4 hz; have q0 := HL.out.kcell htm; have q1 := HL.out.kcell hnm; rw [← HKK.out.1] at q0; rw [← HKK.out.2] at q1) | (go_at_call 43; ((with_reducible refine (HW2.out _ HL.out.land HL.out.kinds).mono ?_)); rintro r wn ⟨rfl, hb⟩; have HLn := hid (HL.out.stays hb); clear hb c0 c1 c2 c3 c4 hz q0 q1 HL; have HL := HLn; clear HLn; have c0 := HL.out.c0; have c1 := HL.out.c1; have c2 := HL.out.c2; have c3 := HL.out.c3; have c4 := HL.out.c4; have hz := HL.out.size; simp only [← HA.out] at c0 c1 c2 c3 c4 hz; have q0 := HL.out.kcell htm; have q1 := HL.out.kcell hnm; rw [← HKK.out.1] at q0; rw [← HKK.out.2] at q1) | (go_at_call 65; ((with_reducible refine (HF1.out _ HL.out.land).mono ?_)); rintro r wn ⟨rfl, hb⟩; have HLn := hid (HL.out.stays hb); clear hb c0 c1 c2 c3 c4 hz q0 q1 HL; have HL := HLn; clear HLn; have c0 := HL.out.c0; have c1 := HL.out.c1; have c2 := HL.out.c2; have c3 := HL.out.c3; have c4 := HL.out.c4; have hz := HL.out.size; simp only [← HA.out] at c0 c1 c2 c3 c4 hz; have q0 := HL.out.kcell htm; have q1 := HL.out.kcell hnm; rw [← HKK.out.1] at q0; rw [← HKK.out.2] at q1) | (go_at_call 74; ((with_reducible refine (HU1.out _).mono ?_)); rintro r wn ⟨rfl, rfl⟩))
              go_ret
              exact ⟨rfl, HL.out.below⟩
          · by_cases heq : l1 = l2
            · have g1 : (l2 == l1) = true := by simpa using heq.symm
              have hr' : r = (u : Int) := by rw [HR.out]; simp [h1, h2, heq]
              subst hr'
              clear HR
              go_enter Try.func55, Try.ntmps55
              go_upto_region 1 with fail
              generalize World.alloc _ _ = wv at HL ⊢
              simp only [← hA]
              clear hA
              have c0 := HL.out.c0
              have c1 := HL.out.c1
              have c2 := HL.out.c2
              have c3 := HL.out.c3
              have c4 := HL.out.c4
              have hz := HL.out.size
              simp only [← HA.out] at c0 c1 c2 c3 c4 hz
              have q0 := HL.out.kcell htm
              have q1 := HL.out.kcell hnm
              rw [← HKK.out.1] at q0
              rw [← HKK.out.2] at q1
              go_upto_region 17 with (first | (go_at_call 25; (refine (HBY.out _).mono ?_); rintro r wn ⟨rfl, hb⟩; have HLn := hid (HL.out.stays hb); clear hb c0 c1 c2 c3 c4 hz q0 q1 HL; have HL := HLn; clear HLn; have c0 := HL.out.c0; have c1 := HL.out.c1; have c2 := HL.out.c2; have c3 := HL.out.c3; have c4 := HL.out.c4; have hz := HL.out.size; simp only [← HA.out] at c0 c1 c2 c3 c4 hz; have q0 := HL.out.kcell htm; have q1 := HL.out.kcell hnm; rw [← HKK.out.1] at q0; rw [← HKK.out.2] at q1) | (go_at_call 43; ((with_reducible refine (HW1.out _ HL.out.land HL.out.kinds).mono ?_)); rintro r wn ⟨rfl, hb⟩; have HLn := hid (HL.out.stays hb); clear hb c0 c1 c2 c3 c4 hz q0 q1 HL; have HL := HLn; clear HLn; have c0 := HL.out.c0; have c1 := HL.out.c1; have c2 := HL.out.c2; have c3 := HL.out.c3; have c4 := HL.out.c4; have hz := HL.out.size; simp only [← HA.out] at c0 c1 c2 c3 c4 hz; have q0 := HL.out.kcell htm; have q1 := HL.out.kcell hnm; rw [← HKK.out.1] at q0; rw [← HKK.out.2] at q1) | (go_at_call 43; ((with_reducible refine (HW2.out _ HL.out.land HL.out.kinds).mono ?_)); rintro r wn ⟨rfl, hb⟩; have HLn := hid (HL.out.stays hb); clear hb c0 c1 c2 c3 c4 hz q0 q1 HL; have HL := HLn; clear HLn; have c0 := HL.out.c0; have c1 := HL.out.c1; have c2 := HL.out.c2; have c3 := HL.out.c3; have c4 := HL.out.c4; have hz := HL.out.size; simp only [← HA.out] at c0 c1 c2 c3 c4 hz; have q0 := HL.out.kcell htm; have q1 := HL.out.kcell hnm; rw [← HKK.out.1] at q0; rw [← HKK.out.2] at q1))
              go_wp2_with fail
              go_region_held3 (fun w' => LW W H ao (some ⟨kb, koff, none⟩) bo n cap m kcap q bcap Z K Y w w' ∧ w'.cell? ⟨A, 0, none⟩ = some (.int .i64 W) ∧ w'.cell? ⟨A, 1, none⟩ = some (.int .i64 H) ∧ w'.cell? ⟨A, 2, none⟩ = some (.slice ao n cap) ∧ w'.cell? ⟨A + 1, 0, none⟩ = some (.slice (some ⟨kb, koff, none⟩) m kcap) ∧ w'.cell? ⟨A + 1, 1, none⟩ = some (.slice bo q bcap))
                (first
                  | exact lw_keep HA.out (And.intro HL.out trivial) ((Below.refl _ _).drew)
                  | exact lw_keep HA.out (by assumption) hb
                  | assumption)
                (first
                  | (go_at_call 83; ((with_reducible refine (HD1.out _ (lw_l (by assumption))).mono ?_)); rintro r wx ⟨rfl, hb⟩)
                  | (go_at_call 83; ((with_reducible refine (HD2.out _ (lw_l (by assumption))).mono ?_)); rintro r wx ⟨rfl, hb⟩))
              all_goals go_wp2_with fail
              all_goals go_ret
              all_goals exact ⟨rfl, lw_below (by assumption)⟩
            · have g1 : (l2 == l1) = false := by simpa using fun h => heq h.symm
              have hr' : r = -1 := by rw [HR.out]; simp [h1, h2, heq]
              subst hr'
              clear HR
              go_enter Try.func55, Try.ntmps55
              go_upto_region 1 with fail
              generalize World.alloc _ _ = wv at HL ⊢
              simp only [← hA]
              clear hA
              have c0 := HL.out.c0
              have c1 := HL.out.c1
              have c2 := HL.out.c2
              have c3 := HL.out.c3
              have c4 := HL.out.c4
              have hz := HL.out.size
              simp only [← HA.out] at c0 c1 c2 c3 c4 hz
              have q0 := HL.out.kcell htm
              have q1 := HL.out.kcell hnm
              rw [← HKK.out.1] at q0
              rw [← HKK.out.2] at q1
              go_upto_region 17 with (first | (go_at_call 25; (refine (HBY.out _).mono ?_); rintro r wn ⟨rfl, hb⟩; have HLn := hid (HL.out.stays hb); clear hb c0 c1 c2 c3 c4 hz q0 q1 HL; have HL := HLn; clear HLn; have c0 := HL.out.c0; have c1 := HL.out.c1; have c2 := HL.out.c2; have c3 := HL.out.c3; have c4 := HL.out.c4; have hz := HL.out.size; simp only [← HA.out] at c0 c1 c2 c3 c4 hz; have q0 := HL.out.kcell htm; have q1 := HL.out.kcell hnm; rw [← HKK.out.1] at q0; rw [← HKK.out.2] at q1) | (go_at_call 43; ((with_reducible refine (HW1.out _ HL.out.land HL.out.kinds).mono ?_)); rintro r wn ⟨rfl, hb⟩; have HLn := hid (HL.out.stays hb); clear hb c0 c1 c2 c3 c4 hz q0 q1 HL; have HL := HLn; clear HLn; have c0 := HL.out.c0; have c1 := HL.out.c1; have c2 := HL.out.c2; have c3 := HL.out.c3; have c4 := HL.out.c4; have hz := HL.out.size; simp only [← HA.out] at c0 c1 c2 c3 c4 hz; have q0 := HL.out.kcell htm; have q1 := HL.out.kcell hnm; rw [← HKK.out.1] at q0; rw [← HKK.out.2] at q1) | (go_at_call 43; ((with_reducible refine (HW2.out _ HL.out.land HL.out.kinds).mono ?_)); rintro r wn ⟨rfl, hb⟩; have HLn := hid (HL.out.stays hb); clear hb c0 c1 c2 c3 c4 hz q0 q1 HL; have HL := HLn; clear HLn; have c0 := HL.out.c0; have c1 := HL.out.c1; have c2 := HL.out.c2; have c3 := HL.out.c3; have c4 := HL.out.c4; have hz := HL.out.size; simp only [← HA.out] at c0 c1 c2 c3 c4 hz; have q0 := HL.out.kcell htm; have q1 := HL.out.kcell hnm; rw [← HKK.out.1] at q0; rw [← HKK.out.2] at q1))
              go_wp2_with fail
              go_region_held3 (fun w' => LW W H ao (some ⟨kb, koff, none⟩) bo n cap m kcap q bcap Z K Y w w' ∧ w'.cell? ⟨A, 0, none⟩ = some (.int .i64 W) ∧ w'.cell? ⟨A, 1, none⟩ = some (.int .i64 H) ∧ w'.cell? ⟨A, 2, none⟩ = some (.slice ao n cap) ∧ w'.cell? ⟨A + 1, 0, none⟩ = some (.slice (some ⟨kb, koff, none⟩) m kcap) ∧ w'.cell? ⟨A + 1, 1, none⟩ = some (.slice bo q bcap))
                (first
                  | exact lw_keep HA.out (And.intro HL.out trivial) ((Below.refl _ _).drew)
                  | exact lw_keep HA.out (by assumption) hb
                  | assumption)
                (first
                  | (go_at_call 83; ((with_reducible refine (HD1.out _ (lw_l (by assumption))).mono ?_)); rintro r wx ⟨rfl, hb⟩)
                  | (go_at_call 83; ((with_reducible refine (HD2.out _ (lw_l (by assumption))).mono ?_)); rintro r wx ⟨rfl, hb⟩))
              all_goals go_wp2_with fail
              all_goals go_ret
              all_goals exact ⟨rfl, lw_below (by assumption)⟩
end Go.Proofs.Ytkpnngpnjimogaa
