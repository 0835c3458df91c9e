/-
  The walks of stable and of SortStableFunc of numbers.
-/
import Derived.Test.YtnfcibcpmaehoaaQSyI
import Derived.Test.YtnfcibcpmaehoaaQBls
namespace Go.Proofs.Ytnfcibcpmaehoaa
open Go.RowKit

set_option maxRecDepth 100000 in
set_option maxHeartbeats 12800000 in
theorem stbI_any (B g N c : Nat) (E : Nat → Int) (r : Nat → Int) (G : Nat) (lb : Array Value) (eg : ∀ args w, (callFunc G args).run Try.prog w = .ok (.enter G args) w) (hrk : Rk N r) (hN : N ≤ 100000) (w : World) (hM : SMI B g N c E (fun p => p) w) (hcm : CmI G lb g N E r w) :
    Calls Try.prog 92 #[.slice (some ⟨g, 0, none⟩) N c, .int .i64 (N : Int), .func (.func G) #[] lb] w fun e w' => e = .returned (.tuple #[]) ∧ ∃ F, SMI B g N c E F w' ∧ Pf N F ∧ Tn g w w' ∧ Srt r 0 N F := by
  have HCM := hid hcm
  have HM := hid hM
  have HIN := hid (fun (F : Nat → Nat) (hf : Pf N F) (a b : Nat) (hab : a ≤ b) (hb : b ≤ N) (hord : ∀ p q, a ≤ p → p < q → q < b → F p < F q) (w' : World) (hM' : SMI B g N c E F w') (hT : Tn g w w') => insI_any B g N c E r G lb eg hrk F hN hf a b hab hb hord w' hM' (hcm.on hT))
  have HSY := hid (fun (F : Nat → Nat) (a m b : Nat) (w' : World) (ham : a < m) (hmb : m < b) (hb : b ≤ N) (hf : Pf N F) (h1 : Srt r a m F) (h2 : Srt r m b F) (hi : Idx a m b F) (hM' : SMI B g N c E F w') (hT : Tn g w w') => shI B g N c E r G lb eg hrk hN (b - a + 1) F a m b w' (by omega) ham hmb hb hf h1 h2 hi hM' (hcm.on hT))
  clear hM hcm hrk
  go_enter Try.func92, Try.ntmps92
  go_wp2_with fail
  go_loopw [7, 8] (fun av bv wr => ∃ k a b : Nat, 20 * k = a ∧ b = a + 20 ∧ a ≤ N ∧ av = .int .i64 a ∧ bv = .int .i64 b ∧ Hid (∃ F, SMI B g N c E F wr ∧ Pf N F ∧ Tn g w wr ∧ Bs r N 1 20 a F)) (fun av _ _ => N - (intOf av).toNat)
  case atStart => exact ⟨0, 0, 20, rfl, rfl, Nat.zero_le _, rfl, rfl, hid ⟨_, HM.out, Pf.id N, Tn.refl _ _, Bs.start r N 20⟩⟩
  case round =>
    clear HM
    obtain ⟨k, a, b, hk, hb, ha, rfl, rfl, HS⟩ := hrel
    obtain ⟨F, h1, h2, h3, h4⟩ := HS.out
    by_cases hlt : b ≤ N
    · have wb : IntKind.i64.wrap ((b : Int) + 20) = ((b + 20 : Nat) : Int) := by rw [IntKind.wrap_i64]; omega
      have HC := hid (HIN.out F h2 a b (by omega) hlt (h4.ord hlt) wr h1 h3)
      have HT := hid h3
      have HB := hid h4
      have HK := hid hk
      have HBA := hid hb
      clear h1 h2 h3 h4 HS hk hb
      go_wp2_with fail
      refine HC.out.mono ?_
      rintro e5 w5 ⟨rfl, F1, k1, k2, k3, k4, k5⟩
      have HN1 := hid (show ∃ F, SMI B g N c E F w5 ∧ Pf N F ∧ Tn g w w5 ∧ Bs r N 1 20 b F from ⟨F1, k1, k2, HT.out.trans k3, by
        have h := HB.out
        rw [← HK.out] at h k4 k5
        exact h.step dv_one (by omega) (.inl (by rw [HK.out]; exact HBA.out)) (by rw [HK.out, HBA.out]; omega) hlt k4 k5⟩)
      clear k1 k2 k3 k4 k5 HC HT HB
      go_wp2_with fail
      go_roundw
      case rel => exact ⟨k + 1, b, b + 20, by have := HK.out; have := HBA.out; omega, rfl, hlt, rfl, rfl, HN1⟩
      case measure => have := HBA.out; simp [intOf]; omega
    · have HC := hid (HIN.out F h2 a N ha (Nat.le_refl _) (h4.ord (Nat.le_refl _)) wr h1 h3)
      have HT := hid h3
      have HB := hid h4
      have HK := hid hk
      have HBA := hid (show N ≤ a + 20 by omega)
      clear h1 h2 h3 h4 HS hk
      go_wp2_with fail
      refine HC.out.mono ?_
      rintro e5 w5 ⟨rfl, F1, k1, k2, k3, k4, k5⟩
      have HN1 := hid (show ∃ F, SMI B g N c E F w5 ∧ Pf N F ∧ Tn g w w5 ∧ Bs r N 20 (20 * 2) 0 F from ⟨F1, k1, k2, HT.out.trans k3, by
        have h := HB.out
        rw [← HK.out] at h k4 k5
        exact (h.step dv_one (by omega) (.inr ⟨rfl, by rw [HK.out]; exact HBA.out⟩) (by rw [HK.out]; exact ha) (Nat.le_refl _) k4 k5).next dv_one⟩)
      clear k1 k2 k3 k4 k5 HC HT HB HK HBA hlt ha hb HIN
      go_wp2_with fail
      go_loopw [6] (fun sv wr => ∃ s : Nat, 20 ≤ s ∧ s ≤ 200000 ∧ sv = .int .i64 s ∧ Hid (∃ F, SMI B g N c E F wr ∧ Pf N F ∧ Tn g w wr ∧ Bs r N s (s * 2) 0 F)) (fun sv _ => N - (intOf sv).toNat)
      case atStart => exact ⟨20, by omega, by omega, rfl, HN1⟩
      case round =>
        clear HN1
        obtain ⟨s, hs, hs2, rfl, HS⟩ := hrel
        by_cases hsn : s < N
        · obtain ⟨t, ht⟩ : ∃ t, t = s * 2 := ⟨_, rfl⟩
          have wt : IntKind.i64.wrap (2 * (s : Int)) = (t : Int) := by rw [IntKind.wrap_i64]; omega
          have wt2 : IntKind.i64.wrap ((s : Int) * 2) = (t : Int) := by rw [IntKind.wrap_i64]; omega
          have HTS := hid ht
          have HS0 := hid hs
          clear ht hs hs2
          go_wp2_with fail
          go_loopw [7, 8] (fun av bv wr => ∃ k a b : Nat, t * k = a ∧ b = a + t ∧ a ≤ N ∧ av = .int .i64 a ∧ bv = .int .i64 b ∧ Hid (∃ F, SMI B g N c E F wr ∧ Pf N F ∧ Tn g w wr ∧ Bs r N s t a F)) (fun av _ _ => N - (intOf av).toNat)
          case atStart => exact ⟨0, 0, t, by omega, by omega, Nat.zero_le _, rfl, rfl, by rw [HTS.out]; exact HS⟩
          case round =>
            clear HS
            obtain ⟨k, a, b, hk, hb, ha, rfl, rfl, HS⟩ := hrel
            obtain ⟨F, h1, h2, h3, h4⟩ := HS.out
            have hts := HTS.out
            have hs0 := HS0.out
            obtain ⟨m, hm⟩ : ∃ m, m = a + s := ⟨_, rfl⟩
            have wm : IntKind.i64.wrap ((a : Int) + (s : Int)) = (m : Int) := by rw [IntKind.wrap_i64]; omega
            have hst : ∀ p q, p / s = q / s → p / t = q / t := by rw [hts]; exact dv_two
            have h4' : Bs r N s (s * 2) (s * 2 * k) F := by rw [← hts, hk]; exact h4
            have hk' : s * 2 * k = a := by rw [← hts]; exact hk
            by_cases hlt : b ≤ N
            · have wb : IntKind.i64.wrap ((b : Int) + (t : Int)) = ((b + t : Nat) : Int) := by rw [IntKind.wrap_i64]; omega
              have HC := hid (HSY.out F a m b wr (by omega) (by omega) hlt h2 (by have := h4'.merge hlt; rw [hk', ← hm] at this; exact this.resolve_right (by omega)) (by have := h4'.merge2 hlt (by omega); rw [hk', ← hm] at this; exact this) (by have := h4'.idx hlt (by omega); rw [hk', ← hm] at this; exact this) h1 h3)
              have HT := hid h3
              have HB := hid h4
              have HK := hid hk
              have HBA := hid hb
              have HST := hid hst
              have HM0 := hid hm
              clear h1 h2 h3 h4 h4' HS hk hk' hb hst hts hs0 hm
              go_wp2_with fail
              refine HC.out.mono ?_
              rintro e5 w5 ⟨rfl, F1, k1, k2, k3, k4, k5⟩
              have HN1 := hid (show ∃ F, SMI B g N c E F w5 ∧ Pf N F ∧ Tn g w w5 ∧ Bs r N s t b F from ⟨F1, k1, k2, HT.out.trans k3, by
                have h := HB.out
                have := HTS.out
                have := HS0.out
                rw [← HK.out] at h k4 k5
                exact h.step HST.out (by omega) (.inl (by rw [HK.out]; exact HBA.out)) (by rw [HK.out, HBA.out]; omega) hlt k4 k5⟩)
              clear k1 k2 k3 k4 k5 HC HT HB
              go_wp2_with fail
              go_roundw
              case rel => exact ⟨k + 1, b, b + t, by have := HK.out; have := HBA.out; rw [Nat.mul_add]; omega, rfl, hlt, rfl, rfl, HN1⟩
              case measure => have := HBA.out; have := HTS.out; have := HS0.out; simp [intOf]; omega
            · by_cases hmn : m < N
              · have HC := hid (HSY.out F a m N wr (by omega) hmn (Nat.le_refl _) h2 (by have := h4'.merge (Nat.le_refl _); rw [hk', ← hm] at this; exact this.resolve_right (by omega)) (by have := h4'.merge2 (Nat.le_refl _) (by omega); rw [hk', ← hm] at this; exact this) (by have := h4'.idx (Nat.le_refl _) (by omega); rw [hk', ← hm] at this; exact this) h1 h3)
                have HT := hid h3
                have HB := hid h4
                have HK := hid hk
                have HBA := hid (show N ≤ a + t by omega)
                have HST := hid hst
                have HM0 := hid hm
                clear h1 h2 h3 h4 h4' HS hk hk' hb hst hts hs0 hm
                go_wp2_with fail
                refine HC.out.mono ?_
                rintro e5 w5 ⟨rfl, F1, k1, k2, k3, k4, k5⟩
                have HN1 := hid (show ∃ F, SMI B g N c E F w5 ∧ Pf N F ∧ Tn g w w5 ∧ Bs r N t (t * 2) 0 F from ⟨F1, k1, k2, HT.out.trans k3, by
                  have h := HB.out
                  have := HTS.out
                  have := HS0.out
                  rw [← HK.out] at h k4 k5
                  exact (h.step HST.out (by omega) (.inr ⟨rfl, by rw [HK.out]; exact HBA.out⟩) (by rw [HK.out]; exact ha) (Nat.le_refl _) k4 k5).next HST.out⟩)
                clear k1 k2 k3 k4 k5 HC HT HB
                go_wp2_with fail
                go_roundw
                case rel => exact ⟨t, by have := HTS.out; have := HS0.out; omega, by have := HTS.out; have := HM0.out; omega, rfl, HN1⟩
                case measure => have := HTS.out; have := HS0.out; simp [intOf]; omega
              · have HN1 := hid (show ∃ F, SMI B g N c E F wr ∧ Pf N F ∧ Tn g w wr ∧ Bs r N t (t * 2) 0 F from ⟨F, h1, h2, h3, by
                  rw [hts]
                  exact (h4'.alone (by omega) (by omega)).next dv_two⟩)
                have HM0 := hid (show s ≤ N ∧ N ≤ 100000 by omega)
                clear h1 h2 h3 h4 h4' HS hk hk' hb hst hts hs0 hm
                go_wp2_with fail
                go_roundw
                case rel => exact ⟨t, by have := HTS.out; have := HS0.out; omega, by have := HTS.out; have := HM0.out; omega, rfl, HN1⟩
                case measure => have := HTS.out; have := HS0.out; simp [intOf]; omega
        · obtain ⟨F, h1, h2, h3, h4⟩ := HS.out
          have HF := hid (show ∃ F, SMI B g N c E F wr ∧ Pf N F ∧ Tn g w wr ∧ Srt r 0 N F from ⟨F, h1, h2, h3, h4.srt (by omega)⟩)
          clear HS h1 h2 h3 h4
          go_wp2_with fail
          go_end0
          exact ⟨rfl, HF.out⟩
set_option maxRecDepth 100000 in
set_option maxHeartbeats 1600000 in
theorem sortI_any (B g N c : Nat) (E : Nat → Int) (r : Nat → Int) (G : Nat) (lb : Array Value) (eg : ∀ args w, (callFunc G args).run Try.prog w = .ok (.enter G args) w) (hrk : Rk N r) (hN : N ≤ 100000) (w : World) (hM : SMI B g N c E (fun p => p) w) (hcm : CmI G lb g N E r w) :
    Calls Try.prog 90 #[.slice (some ⟨g, 0, none⟩) N c, .func (.func G) #[] lb] w fun e w' => e = .returned (.tuple #[]) ∧ ∃ F, SMI B g N c E F w' ∧ Pf N F ∧ Tn g w w' ∧ Srt r 0 N F := by
  have HC := hid (stbI_any B g N c E r G lb eg hrk hN w hM hcm)
  clear hM hcm hrk
  go_enter Try.func90, Try.ntmps90
  go_wp2_with fail
  refine HC.out.mono ?_
  rintro e5 w5 ⟨rfl, hx⟩
  have HX := hid hx
  clear hx HC
  go_wp2_with fail
  go_end0
  exact ⟨rfl, HX.out⟩
end Go.Proofs.Ytnfcibcpmaehoaa
