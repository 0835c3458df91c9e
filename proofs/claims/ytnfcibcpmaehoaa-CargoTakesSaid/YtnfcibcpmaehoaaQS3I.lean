/-
  The walk of symMerge of numbers, where two ranges are parted.
-/
import Derived.Test.YtnfcibcpmaehoaaQS1I
import Derived.Test.YtnfcibcpmaehoaaQS2I
import Derived.Test.YtnfcibcpmaehoaaQSmp
import Derived.Test.YtnfcibcpmaehoaaQGrI
namespace Go.Proofs.Ytnfcibcpmaehoaa
open Go.RowKit

/-- symMerge of ranges that are shorter. -/
def ShI (B g N c : Nat) (E : Nat → Int) (r : Nat → Int) (G : Nat) (lb : Array Value) (k : Nat) : Prop :=
  ∀ (F : Nat → Nat) (a m b : Nat) (w : World), b - a < k → a < m → m < b → b ≤ N → Pf N F → Srt r a m F → Srt r m b F → Idx a m b F → SMI B g N c E F w → CmI G lb g N E r w →
    Calls Try.prog 96 #[.slice (some ⟨g, 0, none⟩) N c, .int .i64 (a : Int), .int .i64 (m : Int), .int .i64 (b : Int), .func (.func G) #[] lb] w fun e w' => e = .returned (.tuple #[]) ∧ ∃ F', SMI B g N c E F' w' ∧ Pf N F' ∧ Tn g w w' ∧ Srt r a b F' ∧ In a b F F'
set_option maxRecDepth 100000 in
set_option maxHeartbeats 25600000 in
theorem sym3I_any (B g N c : Nat) (E : Nat → Int) (r : Nat → Int) (G : Nat) (lb : Array Value) (eg : ∀ args w, (callFunc G args).run Try.prog w = .ok (.enter G args) w) (hrk : Rk N r) (F : Nat → Nat) (hN : N ≤ 100000) (hf : Pf N F) (a m b : Nat) (_ : a < m) (_ : m < b) (hb : b ≤ N) (h1 : Srt r a m F) (h2 : Srt r m b F) (hi : Idx a m b F) (w : World) (hM : SMI B g N c E F w) (hcm : CmI G lb g N E r w) (hIH : ShI B g N c E r G lb (b - a)) (ham : a + 2 ≤ m) (hmb : m + 2 ≤ b) :
    Calls Try.prog 96 #[.slice (some ⟨g, 0, none⟩) N c, .int .i64 (a : Int), .int .i64 (m : Int), .int .i64 (b : Int), .func (.func G) #[] lb] w fun e w' => e = .returned (.tuple #[]) ∧ ∃ F', SMI B g N c E F' w' ∧ Pf N F' ∧ Tn g w w' ∧ Srt r a b F' ∧ In a b F F' := by
  have HCM0 := hid hcm
  have HRK := hid hrk
  have HPF := hid hf
  have HIX := hid hi
  have HS1' := hid h1
  have HS2' := hid h2
  have HM := hid hM
  have HIH := hid hIH
  obtain ⟨d, hd⟩ : ∃ d, d = m - a := ⟨_, rfl⟩
  have wd : IntKind.i64.wrap ((m : Int) - (a : Int)) = (d : Int) := by rw [IntKind.wrap_i64]; omega
  have hd1 : ((d : Int) == 1) = false := by simp; omega
  obtain ⟨d', hd'⟩ : ∃ d, d = b - m := ⟨_, rfl⟩
  have wd' : IntKind.i64.wrap ((b : Int) - (m : Int)) = (d' : Int) := by rw [IntKind.wrap_i64]; omega
  have hd2 : ((d' : Int) == 1) = false := by simp; omega
  obtain ⟨mid, hmid⟩ : ∃ h, h = (a + b) / 2 := ⟨_, rfl⟩
  have q1 : ((a : Int) + (b : Int)) / 2 = (mid : Int) := by omega
  have q2 : IntKind.i64.wrap ((a : Int) + (b : Int)) = (a : Int) + (b : Int) := by rw [IntKind.wrap_i64]; omega
  have q3 : IntKind.u64.wrap ((a : Int) + (b : Int)) = (a : Int) + (b : Int) := by rw [IntKind.wrap_u64]; omega
  obtain ⟨n, hn⟩ : ∃ n, n = mid + m := ⟨_, rfl⟩
  have wn : IntKind.i64.wrap ((mid : Int) + (m : Int)) = (n : Int) := by rw [IntKind.wrap_i64]; omega
  have HSB := hid (sbd ham hmb hmid)
  have HNM := hid hn
  have HMID : Hid (a + 2 ≤ mid ∧ mid + 2 ≤ b) := hid (by omega)
  obtain ⟨nb, hnb⟩ : ∃ x, x = mid + m - b := ⟨_, rfl⟩
  have HNB := hid hnb
  have wnb : mid < m → IntKind.i64.wrap ((n : Int) - (b : Int)) = (nb : Int) := fun h => by rw [IntKind.wrap_i64]; omega
  have HWNB := hid wnb
  clear hM hcm hrk hf hi h1 h2 hIH hd hd' hmid hn hnb wnb
  go_enter Try.func96, Try.ntmps96
  go_upto_if 140 with fail
  go_cut [20, 21] (fun s20 s21 wx => ∃ s0 r0 : Nat, s20 = .int .i64 s0 ∧ s21 = .int .i64 r0 ∧ Hid (SBd a m b mid s0 r0) ∧ w = wx)
  case first =>
    by_cases hmm : mid < m
    · have hmm2 : (mid : Int) < (m : Int) := by omega
      have wnb2 := HWNB.out hmm
      have HB := hid (HSB.out.1 hmm)
      go_wp2_with fail
      go_meet
      exact ⟨nb, mid, rfl, rfl, by rw [HNB.out]; exact HB, rfl⟩
    · have hmm2 : ¬ (mid : Int) < (m : Int) := by omega
      have HB := hid (HSB.out.2 hmm)
      go_wp2_with fail
      go_meet
      exact ⟨a, m, rfl, rfl, HB, rfl⟩
  case rest =>
    obtain ⟨s0, r0, rfl, rfl, HSBD, rfl⟩ := hcut
    obtain ⟨p, hp⟩ : ∃ p, p = n - 1 := ⟨_, rfl⟩
    have wp : IntKind.i64.wrap ((n : Int) - 1) = (p : Int) := by have := HNM.out; rw [IntKind.wrap_i64]; omega
    have HPN := hid hp
    clear hp HSB HNB HWNB
    go_wp2_with fail
    go_loopw [20, 21] (fun sv qv wr => ∃ s q : Nat, s0 ≤ s ∧ s ≤ q ∧ q ≤ r0 ∧ sv = .int .i64 s ∧ qv = .int .i64 q ∧ Hid ((SMI B g N c E F wr ∧ Tn g w wr) ∧ (∀ c, s0 ≤ c → c < s → r (F c) < r (F (mid + m - 1 - c))) ∧ (∀ c, q ≤ c → c < r0 → r (F (mid + m - 1 - c)) < r (F c)))) (fun sv qv _ => (intOf qv).toNat - (intOf sv).toNat)
    case atStart => exact ⟨s0, r0, Nat.le_refl _, HSBD.out.le, Nat.le_refl _, rfl, rfl, hid ⟨⟨HM.out, Tn.refl _ _⟩, fun q q1 q2 => by omega, fun q q1 q2 => by omega⟩⟩
    case round =>
      clear HM wd hd1 wd' hd2 q1 q2 q3 wn
      obtain ⟨s, q, hst, hsq, hq1, rfl, rfl, HS⟩ := hrel
      by_cases hlt : s < q
      · obtain ⟨h, hh⟩ : ∃ h, h = (s + q) / 2 := ⟨_, rfl⟩
        have hbs : r0 ≤ m ∧ r0 ≤ mid ∧ a ≤ s0 ∧ mid + m ≤ s0 + b := ⟨HSBD.out.rm, HSBD.out.rmid, HSBD.out.sa, HSBD.out.up⟩
        obtain ⟨u, hu⟩ : ∃ u, u = mid + m - 1 - h := ⟨_, rfl⟩
        have q1 : ((s : Int) + (q : Int)) / 2 = (h : Int) := by omega
        have q2 : IntKind.i64.wrap ((s : Int) + (q : Int)) = (s : Int) + (q : Int) := by rw [IntKind.wrap_i64]; omega
        have q3 : IntKind.u64.wrap ((s : Int) + (q : Int)) = (s : Int) + (q : Int) := by rw [IntKind.wrap_u64]; omega
        have wu : IntKind.i64.wrap ((p : Int) - (h : Int)) = (u : Int) := by have := HPN.out; have := HNM.out; rw [IntKind.wrap_i64]; omega
        have wh : IntKind.i64.wrap ((h : Int) + 1) = ((h + 1 : Nat) : Int) := by rw [IntKind.wrap_i64]; omega
        have h0 : (0 : Int) ≤ (h : Int) := by omega
        have hhN : (h : Int) < (N : Int) := by omega
        have HH0 : Hid (s ≤ h ∧ h < q ∧ a ≤ h ∧ h < m ∧ m ≤ u ∧ u < b) := hid (by omega)
        have HU := hid hu
        have HSM := hid HS.out.1.1
        have HT := hid HS.out.1.2
        have HLO := hid HS.out.2.1
        have HHI := hid HS.out.2.2
        clear HS
        obtain ⟨Z, hZ⟩ : ∃ Z, wr.heap.size = Z := ⟨_, rfl⟩
        have HZ := hid hZ
        have hZZ : Z ≤ wr.heap.size := Nat.le_of_eq hZ.symm
        have HTT : Hid (∀ W, Below Z wr W → Tn g wr W) := hid (fun W hW => Tn.of_below (by rw [hZ]; exact hW))
        have HCM := hid (fun W (hW : Below Z wr W) => HCM0.out W (F h) (F u) (HIX.out h u (by omega) (by omega) (by omega) (by omega)) (HPF.out.lt u (by omega)) (HT.out.trans (HTT.out W hW)))
        have HS1 : Hid (((Below Z wr wr ∧ g < wr.heap.size) ∧ (wr.cell? ⟨g, u, none⟩ = some (.int .i64 (E (F u))))) ∧ (wr.cell? ⟨g, h, none⟩ = some (.int .i64 (E (F h))))) := hid ⟨⟨⟨Below.refl _ _, HSM.out.lt.2⟩, HSM.out.at_ (i := u) (by omega)⟩, HSM.out.at_ (i := h) (by omega)⟩
        clear hZ
        clear hh hu hbs
        go_upto_region 35 with fail
        refine cmprI (F := F) (p := p) (h := h) (u := u) (Z := Z) eg (by have := HH0.out; omega) (by have := HH0.out; omega) wu HSM.out HZ.out (fun W hW => HCM.out W hW) _ (fun w5 cs hcs hbw => ?_)
        dsimp only
        have HSM5 := hid (show SMI B g N c E F w5 from HSM.out.stays (hbw.mono (Nat.le_of_eq HZ.out)))
        have HT5 := hid (HT.out.trans (HTT.out _ hbw))
        clear hbw HS1 HSM HT
        by_cases hcmp : r (F u) < r (F h)
        · have HHI2 := hid (sym_yes HS1'.out HS2'.out HSBD.out (c := h) (by have := HH0.out; omega) (by have := HH0.out; omega) (by rw [← HU.out]; exact hcmp))
          have hs0 : cs < 0 := hcs.2 hcmp
          have hs1 : decide (cs < 0) = true := decide_eq_true hs0
          simp only [hs1, Bool.not_true]
          clear hcs hcmp hs1 hs0
          go_wp2_with fail
          go_roundw
          case rel => exact ⟨s, h, hst, HH0.out.1, by have := HH0.out; omega, rfl, rfl, hid ⟨⟨HSM5.out, HT5.out⟩, HLO.out, HHI2.out⟩⟩
          case measure => have := HH0.out; simp [intOf]; omega
        · have HLO2 := hid (sym_no HS1'.out HS2'.out HSBD.out (c := h) (by have := HH0.out; omega) (by have := HH0.out; omega) (by rw [← HU.out]; exact HRK.out.not HPF.out (by have := HH0.out; omega) (by have := HH0.out; omega) (by have := HH0.out; omega) hcmp))
          have hs0 : ¬ cs < 0 := fun h => hcmp (hcs.1 h)
          have hs1 : decide (cs < 0) = false := decide_eq_false hs0
          simp only [hs1, Bool.not_false]
          clear hcs hcmp hs1 hs0
          go_wp2_with fail
          go_roundw
          case rel => exact ⟨h + 1, q, by have := HH0.out; omega, by have := HH0.out; omega, hq1, rfl, rfl, hid ⟨⟨HSM5.out, HT5.out⟩, HLO2.out, HHI.out⟩⟩
          case measure => have := HH0.out; simp [intOf]; omega
      · obtain rfl : s = q := by omega
        obtain ⟨e, he⟩ : ∃ e, e = mid + m - s := ⟨_, rfl⟩
        have hes : e + s = mid + m := by have := HSBD.out.rm; omega
        have HBD := hid (sym_bd HSBD.out hst hq1 hes)
        have we : IntKind.i64.wrap ((n : Int) - (s : Int)) = (e : Int) := by have := HNM.out; have := HMID.out; rw [IntKind.wrap_i64]; omega
        have HSPL := hid (split_rot HS1'.out HS2'.out HIX.out HBD.out.1 HBD.out.2.1 HBD.out.2.2.1 HBD.out.2.2.2.1 HBD.out.2.2.2.2 (sym_lo HS1'.out HS2'.out HSBD.out hst hq1 hes HS.out.2.1) (sym_hi HS1'.out HS2'.out HSBD.out hst hq1 hes HS.out.2.2))
        have HINR : Hid (In a b F (rot s m e F)) := hid ((rot_in F HBD.out.2.1 HBD.out.2.2.1).widen HBD.out.1 HBD.out.2.2.2.1)
        have HSM := hid HS.out.1.1
        have HT := hid HS.out.1.2
        obtain ⟨b1, hb1⟩ : ∃ q, (decide (s < m) && decide (m < e)) = q := ⟨_, rfl⟩
        obtain ⟨b2, hb2⟩ : ∃ q, (decide (a < s) && decide (s < mid)) = q := ⟨_, rfl⟩
        obtain ⟨b3, hb3⟩ : ∃ q, (decide (mid < e) && decide (e < b)) = q := ⟨_, rfl⟩
        have HB1 := hid hb1
        have HB2 := hid hb2
        have HB3 := hid hb3
        clear HS he hlt hb1 hb2 hb3 wp
        go_upto_region 39 with fail
        refine grd39I HB1.out _ (fun _ _ _ _ _ _ _ => ?_)
        dsimp only
        cases b1
        · have HE1 : Hid (rot s m e F = F) := hid (by
            have hB := HBD.out
            have hx := HB1.out
            by_cases c : s = m
            · rw [c]; exact rot_nil1 F
            · by_cases c2 : m = e
              · rw [← c2]; exact rot_nil2 F
              · rw [decide_eq_true (show s < m by omega), decide_eq_true (show m < e by omega)] at hx; cases hx)
          have HSMA : Hid (SMI B g N c E (rot s m e F) wr ∧ Pf N (rot s m e F)) := hid (by rw [HE1.out]; exact ⟨HSM.out, HPF.out⟩)
          have HTA := HT
          clear HSM HT HE1
          go_upto_region 41 with fail
          refine grd41I HB2.out _ (fun _ _ _ _ _ _ _ => ?_)
          dsimp only
          cases b2
          · have HE2 : Hid (¬ (a < s ∧ s < mid)) := hid (fun h => by have := HB2.out; rw [decide_eq_true h.1, decide_eq_true h.2] at this; cases this)
            have HSR : Hid (Srt r a mid (rot s m e F)) := hid (by
              have hB := HBD.out
              by_cases c : s = a
              · have h := HSPL.out.s2; rw [c] at h ⊢; exact h
              · have c2 : s = mid := by have := HE2.out; omega
                have h := HSPL.out.s1; rw [c2] at h ⊢; exact h)
            obtain ⟨G1, hG1⟩ : ∃ G1, rot s m e F = G1 := ⟨_, rfl⟩
            have HIN2 : Hid (In a mid (rot s m e F) G1) := hid (by rw [hG1]; exact In.refl _ _ _)
            have HSMB : Hid (SMI B g N c E G1 wr ∧ Pf N G1) := hid (by rw [← hG1]; exact HSMA.out)
            have HTB := HTA
            rw [hG1] at HSR
            clear hG1 HSMA HTA
            go_upto_region 43 with fail
            refine grd43I HB3.out _ (fun _ _ _ _ _ _ _ => ?_)
            dsimp only
            have HIN3 := hid (HINR.out.trans (HIN2.out.widen (Nat.le_refl _) (by have := HMID.out; omega)))
            cases b3
            · have HE3 : Hid (¬ (mid < e ∧ e < b)) := hid (fun h => by have := HB3.out; rw [decide_eq_true h.1, decide_eq_true h.2] at this; cases this)
              have HSR2 : Hid (Srt r mid b G1) := hid (by
                have hB := HBD.out
                by_cases c : e = mid
                · exact srt_cong (f := rot s m e F) (by rw [← c]; exact HSPL.out.s4) (fun p p1 _ => HIN2.out.out p (by omega))
                · have c2 : e = b := by have := HE3.out; omega
                  exact srt_cong (f := rot s m e F) (by rw [← c2]; exact HSPL.out.s3) (fun p p1 _ => HIN2.out.out p (by omega)))
              have HF := hid (show ∃ F', SMI B g N c E F' wr ∧ Pf N F' ∧ Tn g w wr ∧ Srt r a b F' ∧ In a b F F' from ⟨G1, HSMB.out.1, HSMB.out.2, HTB.out, HSPL.out.left HIN2.out (In.refl _ _ _) HSR.out HSR2.out, HIN3.out⟩)
              go_wp2_with fail
              go_end0
              exact ⟨rfl, HF.out⟩
            · have HE3 : Hid (mid < e ∧ e < b) := hid (by have := HB3.out; simp only [Bool.and_eq_true, decide_eq_true_eq] at this; exact this)
              have HC3 := hid (HIH.out G1 mid e b wr (by have := HMID.out; omega) HE3.out.1 HE3.out.2 hb HSMB.out.2 (srt_cong HSPL.out.s3 (fun p p1 _ => HIN2.out.out p (by omega))) (srt_cong HSPL.out.s4 (fun p p1 _ => HIN2.out.out p (by have := HE3.out; omega))) (fun p q p1 p2 q1 q2 => by rw [HIN2.out.out p (by omega), HIN2.out.out q (by have := HE3.out; omega)]; exact HSPL.out.i2 p q p1 p2 q1 q2) HSMB.out.1 (HCM0.out.on HTB.out))
              go_wp2_with fail
              refine HC3.out.mono ?_
              rintro e5 w8 ⟨rfl, G2, k1, k2, k3, k4, k5⟩
              have HF := hid (show ∃ F', SMI B g N c E F' w8 ∧ Pf N F' ∧ Tn g w w8 ∧ Srt r a b F' ∧ In a b F F' from ⟨G2, k1, k2, HTB.out.trans k3, HSPL.out.left HIN2.out k5 HSR.out k4, HIN3.out.trans (k5.widen (by have := HMID.out; omega) (Nat.le_refl _))⟩)
              clear k1 k2 k3 k4 k5
              go_wp2_with fail
              go_end0
              exact ⟨rfl, HF.out⟩
          · have HE2 : Hid (a < s ∧ s < mid) := hid (by have := HB2.out; simp only [Bool.and_eq_true, decide_eq_true_eq] at this; exact this)
            have HC2 := hid (HIH.out (rot s m e F) a s mid wr (by have := HMID.out; omega) HE2.out.1 HE2.out.2 (by have := HMID.out; omega) HSMA.out.2 HSPL.out.s1 HSPL.out.s2 HSPL.out.i1 HSMA.out.1 (HCM0.out.on HTA.out))
            go_wp2_with fail
            refine HC2.out.mono ?_
            rintro e5 w7 ⟨rfl, G1, k1, k2, k3, k4, k5⟩
            have HSMB := hid (And.intro k1 k2)
            have HTB := hid (HTA.out.trans k3)
            have HSR := hid k4
            have HIN2 := hid k5
            clear k1 k2 k3 k4 k5 HSMA HTA HC2
            go_upto_region 43 with fail
            refine grd43I HB3.out _ (fun _ _ _ _ _ _ _ => ?_)
            dsimp only
            have HIN3 := hid (HINR.out.trans (HIN2.out.widen (Nat.le_refl _) (by have := HMID.out; omega)))
            cases b3
            · have HE3 : Hid (¬ (mid < e ∧ e < b)) := hid (fun h => by have := HB3.out; rw [decide_eq_true h.1, decide_eq_true h.2] at this; cases this)
              have HSR2 : Hid (Srt r mid b G1) := hid (by
                have hB := HBD.out
                by_cases c : e = mid
                · exact srt_cong (f := rot s m e F) (by rw [← c]; exact HSPL.out.s4) (fun p p1 _ => HIN2.out.out p (by omega))
                · have c2 : e = b := by have := HE3.out; omega
                  exact srt_cong (f := rot s m e F) (by rw [← c2]; exact HSPL.out.s3) (fun p p1 _ => HIN2.out.out p (by omega)))
              have HF := hid (show ∃ F', SMI B g N c E F' w7 ∧ Pf N F' ∧ Tn g w w7 ∧ Srt r a b F' ∧ In a b F F' from ⟨G1, HSMB.out.1, HSMB.out.2, HTB.out, HSPL.out.left HIN2.out (In.refl _ _ _) HSR.out HSR2.out, HIN3.out⟩)
              go_wp2_with fail
              go_end0
              exact ⟨rfl, HF.out⟩
            · have HE3 : Hid (mid < e ∧ e < b) := hid (by have := HB3.out; simp only [Bool.and_eq_true, decide_eq_true_eq] at this; exact this)
              have HC3 := hid (HIH.out G1 mid e b w7 (by have := HMID.out; omega) HE3.out.1 HE3.out.2 hb HSMB.out.2 (srt_cong HSPL.out.s3 (fun p p1 _ => HIN2.out.out p (by omega))) (srt_cong HSPL.out.s4 (fun p p1 _ => HIN2.out.out p (by have := HE3.out; omega))) (fun p q p1 p2 q1 q2 => by rw [HIN2.out.out p (by omega), HIN2.out.out q (by have := HE3.out; omega)]; exact HSPL.out.i2 p q p1 p2 q1 q2) HSMB.out.1 (HCM0.out.on HTB.out))
              go_wp2_with fail
              refine HC3.out.mono ?_
              rintro e5 w8 ⟨rfl, G2, k1, k2, k3, k4, k5⟩
              have HF := hid (show ∃ F', SMI B g N c E F' w8 ∧ Pf N F' ∧ Tn g w w8 ∧ Srt r a b F' ∧ In a b F F' from ⟨G2, k1, k2, HTB.out.trans k3, HSPL.out.left HIN2.out k5 HSR.out k4, HIN3.out.trans (k5.widen (by have := HMID.out; omega) (Nat.le_refl _))⟩)
              clear k1 k2 k3 k4 k5
              go_wp2_with fail
              go_end0
              exact ⟨rfl, HF.out⟩
        · have HE1 : Hid (s < m ∧ m < e) := hid (by have := HB1.out; simp only [Bool.and_eq_true, decide_eq_true_eq] at this; exact this)
          have HC1 := hid (fun fv => rotI_any B g N c E F hN HPF.out s m e HE1.out.1 HE1.out.2 (by have := HBD.out; omega) fv wr HSM.out)
          go_wp2_with fail
          refine (HC1.out _).mono ?_
          rintro e5 w6 ⟨rfl, k1, k2, k3⟩
          have HSMA := hid (And.intro k1 k2)
          have HTA := hid (HT.out.trans k3)
          clear k1 k2 k3 HSM HT HC1
          go_upto_region 41 with fail
          refine grd41I HB2.out _ (fun _ _ _ _ _ _ _ => ?_)
          dsimp only
          cases b2
          · have HE2 : Hid (¬ (a < s ∧ s < mid)) := hid (fun h => by have := HB2.out; rw [decide_eq_true h.1, decide_eq_true h.2] at this; cases this)
            have HSR : Hid (Srt r a mid (rot s m e F)) := hid (by
              have hB := HBD.out
              by_cases c : s = a
              · have h := HSPL.out.s2; rw [c] at h ⊢; exact h
              · have c2 : s = mid := by have := HE2.out; omega
                have h := HSPL.out.s1; rw [c2] at h ⊢; exact h)
            obtain ⟨G1, hG1⟩ : ∃ G1, rot s m e F = G1 := ⟨_, rfl⟩
            have HIN2 : Hid (In a mid (rot s m e F) G1) := hid (by rw [hG1]; exact In.refl _ _ _)
            have HSMB : Hid (SMI B g N c E G1 w6 ∧ Pf N G1) := hid (by rw [← hG1]; exact HSMA.out)
            have HTB := HTA
            rw [hG1] at HSR
            clear hG1 HSMA HTA
            go_upto_region 43 with fail
            refine grd43I HB3.out _ (fun _ _ _ _ _ _ _ => ?_)
            dsimp only
            have HIN3 := hid (HINR.out.trans (HIN2.out.widen (Nat.le_refl _) (by have := HMID.out; omega)))
            cases b3
            · have HE3 : Hid (¬ (mid < e ∧ e < b)) := hid (fun h => by have := HB3.out; rw [decide_eq_true h.1, decide_eq_true h.2] at this; cases this)
              have HSR2 : Hid (Srt r mid b G1) := hid (by
                have hB := HBD.out
                by_cases c : e = mid
                · exact srt_cong (f := rot s m e F) (by rw [← c]; exact HSPL.out.s4) (fun p p1 _ => HIN2.out.out p (by omega))
                · have c2 : e = b := by have := HE3.out; omega
                  exact srt_cong (f := rot s m e F) (by rw [← c2]; exact HSPL.out.s3) (fun p p1 _ => HIN2.out.out p (by omega)))
              have HF := hid (show ∃ F', SMI B g N c E F' w6 ∧ Pf N F' ∧ Tn g w w6 ∧ Srt r a b F' ∧ In a b F F' from ⟨G1, HSMB.out.1, HSMB.out.2, HTB.out, HSPL.out.left HIN2.out (In.refl _ _ _) HSR.out HSR2.out, HIN3.out⟩)
              go_wp2_with fail
              go_end0
              exact ⟨rfl, HF.out⟩
            · have HE3 : Hid (mid < e ∧ e < b) := hid (by have := HB3.out; simp only [Bool.and_eq_true, decide_eq_true_eq] at this; exact this)
              have HC3 := hid (HIH.out G1 mid e b w6 (by have := HMID.out; omega) HE3.out.1 HE3.out.2 hb HSMB.out.2 (srt_cong HSPL.out.s3 (fun p p1 _ => HIN2.out.out p (by omega))) (srt_cong HSPL.out.s4 (fun p p1 _ => HIN2.out.out p (by have := HE3.out; omega))) (fun p q p1 p2 q1 q2 => by rw [HIN2.out.out p (by omega), HIN2.out.out q (by have := HE3.out; omega)]; exact HSPL.out.i2 p q p1 p2 q1 q2) HSMB.out.1 (HCM0.out.on HTB.out))
              go_wp2_with fail
              refine HC3.out.mono ?_
              rintro e5 w8 ⟨rfl, G2, k1, k2, k3, k4, k5⟩
              have HF := hid (show ∃ F', SMI B g N c E F' w8 ∧ Pf N F' ∧ Tn g w w8 ∧ Srt r a b F' ∧ In a b F F' from ⟨G2, k1, k2, HTB.out.trans k3, HSPL.out.left HIN2.out k5 HSR.out k4, HIN3.out.trans (k5.widen (by have := HMID.out; omega) (Nat.le_refl _))⟩)
              clear k1 k2 k3 k4 k5
              go_wp2_with fail
              go_end0
              exact ⟨rfl, HF.out⟩
          · have HE2 : Hid (a < s ∧ s < mid) := hid (by have := HB2.out; simp only [Bool.and_eq_true, decide_eq_true_eq] at this; exact this)
            have HC2 := hid (HIH.out (rot s m e F) a s mid w6 (by have := HMID.out; omega) HE2.out.1 HE2.out.2 (by have := HMID.out; omega) HSMA.out.2 HSPL.out.s1 HSPL.out.s2 HSPL.out.i1 HSMA.out.1 (HCM0.out.on HTA.out))
            go_wp2_with fail
            refine HC2.out.mono ?_
            rintro e5 w7 ⟨rfl, G1, k1, k2, k3, k4, k5⟩
            have HSMB := hid (And.intro k1 k2)
            have HTB := hid (HTA.out.trans k3)
            have HSR := hid k4
            have HIN2 := hid k5
            clear k1 k2 k3 k4 k5 HSMA HTA HC2
            go_upto_region 43 with fail
            refine grd43I HB3.out _ (fun _ _ _ _ _ _ _ => ?_)
            dsimp only
            have HIN3 := hid (HINR.out.trans (HIN2.out.widen (Nat.le_refl _) (by have := HMID.out; omega)))
            cases b3
            · have HE3 : Hid (¬ (mid < e ∧ e < b)) := hid (fun h => by have := HB3.out; rw [decide_eq_true h.1, decide_eq_true h.2] at this; cases this)
              have HSR2 : Hid (Srt r mid b G1) := hid (by
                have hB := HBD.out
                by_cases c : e = mid
                · exact srt_cong (f := rot s m e F) (by rw [← c]; exact HSPL.out.s4) (fun p p1 _ => HIN2.out.out p (by omega))
                · have c2 : e = b := by have := HE3.out; omega
                  exact srt_cong (f := rot s m e F) (by rw [← c2]; exact HSPL.out.s3) (fun p p1 _ => HIN2.out.out p (by omega)))
              have HF := hid (show ∃ F', SMI B g N c E F' w7 ∧ Pf N F' ∧ Tn g w w7 ∧ Srt r a b F' ∧ In a b F F' from ⟨G1, HSMB.out.1, HSMB.out.2, HTB.out, HSPL.out.left HIN2.out (In.refl _ _ _) HSR.out HSR2.out, HIN3.out⟩)
              go_wp2_with fail
              go_end0
              exact ⟨rfl, HF.out⟩
            · have HE3 : Hid (mid < e ∧ e < b) := hid (by have := HB3.out; simp only [Bool.and_eq_true, decide_eq_true_eq] at this; exact this)
              have HC3 := hid (HIH.out G1 mid e b w7 (by have := HMID.out; omega) HE3.out.1 HE3.out.2 hb HSMB.out.2 (srt_cong HSPL.out.s3 (fun p p1 _ => HIN2.out.out p (by omega))) (srt_cong HSPL.out.s4 (fun p p1 _ => HIN2.out.out p (by have := HE3.out; omega))) (fun p q p1 p2 q1 q2 => by rw [HIN2.out.out p (by omega), HIN2.out.out q (by have := HE3.out; omega)]; exact HSPL.out.i2 p q p1 p2 q1 q2) HSMB.out.1 (HCM0.out.on HTB.out))
              go_wp2_with fail
              refine HC3.out.mono ?_
              rintro e5 w8 ⟨rfl, G2, k1, k2, k3, k4, k5⟩
              have HF := hid (show ∃ F', SMI B g N c E F' w8 ∧ Pf N F' ∧ Tn g w w8 ∧ Srt r a b F' ∧ In a b F F' from ⟨G2, k1, k2, HTB.out.trans k3, HSPL.out.left HIN2.out k5 HSR.out k4, HIN3.out.trans (k5.widen (by have := HMID.out; omega) (Nat.le_refl _))⟩)
              clear k1 k2 k3 k4 k5
              go_wp2_with fail
              go_end0
              exact ⟨rfl, HF.out⟩
end Go.Proofs.Ytnfcibcpmaehoaa
