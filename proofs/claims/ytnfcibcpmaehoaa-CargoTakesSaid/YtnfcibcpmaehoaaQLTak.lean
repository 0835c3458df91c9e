/-
  The walks of Take of the reference and of the law CargoTakes.
-/
import Derived.Test.YtnfcibcpmaehoaaQCut
import Derived.Test.YtnfcibcpmaehoaaQSame
import Derived.Test.YtnfcibcpmaehoaaQRVal
import Derived.Test.YtnfcibcpmaehoaaQPy2
namespace Go.Proofs.Ytnfcibcpmaehoaa
open Go.RowKit

set_option maxRecDepth 100000 in
set_option maxHeartbeats 6400000 in
theorem rtake_any (po : Option Addr) (n qc : Nat) (P : Nat → Par) (k u : Int) (hu2 : u ≤ 9223372036854775807) (w : World) (hP : Pars w po n P) :
    Calls Try.prog 29 #[.slice po n qc, .int .i64 k, .int .i64 u] w (TkP n P k u w) := by
  have H1 := hid (rvalidate_any po n qc P w hP)
  obtain ⟨B, hB⟩ : ∃ B, w.heap.size = B := ⟨_, rfl⟩
  have HBW := hid hB
  have HP : Hid (∀ wr, Below B w wr → Pars wr po n P) := hid (fun wr hb => hP.stays (by rw [hB]; exact hb))
  obtain ⟨er, her⟩ : ∃ x, LErr n P = x := ⟨_, rfl⟩
  have HER := hid her
  rw [her, hB] at H1
  clear hP hB her
  by_cases h0 : er = 0
  · subst h0
    by_cases hu : u < 0
    · have HUN := hid hu
      go_enter Try.func29, Try.ntmps29
      go_wp2_with fail
      refine H1.out.mono ?_
      rintro e w1 ⟨rfl, hb⟩
      have HB := hid hb
      clear hb H1
      go_wp2_with fail
      go_ret3
      exact ⟨[], [], none, 0, none, 0, 1, rfl, .inr (.inl ⟨HER.out, HUN.out, rfl, rfl, rfl⟩), TK.nil (by rw [HBW.out]; exact HB.out) (by rw [HBW.out]; have := HB.out.size; have := HBW.out; omega)⟩
    · obtain ⟨q, σ, hsg⟩ := Sg.exists n P k
      have hL := LErr.load HER.out
      have HSG := hid hsg
      have HUP := hid (show 0 ≤ u by omega)
      have HCU : Hid (∀ w1, Below B w w1 → _) := hid (fun w1 hb => cut_any po n qc P k u q σ hL hsg (by omega) hu2 w1 (HP.out w1 hb))
      clear hL hsg
      go_enter Try.func29, Try.ntmps29
      go_wp2_with fail
      refine H1.out.mono ?_
      rintro e w1 ⟨rfl, hb⟩
      have HB := hid hb
      clear hb H1
      go_wp2_with fail
      refine (HCU.out _ HB.out).mono ?_
      rintro e w2 ⟨ta, nt, tc, la, nl, lc, rfl, hnt, hnl, _, htk⟩
      have HT := hid (htk.down HB.out (by have := HB.out.size; have := HBW.out; omega))
      have HN := hid (And.intro hnt hnl)
      clear hnt hnl htk HCU
      go_wp2_with fail
      go_ret3
      refine ⟨tkn P (cS P σ u q) n, lft P (cS P σ u q) n, ta, tc, la, lc, 0, by rw [← HN.out.1, ← HN.out.2]; rfl, .inr (.inr ⟨HER.out, HUP.out, rfl, q, σ, HSG.out, rfl, rfl⟩), ?_⟩
      rw [← HN.out.1, ← HN.out.2, HBW.out]
      exact HT.out
  · have hb : (er == 0) = false := by simpa using h0
    have HE0 := hid h0
    go_enter Try.func29, Try.ntmps29
    go_wp2_with fail
    refine H1.out.mono ?_
    rintro e w1 ⟨rfl, hb1⟩
    have HB := hid hb1
    clear hb1 H1
    go_wp2_with fail
    go_ret3
    exact ⟨[], [], none, 0, none, 0, er, rfl, .inl ⟨by rw [HER.out]; exact HE0.out, rfl, rfl, HER.out.symm⟩, TK.nil (by rw [HBW.out]; exact HB.out) (by rw [HBW.out]; have := HB.out.size; have := HBW.out; omega)⟩
theorem TkV.len {n : Nat} {P : Nat → Par} {k u : Int} {tl ll : List Par} {er : Int} (h : TkV n P k u tl ll er) (hn : n ≤ 1000) : tl.length ≤ 1000 ∧ ll.length ≤ 1000 := by
  rcases h with ⟨_, b, c, _⟩ | ⟨_, _, b, c, _⟩ | ⟨_, _, _, q, σ, _, b, c⟩
  · rw [b, c]; simp
  · rw [b, c]; simp
  · have h1 : (tkn P (cS P σ u q) n).length ≤ n := seg_len (fT_len P _) n
    have h2 : (lft P (cS P σ u q) n).length ≤ n := seg_len (fL_len P _) n
    rw [b, c]; omega
set_option maxRecDepth 100000 in
set_option maxHeartbeats 6400000 in
theorem walk_takes (po : Option Addr) (n qc : Nat) (P : Nat → Par) (k u : Int) (hu2 : u ≤ 9223372036854775807) (w : World) (hP : Pars w po n P) :
    Calls Try.prog 7 #[.slice po n qc, .int .i64 k, .int .i64 u] w fun e w' => e = .returned (.bool true) ∧ Below w.heap.size w w' := by
  by_cases hn : 1000 < n
  · have hn' : (1000 : Int) < (n : Int) := by omega
    clear hP
    go_enter Try.func7, Try.ntmps7
    go_wp2_with fail
    refine (known_any _).mono ?_
    rintro e w2 ⟨rfl, hb2⟩
    go_wp2_with fail
    go_ret
    exact ⟨rfl, hb2⟩
  have hn' : ¬ (1000 : Int) < (n : Int) := by omega
  have HN : Hid (n ≤ 1000) := hid (by omega)
  have H1 := hid (rtake_any po n qc P k u hu2 w hP)
  have H2 := hid (fun w1 (hb : Below w.heap.size w w1) => take_any po n qc P k u hu2 w1 (hP.stays hb))
  clear hP hn
  go_enter Try.func7, Try.ntmps7
  go_wp2_with fail
  refine H1.out.mono ?_
  rintro e w1 ⟨tl, ll, ta, tc, la, lc, er, rfl, hv, htk⟩
  have HV := hid hv
  have HT := hid htk
  clear hv htk H1
  go_wp2_with fail
  refine (H2.out _ HT.out.below).mono ?_
  rintro e w2 ⟨tl', ll', ta', tc', la', lc', er', rfl, hv', htk'⟩
  obtain ⟨rfl, rfl, rfl⟩ := HV.out.one hv'
  have HT2 := hid htk'
  have HT1 := hid (HT.out.stays htk'.below)
  have HLN := hid (HV.out.len HN.out)
  have HB2 := hid (HT.out.below.trans (htk'.below.mono HT.out.below.size))
  clear hv' htk' H2 HT
  go_wp2_with fail
  refine (parcels_same tl.length (lf tl) _ _ _ _ w2 (by have := HLN.out.1; omega) HT2.out.t HT1.out.t).mono ?_
  rintro e w3 ⟨rfl, hb3⟩
  have HT3 := hid (HT2.out.stays hb3)
  have HT4 := hid (HT1.out.stays hb3)
  have HB3 := hid (HB2.out.trans (hb3.mono HB2.out.size))
  clear hb3 HT1 HT2 HB2
  go_wp2_with fail
  refine (parcels_same ll.length (lf ll) _ _ _ _ w3 (by have := HLN.out.2; omega) HT3.out.l HT4.out.l).mono ?_
  rintro e w4 ⟨rfl, hb4⟩
  have HB4 := hid (HB3.out.trans (hb4.mono HB3.out.size))
  clear hb4 HT3 HT4 HB3
  go_wp2_with fail
  refine (known_any _).mono ?_
  rintro e w5 ⟨rfl, hb5⟩
  have HB5 := hid (HB4.out.trans (hb5.mono HB4.out.size))
  clear hb5 HB4
  go_wp2_with fail
  go_ret
  exact ⟨rfl, HB5.out⟩
end Go.Proofs.Ytnfcibcpmaehoaa
