/-
  The walk of the law CargoTransfers.
-/
import Derived.Test.YtnfcibcpmaehoaaQRTra
import Derived.Test.YtnfcibcpmaehoaaQLTwi
import Derived.Test.YtnfcibcpmaehoaaQUni
namespace Go.Proofs.Ytnfcibcpmaehoaa
open Go.RowKit

theorem shS_tr (C : Nat → Cg) (P : Nat → Par) (W u : Int) : ∀ i, shS (trP C P W u) i = shS P i + grS C P W u i
  | 0 => rfl
  | i + 1 => by
    show shS (trP C P W u) i + trS C P W u i = shS P i + (P i).s + (grS C P W u i + (trS C P W u i - (P i).s))
    rw [shS_tr C P W u i]; omega
theorem cnS_tr (C : Nat → Cg) (P : Nat → Par) (W u : Int) : ∀ i, cnS (trP C P W u) i = cnS P i
  | 0 => rfl
  | i + 1 => by
    show cnS (trP C P W u) i + (P i).c = cnS P i + (P i).c
    rw [cnS_tr C P W u i]
set_option maxRecDepth 100000 in
set_option maxHeartbeats 3200000 in
theorem walk_transfers (co : Option Addr) (m cc : Nat) (C : Nat → Cg) (hs : ∀ j, j < m → (C j).n.size ≤ maxLen) (po : Option Addr) (n pc : Nat) (P : Nat → Par) (W u : Int) (w : World) (hC : Cgs w co m C) (hP : Pars w po n P) :
    Calls Try.prog 15 #[.slice co m cc, .slice po n pc, .int .i64 W, .int .i64 u] w fun e w' => e = .returned (.bool true) ∧ Below w.heap.size w w' := by
  by_cases hm : 1000 < m
  · have hm' : (1000 : Int) < (m : Int) := by omega
    clear hP hC
    go_enter Try.func15, Try.ntmps15
    go_wp2_with fail
    refine (known_any _).mono ?_
    rintro e w2 ⟨rfl, hb2⟩
    go_wp2_with fail
    go_ret
    exact ⟨rfl, hb2⟩
  have hm' : ¬ (1000 : Int) < (m : Int) := by omega
  by_cases hn : 1000 < n
  · have hn' : (1000 : Int) < (n : Int) := by omega
    clear hP hC
    go_enter Try.func15, Try.ntmps15
    go_wp2_with fail
    refine (known_any _).mono ?_
    rintro e w2 ⟨rfl, hb2⟩
    go_wp2_with fail
    go_ret
    exact ⟨rfl, hb2⟩
  have hn' : ¬ (1000 : Int) < (n : Int) := by omega
  obtain ⟨B, hB⟩ : ∃ B, w.heap.size = B := ⟨_, rfl⟩
  have HBW := hid hB
  have HP : Hid (∀ wr, Below B w wr → Pars wr po n P) := hid (fun wr hb => hP.stays (by rw [hB]; exact hb))
  have HC : Hid (∀ wr, Below B w wr → Cgs wr co m C) := hid (fun wr hb => hC.stays (by rw [hB]; exact hb))
  rcases trR_cases m C n P W u with ⟨x, hx, hr⟩ | ⟨hte, hgl, hr⟩
  · have hb : (x == 0) = false := by simpa using hx
    have H1 := hid (rtransfer_any co m cc C hs po n pc P W u 0 0 x hr w hC hP)
    have H2 := hid (fun w' (hb : Below B w w') => transfer_any co m cc C hs po n pc P W u 0 0 x hr w' (HC.out w' hb) (HP.out w' hb))
    rw [hB]
    clear hC hP hs hr hm hn hB
    have hx2 : (x != 0) = true := by simpa using hx
    go_enter Try.func15, Try.ntmps15
    go_wp2_with fail
    refine H1.out.mono ?_
    rintro e w2 ⟨vo, c, rfl, hrow, hb2⟩
    rw [HBW.out] at hb2 hrow
    have HB2 := hid hb2
    have HR2 := hid hrow
    clear hb2 hrow H1
    go_wp2_with fail
    refine (H2.out w2 HB2.out).mono ?_
    rintro e w3 ⟨vo', c', rfl, hrow3, hb3⟩
    have HB3 := hid (HB2.out.trans (hb3.mono (by rw [← HBW.out]; exact HB2.out.size)))
    have HR3 := hid hrow3
    have HR4 := hid (row_stays HR2.out hb3)
    clear hb3 hrow3 H2
    go_wp2_with fail
    refine (parcels_same 0 _ _ _ _ _ w3 (by decide) HR3.out HR4.out).mono ?_
    rintro e w4 ⟨rfl, hb4⟩
    have HB4 := hid (HB3.out.trans (hb4.mono (by rw [← HBW.out]; exact HB3.out.size)))
    clear hb4
    go_wp2_with fail
    refine (known_any _).mono ?_
    rintro e w5 ⟨rfl, hb5⟩
    have HB5 := hid (HB4.out.trans (hb5.mono (by rw [← HBW.out]; exact HB4.out.size)))
    clear hb5
    go_wp2_with fail
    go_ret
    exact ⟨rfl, HB5.out⟩
  · have hT := TErr.trip hte
    have hL1 := hT.ld.ok
    have hL2 : ∀ i, i < n → okP (trP C P W u i) := fun i hi => by have := trS_bd hT hi; exact okP_setS (hT.ld.ok i hi) this.1 this.2
    obtain ⟨gr, hg⟩ : ∃ g, grS C P W u n = g := ⟨_, rfl⟩
    obtain ⟨s1, hs1⟩ : ∃ s, shS P n = s := ⟨_, rfl⟩
    obtain ⟨c1, hc1⟩ : ∃ s, cnS P n = s := ⟨_, rfl⟩
    have hs2 : shS (trP C P W u) n = s1 + gr := by rw [shS_tr, hs1, hg]
    have hc2 : cnS (trP C P W u) n = c1 := by rw [cnS_tr, hc1]
    have hgb := hT.gr n (Nat.le_refl _)
    have hsb := Load.shs hL1 n (Nat.le_refl _)
    rw [hg] at hr hgb
    rw [hs1] at hsb
    have hw : IntKind.i64.wrap (s1 + gr) = s1 + gr := by rw [IntKind.wrap_i64]; omega
    have H1 := hid (rtransfer_any co m cc C hs po n pc P W u n gr 0 hr w hC hP)
    have H2 := hid (fun w' (hb : Below B w w') => transfer_any co m cc C hs po n pc P W u n gr 0 hr w' (HC.out w' hb) (HP.out w' hb))
    have HN : Hid (n ≤ 100000) := hid (by omega)
    have HS1 := hid (fun w' (hb : Below B w w') => lawshares_any po n pc P (by omega) hL1 s1 hs1 w' (HP.out w' hb))
    have HU1 := hid (fun w' (hb : Below B w w') => lawunits_any po n pc P (by omega) hL1 c1 hc1 w' (HP.out w' hb))
    have HS2 := hid (fun vo c w' (hrow : Pars w' vo n (trP C P W u)) => lawshares_any vo n c (trP C P W u) (by omega) hL2 (s1 + gr) hs2 w' hrow)
    have HU2 := hid (fun vo c w' (hrow : Pars w' vo n (trP C P W u)) => lawunits_any vo n c (trP C P W u) (by omega) hL2 c1 hc2 w' hrow)
    rw [hB]
    clear hC hP hs hr hm hn hg hte hgl hT hL1 hL2 hs1 hc1 hs2 hc2 hgb hsb hB
    go_enter Try.func15, Try.ntmps15
    go_wp2_with fail
    refine H1.out.mono ?_
    rintro e w2 ⟨vo, c, rfl, hrow, hb2⟩
    rw [HBW.out] at hb2 hrow
    have HB2 := hid hb2
    have HR2 := hid hrow
    clear hb2 hrow H1
    go_wp2_with fail
    refine (H2.out w2 HB2.out).mono ?_
    rintro e w3 ⟨vo', c', rfl, hrow3, hb3⟩
    have HB3 := hid (HB2.out.trans (hb3.mono (by rw [← HBW.out]; exact HB2.out.size)))
    have HR3 := hid hrow3
    have HR4 := hid (row_stays HR2.out hb3)
    clear hb3 hrow3 H2
    go_wp2_with fail
    refine (parcels_same n _ _ _ _ _ w3 HN.out HR3.out HR4.out).mono ?_
    rintro e w4 ⟨rfl, hb4⟩
    have HB4 := hid (HB3.out.trans (hb4.mono (by rw [← HBW.out]; exact HB3.out.size)))
    have HR5 := hid (row_stays HR3.out hb4)
    clear hb4
    go_wp2_with fail
    refine (HS2.out vo' c' w4 (RowP.pars HR5.out)).mono ?_
    rintro e w' ⟨rfl, rfl⟩
    go_wp2_with fail
    refine (HS1.out w4 HB4.out).mono ?_
    rintro e w' ⟨rfl, rfl⟩
    go_wp2_with fail
    refine (HU2.out vo' c' w4 (RowP.pars HR5.out)).mono ?_
    rintro e w' ⟨rfl, rfl⟩
    go_wp2_with fail
    refine (HU1.out w4 HB4.out).mono ?_
    rintro e w' ⟨rfl, rfl⟩
    go_wp2_with fail
    refine (known_any _).mono ?_
    rintro e w5 ⟨rfl, hb5⟩
    have HB5 := hid (HB4.out.trans (hb5.mono (by rw [← HBW.out]; exact HB4.out.size)))
    clear hb5
    go_wp2_with fail
    go_ret
    exact ⟨rfl, HB5.out⟩
end Go.Proofs.Ytnfcibcpmaehoaa
