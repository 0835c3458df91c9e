/-
  The walk of the law CargoValidates.
-/
import Derived.Test.YtnfcibcpmaehoaaQRVal
import Derived.Test.YtnfcibcpmaehoaaQCg2
import Derived.Test.YtnfcibcpmaehoaaQPy2
namespace Go.Proofs.Ytnfcibcpmaehoaa
open Go.RowKit

set_option maxRecDepth 100000 in
set_option maxHeartbeats 3200000 in
theorem walk_validates (po : Option Addr) (n pc : Nat) (P : Nat → Par) (co : Option Addr) (m cc : Nat) (C : Nat → Cg) (hs : ∀ j, j < m → (C j).n.size ≤ maxLen) (w : World) (hP : Pars w po n P) (hC : Cgs w co m C) :
    Calls Try.prog 3 #[.slice po n pc, .slice co m cc] w fun e w' => e = .returned (.bool true) ∧ Below w.heap.size w w' := by
  by_cases hn : 1000 < n
  · have hn' : (1000 : Int) < (n : Int) := by omega
    clear hP hC
    go_enter Try.func3, Try.ntmps3
    go_wp2_with fail
    refine (known_any _).mono ?_
    rintro e w2 ⟨rfl, hb2⟩
    go_wp2_with fail
    go_ret
    exact ⟨rfl, hb2⟩
  have hn' : ¬ (1000 : Int) < (n : Int) := by omega
  by_cases hm : 1000 < m
  · have hm' : (1000 : Int) < (m : Int) := by omega
    clear hP hC
    go_enter Try.func3, Try.ntmps3
    go_wp2_with fail
    refine (known_any _).mono ?_
    rintro e w2 ⟨rfl, hb2⟩
    go_wp2_with fail
    go_ret
    exact ⟨rfl, hb2⟩
  have hm' : ¬ (1000 : Int) < (m : Int) := by omega
  obtain ⟨B, hB⟩ : ∃ B, w.heap.size = B := ⟨_, rfl⟩
  have HBW := hid hB
  have HP : Hid (∀ wr, Below B w wr → Pars wr po n P) := hid (fun wr hb => hP.stays (by rw [hB]; exact hb))
  have HC : Hid (∀ wr, Below B w wr → Cgs wr co m C) := hid (fun wr hb => hC.stays (by rw [hB]; exact hb))
  have HS := hid hs
  obtain ⟨r, hr⟩ : ∃ r, LErr n P = r := ⟨_, rfl⟩
  obtain ⟨s, hs'⟩ : ∃ s, CErr m C = s := ⟨_, rfl⟩
  have H1 := hid (fun W (hb : Below B w W) => rvalidate_any po n pc P W (HP.out W hb))
  have H2 := hid (fun W (hb : Below B w W) => validate_any po n pc P W (HP.out W hb))
  have H3 := hid (fun W (hb : Below B w W) => rvcargoes_any co m cc C HS.out W (HC.out W hb))
  have H4 := hid (fun W (hb : Below B w W) => vcargoes_any co m cc C HS.out W (HC.out W hb))
  rw [hr] at H1 H2
  rw [hs'] at H3 H4
  rw [hB]
  clear hB hP hC hs hr hs' hn hm
  go_enter Try.func3, Try.ntmps3
  go_wp2_with fail
  refine (H1.out _ (Below.refl _ _)).mono ?_
  rintro e w2 ⟨rfl, hb2⟩
  rw [HBW.out] at hb2
  have HB2 := hid hb2
  clear hb2
  go_wp2_with fail
  refine (H2.out w2 HB2.out).mono ?_
  rintro e w3 ⟨rfl, hb3⟩
  have HB3 := hid (HB2.out.trans (hb3.mono (by rw [← HBW.out]; exact HB2.out.size)))
  clear hb3
  go_wp2_with fail
  refine (H3.out w3 HB3.out).mono ?_
  rintro e w4 ⟨rfl, hb4⟩
  have HB4 := hid (HB3.out.trans (hb4.mono (by rw [← HBW.out]; exact HB3.out.size)))
  clear hb4
  go_wp2_with fail
  refine (H4.out w4 HB4.out).mono ?_
  rintro e w5 ⟨rfl, hb5⟩
  have HB5 := hid (HB4.out.trans (hb5.mono (by rw [← HBW.out]; exact HB4.out.size)))
  clear hb5
  go_wp2_with fail
  refine (known_any w5).mono ?_
  rintro e w6 ⟨rfl, hb6⟩
  have HB6 := hid (HB5.out.trans (hb6.mono (by rw [← HBW.out]; exact HB5.out.size)))
  clear hb6
  go_wp2_with fail
  go_ret
  exact ⟨rfl, HB6.out⟩
end Go.Proofs.Ytnfcibcpmaehoaa
