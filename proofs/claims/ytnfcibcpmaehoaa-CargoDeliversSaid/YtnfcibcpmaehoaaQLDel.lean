/-
  The walk of the law CargoDelivers.
-/
import Derived.Test.YtnfcibcpmaehoaaQRDel
namespace Go.Proofs.Ytnfcibcpmaehoaa
open Go.RowKit

theorem dlR_le {m : Nat} {C : Nat → Cg} {n : Nat} {P : Nat → Par} {W u v1 v2 v3 : Int} (h : dlR m C n P W u = (v1, v2, v3)) : v2 ≤ v1 := by
  unfold dlR at h
  split at h
  · cases h; exact Int.le_refl _
  · split at h
    · cases h; exact Int.le_refl _
    · cases h; omega
set_option maxRecDepth 100000 in
set_option maxHeartbeats 3200000 in
theorem walk_delivers (co : Option Addr) (m cc : Nat) (C : Nat → Cg) (hs : ∀ j, j < m → (C j).n.size ≤ maxLen) (po : Option Addr) (n pc : Nat) (P : Nat → Par) (W u : Int) (w : World) (hC : Cgs w co m C) (hP : Pars w po n P) :
    Calls Try.prog 14 #[.slice co m cc, .slice po n pc, .int .i64 W, .int .i64 u] w fun e w' => e = .returned (.bool true) ∧ Below w.heap.size w w' := by
  by_cases hm : 1000 < m
  · have hm' : (1000 : Int) < (m : Int) := by omega
    clear hP hC
    go_enter Try.func14, Try.ntmps14
    go_wp2_with fail
    refine (known_any _).mono ?_
    rintro e w2 ⟨rfl, hb2⟩
    go_wp2_with fail
    go_ret
    exact ⟨rfl, hb2⟩
  have hm' : ¬ (1000 : Int) < (m : Int) := by omega
  by_cases hn : 1000 < n
  · have hn' : (1000 : Int) < (n : Int) := by omega
    clear hP hC
    go_enter Try.func14, Try.ntmps14
    go_wp2_with fail
    refine (known_any _).mono ?_
    rintro e w2 ⟨rfl, hb2⟩
    go_wp2_with fail
    go_ret
    exact ⟨rfl, hb2⟩
  have hn' : ¬ (1000 : Int) < (n : Int) := by omega
  obtain ⟨⟨v1, v2, v3⟩, hr⟩ : ∃ x, dlR m C n P W u = x := ⟨_, rfl⟩
  have hle := dlR_le hr
  have H1 := hid (rdeliver_any co m cc C hs po n pc P W u v1 v2 v3 hr w hC hP)
  have H2 := hid (fun w' (hb : Below w.heap.size w w') => deliver_any co m cc C hs po n pc P W u v1 v2 v3 hr w' (hC.stays hb) (hP.stays hb))
  clear hC hP hs hr hm hn
  by_cases h3 : v3 = 0
  · subst h3
    go_enter Try.func14, Try.ntmps14
    go_wp2_with fail
    refine H1.out.mono ?_
    rintro e w2 ⟨rfl, hb2⟩
    go_wp2_with fail
    refine (H2.out w2 hb2).mono ?_
    rintro e w3 ⟨rfl, hb3⟩
    have HB3 := hid (hb2.trans (hb3.mono hb2.size))
    clear hb2 hb3
    go_wp2_with fail
    refine (known_any _).mono ?_
    rintro e w4 ⟨rfl, hb4⟩
    have HB4 := hid (HB3.out.trans (hb4.mono HB3.out.size))
    clear hb4
    go_wp2_with fail
    go_ret
    exact ⟨rfl, HB4.out⟩
  · have hb : (v3 == 0) = false := by simpa using h3
    go_enter Try.func14, Try.ntmps14
    go_wp2_with fail
    refine H1.out.mono ?_
    rintro e w2 ⟨rfl, hb2⟩
    go_wp2_with fail
    refine (H2.out w2 hb2).mono ?_
    rintro e w3 ⟨rfl, hb3⟩
    have HB3 := hid (hb2.trans (hb3.mono hb2.size))
    clear hb2 hb3
    go_wp2_with fail
    refine (known_any _).mono ?_
    rintro e w4 ⟨rfl, hb4⟩
    have HB4 := hid (HB3.out.trans (hb4.mono HB3.out.size))
    clear hb4
    go_wp2_with fail
    go_ret
    exact ⟨rfl, HB4.out⟩
end Go.Proofs.Ytnfcibcpmaehoaa
