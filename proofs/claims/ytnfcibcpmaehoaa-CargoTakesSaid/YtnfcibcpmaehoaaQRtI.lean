/-
  The walk of rotate of numbers.
-/
import Derived.Test.YtnfcibcpmaehoaaQExI
namespace Go.Proofs.Ytnfcibcpmaehoaa
open Go.RowKit

set_option maxRecDepth 100000 in
set_option maxHeartbeats 6400000 in
theorem rotI_any (B g N c : Nat) (E : Nat → Int) (f : Nat → Nat) (hN : N ≤ 100000) (hf : Pf N f) (a m b : Nat) (ha : a < m) (hm : m < b) (hb : b ≤ N) (fv : Value) (w : World) (hM : SMI B g N c E f w) :
    Calls Try.prog 98 #[.slice (some ⟨g, 0, none⟩) N c, .int .i64 (a : Int), .int .i64 (m : Int), .int .i64 (b : Int), fv] w fun e w' => e = .returned (.tuple #[]) ∧ SMI B g N c E (rot a m b f) w' ∧ Pf N (rot a m b f) ∧ Tn g w w' := by
  have HM := hid (And.intro hM hf)
  obtain ⟨i0, hi0⟩ : ∃ i, i = m - a := ⟨_, rfl⟩
  obtain ⟨j0, hj0⟩ : ∃ i, i = b - m := ⟨_, rfl⟩
  have w1 : IntKind.i64.wrap ((m : Int) - (a : Int)) = (i0 : Int) := by rw [IntKind.wrap_i64]; omega
  have w2 : IntKind.i64.wrap ((b : Int) - (m : Int)) = (j0 : Int) := by rw [IntKind.wrap_i64]; omega
  have HI0 : Hid (m - i0 = a ∧ m + j0 = b ∧ 1 ≤ i0 ∧ 1 ≤ j0 ∧ i0 ≤ m) := hid (by omega)
  clear hM hf hi0 hj0
  go_enter Try.func98, Try.ntmps98
  go_wp2_with fail
  go_loopw [10, 11] (fun iv jv wr => ∃ i j : Nat, 1 ≤ i ∧ 1 ≤ j ∧ i ≤ m ∧ m + j ≤ N ∧ iv = .int .i64 i ∧ jv = .int .i64 j ∧ Hid (∃ F, (SMI B g N c E F wr ∧ Pf N F) ∧ Tn g w wr ∧ rot (m - i) m (m + j) F = rot a m b f)) (fun iv jv _ => (intOf iv).toNat + (intOf jv).toNat)
  case atStart => exact ⟨i0, j0, HI0.out.2.2.1, HI0.out.2.2.2.1, HI0.out.2.2.2.2, by rw [HI0.out.2.1]; exact hb, rfl, rfl, hid ⟨f, HM.out, Tn.refl _ _, by rw [HI0.out.1, HI0.out.2.1]⟩⟩
  case round =>
    clear HM HI0 w1 w2
    obtain ⟨i, j, hi1, hj1, him, hjN, rfl, rfl, HS⟩ := hrel
    obtain ⟨F, hSF, hT, hR⟩ := HS.out
    have HSF := hid hSF
    have HT := hid hT
    have HR := hid hR
    clear hSF hT hR HS
    obtain ⟨x, hx⟩ : ∃ x, x = m - i := ⟨_, rfl⟩
    have wx : IntKind.i64.wrap ((m : Int) - (i : Int)) = (x : Int) := by rw [IntKind.wrap_i64]; omega
    by_cases hij : i = j
    · subst hij
      have HC := hid (exchI_any B g N c E F hN HSF.out.2 x m i (by omega) hjN fv wr HSF.out.1)
      have HE : Hid (exch x m i F = rot a m b f) := hid (by rw [← HR.out, hx]; exact rot_eq F him)
      rw [HE.out] at HC
      clear hx
      go_wp2_with fail
      refine HC.out.mono ?_
      rintro e w3 ⟨rfl, h1, h2, h3⟩
      have HF := hid (And.intro h1 (And.intro h2 (HT.out.trans h3)))
      clear h1 h2 h3
      go_wp2_with fail
      go_end0
      exact ⟨rfl, HF.out⟩
    · have hne : ((i : Int) == (j : Int)) = false := by simp; omega
      by_cases hgt : j < i
      · obtain ⟨d, hd⟩ : ∃ d, d = i - j := ⟨_, rfl⟩
        have wd : IntKind.i64.wrap ((i : Int) - (j : Int)) = (d : Int) := by rw [IntKind.wrap_i64]; omega
        have HC := hid (exchI_any B g N c E F hN HSF.out.2 x m j (by omega) hjN fv wr HSF.out.1)
        have HE : Hid (rot (m - d) m (m + j) (exch x m j F) = rot a m b f) := hid (by rw [← HR.out, hx, hd]; exact rot_more F him hgt)
        have HB : Hid (1 ≤ d ∧ d ≤ m ∧ d + j = i) := hid (by omega)
        have hgt2 : (j : Int) < (i : Int) := by omega
        clear hx hd
        go_wp2_with fail
        refine HC.out.mono ?_
        rintro e w3 ⟨rfl, h1, h2, h3⟩
        have HF := hid (And.intro (And.intro h1 h2) (HT.out.trans h3))
        clear h1 h2 h3
        go_wp2_with fail
        go_roundw
        case rel => exact ⟨d, j, HB.out.1, hj1, HB.out.2.1, hjN, rfl, rfl, hid ⟨_, HF.out.1, HF.out.2, HE.out⟩⟩
        case measure => have := HB.out.2.2; simp [intOf]; omega
      · obtain ⟨d, hd⟩ : ∃ d, d = j - i := ⟨_, rfl⟩
        have wd : IntKind.i64.wrap ((j : Int) - (i : Int)) = (d : Int) := by rw [IntKind.wrap_i64]; omega
        obtain ⟨y, hy⟩ : ∃ y, y = m + j - i := ⟨_, rfl⟩
        have wy1 : IntKind.i64.wrap ((m : Int) + (j : Int)) = (m : Int) + (j : Int) := by rw [IntKind.wrap_i64]; omega
        have wy : IntKind.i64.wrap ((m : Int) + (j : Int) - (i : Int)) = (y : Int) := by rw [IntKind.wrap_i64]; omega
        have HC := hid (exchI_any B g N c E F hN HSF.out.2 x y i (by omega) (by omega) fv wr HSF.out.1)
        have HE : Hid (rot (m - i) m (m + d) (exch x y i F) = rot a m b f) := hid (by rw [← HR.out, hx, hy, hd]; exact rot_less F him (by omega))
        have HB : Hid (1 ≤ d ∧ m + d ≤ N ∧ d + i = j) := hid (by omega)
        have hgt2 : ¬ (j : Int) < (i : Int) := by omega
        clear hx hd hy
        go_wp2_with fail
        refine HC.out.mono ?_
        rintro e w3 ⟨rfl, h1, h2, h3⟩
        have HF := hid (And.intro (And.intro h1 h2) (HT.out.trans h3))
        clear h1 h2 h3
        go_wp2_with fail
        go_roundw
        case rel => exact ⟨i, d, hi1, HB.out.1, him, HB.out.2.1, rfl, rfl, hid ⟨_, HF.out.1, HF.out.2, HE.out⟩⟩
        case measure => have := HB.out.2.2; simp [intOf]; omega
end Go.Proofs.Ytnfcibcpmaehoaa
