/-
  The walk of swapRange of numbers.
-/
import Derived.Test.YtnfcibcpmaehoaaQTnI
namespace Go.Proofs.Ytnfcibcpmaehoaa
open Go.RowKit

set_option maxRecDepth 100000 in
set_option maxHeartbeats 6400000 in
theorem exchI_any (B g N c : Nat) (E : Nat → Int) (f : Nat → Nat) (hN : N ≤ 100000) (hf : Pf N f) (a b n : Nat) (ha : a + n ≤ b) (hb : b + n ≤ N) (fv : Value) (w : World) (hM : SMI B g N c E f w) :
    Calls Try.prog 100 #[.slice (some ⟨g, 0, none⟩) N c, .int .i64 (a : Int), .int .i64 (b : Int), .int .i64 (n : Int), fv] w fun e w' => e = .returned (.tuple #[]) ∧ SMI B g N c E (exch a b n f) w' ∧ Pf N (exch a b n f) ∧ Tn g w w' := by
  have HM := hid (show SMI B g N c E (exch a b 0 f) w ∧ Pf N (exch a b 0 f) by rw [exch_zero]; exact ⟨hM, hf⟩)
  clear hM hf
  go_enter Try.func100, Try.ntmps100
  go_wp2_with fail
  go_loopw [10] (fun iv wr => ∃ i : Nat, i ≤ n ∧ iv = .int .i64 i ∧ Hid ((SMI B g N c E (exch a b i f) wr ∧ Pf N (exch a b i f)) ∧ Tn g w wr)) (fun iv _ => n - (intOf iv).toNat)
  case atStart => exact ⟨0, Nat.zero_le _, rfl, hid ⟨HM.out, Tn.refl _ _⟩⟩
  case round =>
    clear HM
    obtain ⟨i, hi, rfl, HS⟩ := hrel
    by_cases hlt : i < n
    · obtain ⟨p, hp⟩ : ∃ p, p = a + i := ⟨_, rfl⟩
      obtain ⟨q, hq⟩ : ∃ q, q = b + i := ⟨_, rfl⟩
      have w1 : IntKind.i64.wrap ((a : Int) + (i : Int)) = (p : Int) := by rw [IntKind.wrap_i64]; omega
      have w2 : IntKind.i64.wrap ((b : Int) + (i : Int)) = (q : Int) := by rw [IntKind.wrap_i64]; omega
      have hpN : (p : Int) < (N : Int) := by omega
      have hqN : (q : Int) < (N : Int) := by omega
      have p0 : (0 : Int) ≤ (p : Int) := by omega
      have q0 : (0 : Int) ≤ (q : Int) := by omega
      have HE := hid (exch_succ (a := a) (b := b) (i := i) (n := n) f hlt ha)
      rw [← hp, ← hq] at HE
      have HPQ : Hid (p < N ∧ q < N) := hid (by omega)
      obtain ⟨F, hF⟩ : ∃ F, exch a b i f = F := ⟨_, rfl⟩
      rw [hF] at HE HS
      have hat := HS.out.1.1.at_ (i := p) (by omega)
      have hat2 := HS.out.1.1.at_ (i := q) (by omega)
      have hfz := HS.out.1.1.fz
      have HW := hid (HS.out.1.1.swap p q)
      have HT : Hid (Tn g w ((wr.setCell ⟨g, p, none⟩ (.int .i64 (E (F q)))).setCell ⟨g, q, none⟩ (.int .i64 (E (F p))))) := hid ((HS.out.2.put _).put _)
      have HPF := hid (HS.out.1.2.swp HPQ.out.1 HPQ.out.2)
      have hpq : q ≠ p := by omega
      have HH := HS.out.1.1.half (j := q) p (E (F q)) (by omega) hpq
      clear hp hq hF HS
      skip
      go_upto_region 3 with fail
      obtain ⟨g0, fz2⟩ := HH
      go_region
      go_wp2_with fail
      go_roundw
      case rel => exact ⟨i + 1, by omega, by go_num, hid ⟨⟨by rw [← HE.out]; exact HW.out.stays (Below.refl _ _).drew, by rw [← HE.out]; exact HPF.out⟩, HT.out.trans (Tn.of_below (Below.refl _ _).drew)⟩⟩
      case measure => simp [intOf]; omega
    · obtain rfl : n = i := by omega
      go_wp2_with fail
      go_end0
      exact ⟨rfl, HS.out.1.1, HS.out.1.2, HS.out.2⟩
end Go.Proofs.Ytnfcibcpmaehoaa
