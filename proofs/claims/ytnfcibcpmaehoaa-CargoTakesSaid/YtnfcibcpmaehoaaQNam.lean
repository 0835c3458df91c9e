/-
  The walks of what looks at names and cargoes: isName and isCargo of the program, Named of the reference.
-/
import Derived.Test.YtnfcibcpmaehoaaQCmp
namespace Go.Proofs.Ytnfcibcpmaehoaa
open Go.RowKit

def okCh (s : ByteArray) (i : Nat) : Bool := decide (97 ≤ (s.data.getD i 0).toNat) && decide ((s.data.getD i 0).toNat ≤ 122)
theorem isNm_yes {s : ByteArray} (h1 : 1 ≤ s.size) (h2 : s.size ≤ 12) (h : ∀ j, j < s.size → okCh s j = true) : isNm s = true := by
  unfold isNm
  rw [decide_eq_true h1, decide_eq_true h2, Bool.true_and, Bool.true_and, List.all_eq_true]
  exact fun i hi => h i (by simpa using hi)
theorem isNm_no {s : ByteArray} {j : Nat} (hj : j < s.size) (h : okCh s j = false) : isNm s = false := by
  cases hn : isNm s
  · rfl
  · unfold isNm at hn
    rw [Bool.and_eq_true, List.all_eq_true] at hn
    have := hn.2 j (by simpa using hj)
    rw [show (decide (97 ≤ (s.data.getD j 0).toNat) && decide ((s.data.getD j 0).toNat ≤ 122)) = okCh s j from rfl, h] at this
    cases this
theorem okCh_at {s : ByteArray} {k : Nat} (h : k < s.size) : okCh s k = (decide ((97 : Int) ≤ (s[k].toNat : Int)) && decide ((s[k].toNat : Int) ≤ 122)) := by
  unfold okCh
  have e : s.data.getD k 0 = s[k] := by
    rw [Array.getD_eq_getD_getElem?, Array.getElem?_eq_getElem (by exact h)]
    rfl
  rw [e]
  congr 1 <;> exact decide_eq_decide.2 (by omega)
theorem chr_wrap {s : ByteArray} {k : Nat} (h : k < s.size) : IntKind.i64.wrap (s[k].toNat : Int) = (s[k].toNat : Int) := by
  have : s[k].toNat < 256 := s[k].toNat_lt
  rw [IntKind.wrap_i64]; omega
set_option maxHeartbeats 1600000 in
theorem isname_any (s : ByteArray) (hs : s.size ≤ maxLen) (w : World) : Calls Try.prog 71 #[.string s] w fun e w' => e = .returned (.bool (isNm s)) ∧ w = w' := by
  unfold maxLen at hs
  obtain ⟨r, hr⟩ : ∃ r, isNm s = r := ⟨_, rfl⟩
  rw [hr]
  have HR := hid hr
  clear hr
  cases hq : (decide ((1 : Int) ≤ (s.size : Int)) && decide ((s.size : Int) ≤ 12))
  · have HQ : Hid (r = false) := hid (by
      rw [← HR.out]
      unfold isNm
      rw [show (decide (1 ≤ s.size) && decide (s.size ≤ 12)) = (decide ((1 : Int) ≤ (s.size : Int)) && decide ((s.size : Int) ≤ 12)) by congr 1 <;> exact decide_eq_decide.2 (by omega), hq]
      rfl)
    have HN := hid hq
    clear hq
    go_enter Try.func71, Try.ntmps71
    go_wp2_with (go_at_call 63; refine (within_any 1 s.size 12 false HN.out _).mono ?_; rintro e w' ⟨rfl, rfl⟩)
    go_ret
    exact ⟨by rw [HQ.out]; rfl, rfl⟩
  · have HB : Hid (1 ≤ s.size ∧ s.size ≤ 12) := hid (by simp only [Bool.and_eq_true, decide_eq_true_eq] at hq; omega)
    have HN := hid hq
    clear hq
    go_enter Try.func71, Try.ntmps71
    go_wp2_with (go_at_call 63; refine (within_any 1 s.size 12 true HN.out _).mono ?_; rintro e w' ⟨rfl, rfl⟩)
    go_loop [10] (fun i => ∃ k : Nat, k ≤ s.size ∧ i = .int .i64 k ∧ Hid (∀ j, j < k → okCh s j = true)) (fun i => s.size - (intOf i).toNat)
    case atStart => exact ⟨0, Nat.zero_le _, rfl, hid (fun j hj => absurd hj (Nat.not_lt_zero _))⟩
    case round =>
      obtain ⟨k, hk, rfl, HK⟩ := hrel
      by_cases hlt : k < s.size
      · have e1 := chr_wrap hlt
        cases hq : okCh s k
        · have HQ : Hid (r = false) := hid (by rw [← HR.out]; exact isNm_no hlt hq)
          rw [okCh_at hlt] at hq
          have HC := hid hq
          clear hq
          go_wp2_with (go_at_call 63; refine (within_any 97 (s[k].toNat : Int) 122 false HC.out _).mono ?_; rintro e w' ⟨rfl, rfl⟩)
          go_ret
          exact ⟨by rw [HQ.out]; rfl, rfl⟩
        · have HK2 : Hid (∀ j, j < k + 1 → okCh s j = true) := hid (fun j hj => by
            by_cases e : j = k
            · subst e; exact hq
            · exact HK.out j (by omega))
          rw [okCh_at hlt] at hq
          have HC := hid hq
          clear hq
          go_wp2_with (go_at_call 63; refine (within_any 97 (s[k].toNat : Int) 122 true HC.out _).mono ?_; rintro e w' ⟨rfl, rfl⟩)
          go_round
          case rel => exact ⟨k + 1, by omega, by go_num, HK2⟩
          case measure => simp [intOf]; omega
      · obtain rfl : k = s.size := by omega
        have HQ : Hid (r = true) := hid (by rw [← HR.out]; exact isNm_yes HB.out.1 HB.out.2 HK.out)
        go_wp2_with fail
        go_ret
        exact ⟨by rw [HQ.out]; rfl, rfl⟩
set_option maxHeartbeats 1600000 in
theorem named_any (s : ByteArray) (hs : s.size ≤ maxLen) (q : Bool) (hq0 : isNm s = q) (w : World) : Calls Try.prog 46 #[.string s] w fun e w' => e = .returned (.bool q) ∧ w = w' := by
  unfold maxLen at hs
  have HR := hid hq0
  clear hq0
  by_cases h1 : (s.size : Int) < 1
  · have HQ : Hid (q = false) := hid (by rw [← HR.out]; unfold isNm; rw [decide_eq_false (by omega)]; rfl)
    go_enter Try.func46, Try.ntmps46
    go_wp2_with fail
    go_ret
    exact ⟨by rw [HQ.out]; rfl, rfl⟩
  by_cases h2 : (12 : Int) < (s.size : Int)
  · have HQ : Hid (q = false) := hid (by rw [← HR.out]; unfold isNm; rw [decide_eq_false (show ¬ s.size ≤ 12 by omega), Bool.and_false]; rfl)
    go_enter Try.func46, Try.ntmps46
    go_wp2_with fail
    go_ret
    exact ⟨by rw [HQ.out]; rfl, rfl⟩
  have HB : Hid (1 ≤ s.size ∧ s.size ≤ 12) := hid (by omega)
  go_enter Try.func46, Try.ntmps46
  go_wp2_with fail
  go_loop [3] (fun i => ∃ k : Nat, k ≤ s.size ∧ i = .int .i64 k ∧ Hid (∀ j, j < k → okCh s j = true)) (fun i => s.size - (intOf i).toNat)
  case atStart => exact ⟨0, Nat.zero_le _, rfl, hid (fun j hj => absurd hj (Nat.not_lt_zero _))⟩
  case round =>
    obtain ⟨k, hk, rfl, HK⟩ := hrel
    by_cases hlt : k < s.size
    · have HO := hid (okCh_at hlt)
      by_cases c1 : (s[k].toNat : Int) < 97
      · have HQ : Hid (q = false) := hid (by rw [← HR.out]; exact isNm_no hlt (by rw [HO.out, decide_eq_false (by omega)]; rfl))
        go_wp2_with fail
        go_ret
        exact ⟨by rw [HQ.out]; rfl, rfl⟩
      by_cases c2 : (122 : Int) < (s[k].toNat : Int)
      · have HQ : Hid (q = false) := hid (by rw [← HR.out]; exact isNm_no hlt (by rw [HO.out, decide_eq_false (show ¬ (s[k].toNat : Int) ≤ 122 by omega), Bool.and_false]))
        go_wp2_with fail
        go_ret
        exact ⟨by rw [HQ.out]; rfl, rfl⟩
      · have HK2 : Hid (∀ j, j < k + 1 → okCh s j = true) := hid (fun j hj => by
            by_cases e : j = k
            · subst e; rw [HO.out, decide_eq_true (by omega), decide_eq_true (by omega)]; rfl
            · exact HK.out j (by omega))
        go_wp2_with fail
        go_round
        case rel => exact ⟨k + 1, by omega, by go_num, HK2⟩
        case measure => simp [intOf]; omega
    · obtain rfl : k = s.size := by omega
      have HQ : Hid (q = true) := hid (by rw [← HR.out]; exact isNm_yes HB.out.1 HB.out.2 HK.out)
      go_wp2_with fail
      go_ret
      exact ⟨by rw [HQ.out]; rfl, rfl⟩
end Go.Proofs.Ytnfcibcpmaehoaa
