/-
  The walks of the law's own sums: units and shares of a load.
-/
import Derived.Test.YtnfcibcpmaehoaaQTrp
namespace Go.Proofs.Ytnfcibcpmaehoaa
open Go.RowKit

/-- How many units the first i parcels have. -/
def cnS (P : Nat → Par) : Nat → Int
  | 0 => 0
  | i + 1 => cnS P i + (P i).c
theorem Load.cns {n : Nat} {P : Nat → Par} (h : ∀ i, i < n → okP (P i)) : ∀ i, i ≤ n → 0 ≤ cnS P i ∧ cnS P i ≤ 1000000 * (i : Int)
  | 0, _ => ⟨Int.le_refl _, Int.le_refl _⟩
  | i + 1, hi => by
    have h1 := Load.cns h i (by omega)
    have h2 := h i (by omega)
    have h3 := h2.c1
    have h4 := h2.c2
    show 0 ≤ cnS P i + (P i).c ∧ cnS P i + (P i).c ≤ _
    omega
theorem Load.shs {n : Nat} {P : Nat → Par} (h : ∀ i, i < n → okP (P i)) : ∀ i, i ≤ n → 0 ≤ shS P i ∧ shS P i ≤ 1000000000000 * (i : Int)
  | 0, _ => ⟨Int.le_refl _, Int.le_refl _⟩
  | i + 1, hi => by
    have h1 := Load.shs h i (by omega)
    have h2 := h i (by omega)
    have h3 := h2.s1
    have h4 := h2.s2
    show 0 ≤ shS P i + (P i).s ∧ shS P i + (P i).s ≤ _
    omega
set_option maxHeartbeats 1600000 in
theorem lawunits_any (po : Option Addr) (n pc : Nat) (P : Nat → Par) (hn : n ≤ 1000) (hL : ∀ i, i < n → okP (P i)) (v : Int) (hv : cnS P n = v) (w : World) (hP : Pars w po n P) :
    Calls Try.prog 27 #[.slice po n pc] w fun e w' => e = .returned (.int .i64 v) ∧ w = w' := by
  have HP := hid hP
  have HL := hid hL
  have HV := hid hv
  clear hP hL hv
  go_enter Try.func27, Try.ntmps27
  go_wp2_with fail
  go_loop [3, 4] (fun sv iv => ∃ (i : Nat) (s : Int), i ≤ n ∧ iv = .int .i64 i ∧ sv = .int .i64 s ∧ Hid (s = cnS P i)) (fun _ iv => n - (intOf iv).toNat)
  case atStart => exact ⟨0, 0, Nat.zero_le _, rfl, rfl, hid rfl⟩
  case round =>
    obtain ⟨i, s, hi, rfl, rfl, HS⟩ := hrel
    by_cases hlt : i < n
    · obtain ⟨b, off, e, hbl, _, _, _, _, a4, _⟩ := HP.out i hlt
      subst e
      have hbd := Load.cns HL.out i hi
      rw [← HS.out] at hbd
      have hok := HL.out i hlt
      obtain ⟨x, hx⟩ : ∃ x, (P i).c = x := ⟨_, rfl⟩
      have c1 := hok.c1
      have c2 := hok.c2
      rw [hx] at a4 c1 c2
      have hw : IntKind.i64.wrap (s + x) = s + x := by rw [IntKind.wrap_i64]; omega
      have HD : Hid (s + x = cnS P (i + 1)) := hid (by show _ = cnS P i + _; rw [hx, HS.out])
      clear hbd c1 c2 hx hok
      go_wp2_with fail
      go_round
      case rel => exact ⟨i + 1, s + x, by omega, by go_num, rfl, HD⟩
      case measure => simp [intOf]; omega
    · obtain rfl : n = i := by omega
      go_wp2_with fail
      go_ret
      exact ⟨ret_int (HS.out.trans HV.out), rfl⟩
set_option maxHeartbeats 1600000 in
theorem lawshares_any (po : Option Addr) (n pc : Nat) (P : Nat → Par) (hn : n ≤ 1000) (hL : ∀ i, i < n → okP (P i)) (v : Int) (hv : shS P n = v) (w : World) (hP : Pars w po n P) :
    Calls Try.prog 28 #[.slice po n pc] w fun e w' => e = .returned (.int .i64 v) ∧ w = w' := by
  have HP := hid hP
  have HL := hid hL
  have HV := hid hv
  clear hP hL hv
  go_enter Try.func28, Try.ntmps28
  go_wp2_with fail
  go_loop [3, 4] (fun sv iv => ∃ (i : Nat) (s : Int), i ≤ n ∧ iv = .int .i64 i ∧ sv = .int .i64 s ∧ Hid (s = shS P i)) (fun _ iv => n - (intOf iv).toNat)
  case atStart => exact ⟨0, 0, Nat.zero_le _, rfl, rfl, hid rfl⟩
  case round =>
    obtain ⟨i, s, hi, rfl, rfl, HS⟩ := hrel
    by_cases hlt : i < n
    · obtain ⟨b, off, e, hbl, _, _, _, _, _, a5⟩ := HP.out i hlt
      subst e
      have hbd := Load.shs HL.out i hi
      rw [← HS.out] at hbd
      have hok := HL.out i hlt
      obtain ⟨x, hx⟩ : ∃ x, (P i).s = x := ⟨_, rfl⟩
      have c1 := hok.s1
      have c2 := hok.s2
      rw [hx] at a5 c1 c2
      have hw : IntKind.i64.wrap (s + x) = s + x := by rw [IntKind.wrap_i64]; omega
      have HD : Hid (s + x = shS P (i + 1)) := hid (by show _ = shS P i + _; rw [hx, HS.out])
      clear hbd c1 c2 hx hok
      go_wp2_with fail
      go_round
      case rel => exact ⟨i + 1, s + x, by omega, by go_num, rfl, HD⟩
      case measure => simp [intOf]; omega
    · obtain rfl : n = i := by omega
      go_wp2_with fail
      go_ret
      exact ⟨ret_int (HS.out.trans HV.out), rfl⟩
end Go.Proofs.Ytnfcibcpmaehoaa
