/-
  The walks of Sum of both, and of the law CargoSums.
-/
import Derived.Test.YtnfcibcpmaehoaaQRVal
import Derived.Test.YtnfcibcpmaehoaaQPy2
namespace Go.Proofs.Ytnfcibcpmaehoaa
open Go.RowKit

/-- How many units of a kind the first i parcels have. -/
def smP (k : Int) (P : Nat → Par) : Nat → Int
  | 0 => 0
  | i + 1 => smP k P i + if (P i).k = k then (P i).c else 0
theorem smP_bd {n : Nat} {P : Nat → Par} (h : Load n P) (k : Int) : ∀ i, i ≤ n → 0 ≤ smP k P i ∧ smP k P i ≤ 1000000 * (i : Int)
  | 0, _ => ⟨Int.le_refl _, Int.le_refl _⟩
  | i + 1, hi => by
    have := smP_bd h k i (by omega)
    have h1 := h.ok i (by omega)
    have h2 := h1.c1
    have h3 := h1.c2
    show 0 ≤ smP k P i + _ ∧ smP k P i + _ ≤ _
    split <;> omega
set_option maxRecDepth 100000 in
set_option maxHeartbeats 3200000 in
theorem units_any (po : Option Addr) (n pc : Nat) (P : Nat → Par) (hL : Load n P) (k : Int) (w : World) (hP : Pars w po n P) :
    Calls Try.prog 50 #[.slice po n pc, .int .i64 k] w fun e w' => e = .returned (.int .i64 (smP k P n)) ∧ Below w.heap.size w w' := by
  obtain ⟨B, hB⟩ : ∃ B, w.heap.size = B := ⟨_, rfl⟩
  have HBW := hid hB
  have HP : Hid (∀ wr, Below B w wr → Pars wr po n P) := hid (fun wr hb => hP.stays (by rw [hB]; exact hb))
  have hle := hL.le
  have HL := hid hL
  rw [hB]
  clear hB hP hL
  go_enter Try.func50, Try.ntmps50
  go_wp2_with fail
  go_loopw [5, 10] (fun sv iv wr => ∃ (i : Nat) (s : Int), i ≤ n ∧ iv = .int .i64 i ∧ sv = .int .i64 s ∧ Hid (s = smP k P i ∧ Below B w wr)) (fun _ iv _ => n - (intOf iv).toNat)
  case atStart => exact ⟨0, 0, Nat.zero_le _, rfl, rfl, hid ⟨rfl, Below.refl _ _⟩⟩
  case round =>
    obtain ⟨i, s, hi, rfl, rfl, HS⟩ := hrel
    by_cases hlt : i < n
    · obtain ⟨b, off, e, hbl, a0, a1, a2, a3, a4, a5⟩ := HP.out wr HS.out.2 i hlt
      subst e
      have hbd := smP_bd HL.out k i hi
      rw [← HS.out.1] at hbd
      have hok := HL.out.ok i hlt
      obtain ⟨x, hx⟩ : ∃ x, P i = x := ⟨_, rfl⟩
      rw [hx] at a0 a1 a2 a3 a4 a5 hok
      have HX := hid hx
      have c1 := hok.c1
      have c2 := hok.c2
      clear hx hok
      have hBs : B ≤ wr.heap.size := by rw [← HBW.out]; exact HS.out.2.size
      have HB2 := hid (HS.out.2.trans (((Below.refl wr.heap.size wr).alloc (Nat.le_refl _) (.cells #[.int .i64 x.k, .int .i64 x.f, .int .i64 x.t, .int .i64 x.a, .int .i64 x.c, .int .i64 x.s] 36)).mono hBs))
      by_cases hk : x.k = k
      · skip
        have hw : IntKind.i64.wrap (s + x.c) = s + x.c := by rw [IntKind.wrap_i64]; omega
        have HD : Hid (s + x.c = smP k P (i + 1)) := hid (by show _ = smP k P i + _; rw [HX.out, if_pos hk, HS.out.1])
        clear hbd hBs c1 c2
        subst hk
        go_wp2_with fail
        go_roundw
        case rel => exact ⟨i + 1, s + x.c, by omega, by go_num, rfl, hid ⟨HD.out, HB2.out⟩⟩
        case measure => simp [intOf]; omega
      · have hb : (x.k == k) = false := by simpa using hk
        have HD : Hid (s = smP k P (i + 1)) := hid (by show _ = smP k P i + _; rw [HX.out, if_neg hk, HS.out.1, Int.add_zero])
        clear hbd hBs c1 c2
        go_wp2_with fail
        go_roundw
        case rel => exact ⟨i + 1, s, by omega, by go_num, rfl, hid ⟨HD.out, HB2.out⟩⟩
        case measure => simp [intOf]; omega
    · obtain rfl : n = i := by omega
      go_wp2_with fail
      go_ret
      exact ⟨ret_int HS.out.1, HS.out.2⟩
/-- What Sum answers. -/
def smR (n : Nat) (P : Nat → Par) (k : Int) : Int := if LErr n P = 0 then smP k P n else 0
set_option maxRecDepth 100000 in
set_option maxHeartbeats 3200000 in
theorem sum_any (po : Option Addr) (n pc : Nat) (P : Nat → Par) (k : Int) (w : World) (hP : Pars w po n P) :
    Calls Try.prog 23 #[.slice po n pc, .int .i64 k] w fun e w' => e = .returned (.tuple #[.int .i64 (smR n P k), .int .i64 (LErr n P)]) ∧ Below w.heap.size w w' := by
  have H1 := hid (validate_any po n pc P w hP)
  have HP := hid hP
  obtain ⟨v, hv⟩ : ∃ v, smR n P k = v := ⟨_, rfl⟩
  obtain ⟨r, hr⟩ : ∃ r, LErr n P = r := ⟨_, rfl⟩
  rw [hr] at H1
  rw [hv, hr]
  unfold smR at hv
  rw [hr] at hv
  clear hP
  by_cases h0 : r = 0
  · have HL := hid (LErr.load (hr.trans h0))
    rw [if_pos h0] at hv
    subst h0
    have HU := hid (fun W hW => hv ▸ units_any po n pc P HL.out k W hW)
    clear hr hv
    go_enter Try.func23, Try.ntmps23
    go_wp2_with fail
    refine H1.out.mono ?_
    rintro e w2 ⟨rfl, hb2⟩
    go_wp2_with fail
    refine (HU.out w2 (HP.out.stays hb2)).mono ?_
    rintro e w3 ⟨rfl, hb3⟩
    go_wp2_with fail
    go_ret2
    exact ⟨rfl, hb2.trans (hb3.mono hb2.size)⟩
  · have hb : (r == 0) = false := by simpa using h0
    rw [if_neg h0] at hv
    have HV := hid hv
    clear hv hr
    go_enter Try.func23, Try.ntmps23
    go_wp2_with fail
    refine H1.out.mono ?_
    rintro e w2 ⟨rfl, hb2⟩
    go_wp2_with fail
    go_ret2
    exact ⟨by rw [← HV.out]; rfl, hb2⟩
set_option maxRecDepth 100000 in
set_option maxHeartbeats 3200000 in
theorem rsum_any (po : Option Addr) (n pc : Nat) (P : Nat → Par) (k : Int) (w : World) (hP : Pars w po n P) :
    Calls Try.prog 22 #[.slice po n pc, .int .i64 k] w fun e w' => e = .returned (.tuple #[.int .i64 (smR n P k), .int .i64 (LErr n P)]) ∧ Below w.heap.size w w' := by
  have H1 := hid (rvalidate_any po n pc P w hP)
  have HP := hid hP
  obtain ⟨v, hv⟩ : ∃ v, smR n P k = v := ⟨_, rfl⟩
  obtain ⟨r, hr⟩ : ∃ r, LErr n P = r := ⟨_, rfl⟩
  rw [hr] at H1
  rw [hv, hr]
  unfold smR at hv
  rw [hr] at hv
  clear hP
  by_cases h0 : r = 0
  · have HL := hid (LErr.load (hr.trans h0))
    have hle := HL.out.le
    rw [if_pos h0] at hv
    subst h0
    have HV := hid hv
    clear hr hv
    go_enter Try.func22, Try.ntmps22
    go_wp2_with fail
    refine H1.out.mono ?_
    rintro e w2 ⟨rfl, hb2⟩
    have HP2 := hid (HP.out.stays hb2)
    have HB2 := hid hb2
    clear hb2 HP H1
    go_wp2_with fail
    go_loop [7, 8] (fun sv iv => ∃ (i : Nat) (s : Int), i ≤ n ∧ iv = .int .i64 i ∧ sv = .int .i64 s ∧ Hid (s = smP k P i)) (fun _ iv => n - (intOf iv).toNat)
    case atStart => exact ⟨0, 0, Nat.zero_le _, rfl, rfl, hid rfl⟩
    case round =>
      obtain ⟨i, s, hi, rfl, rfl, HS⟩ := hrel
      by_cases hlt : i < n
      · obtain ⟨b, off, e, hbl, a0, a1, a2, a3, a4, a5⟩ := HP2.out i hlt
        subst e
        have hbd := smP_bd HL.out k i hi
        rw [← HS.out] at hbd
        have hok := HL.out.ok i hlt
        obtain ⟨x, hx⟩ : ∃ x, P i = x := ⟨_, rfl⟩
        rw [hx] at a0 a1 a2 a3 a4 a5 hok
        have HX := hid hx
        have c1 := hok.c1
        have c2 := hok.c2
        clear hx hok
        by_cases hk : x.k = k
        · skip
          have hw : IntKind.i64.wrap (s + x.c) = s + x.c := by rw [IntKind.wrap_i64]; omega
          have HD : Hid (s + x.c = smP k P (i + 1)) := hid (by show _ = smP k P i + _; rw [HX.out, if_pos hk, HS.out])
          clear hbd c1 c2
          subst hk
          go_wp2_with fail
          go_round
          case rel => exact ⟨i + 1, s + x.c, by omega, by go_num, rfl, HD⟩
          case measure => simp [intOf]; omega
        · have hb : (x.k == k) = false := by simpa using hk
          have HD : Hid (s = smP k P (i + 1)) := hid (by show _ = smP k P i + _; rw [HX.out, if_neg hk, HS.out, Int.add_zero])
          clear hbd c1 c2
          go_wp2_with fail
          go_round
          case rel => exact ⟨i + 1, s, by omega, by go_num, rfl, HD⟩
          case measure => simp [intOf]; omega
      · obtain rfl : n = i := by omega
        go_wp2_with fail
        go_ret2
        exact ⟨by rw [← HV.out, ← HS.out]; rfl, HB2.out⟩
  · have hb : (r == 0) = false := by simpa using h0
    rw [if_neg h0] at hv
    have HV := hid hv
    clear hv hr
    go_enter Try.func22, Try.ntmps22
    go_wp2_with fail
    refine H1.out.mono ?_
    rintro e w2 ⟨rfl, hb2⟩
    go_wp2_with fail
    go_ret2
    exact ⟨by rw [← HV.out]; rfl, hb2⟩
set_option maxRecDepth 100000 in
set_option maxHeartbeats 3200000 in
theorem walk_sums (po : Option Addr) (n pc : Nat) (P : Nat → Par) (k : Int) (w : World) (hP : Pars w po n P) :
    Calls Try.prog 4 #[.slice po n pc, .int .i64 k] w fun e w' => e = .returned (.bool true) ∧ Below w.heap.size w w' := by
  by_cases hn : 1000 < n
  · have hn' : (1000 : Int) < (n : Int) := by omega
    clear hP
    go_enter Try.func4, Try.ntmps4
    go_wp2_with fail
    refine (known_any _).mono ?_
    rintro e w2 ⟨rfl, hb2⟩
    go_wp2_with fail
    go_ret
    exact ⟨rfl, hb2⟩
  have hn' : ¬ (1000 : Int) < (n : Int) := by omega
  have H1 := hid (rsum_any po n pc P k w hP)
  have H2 := hid (fun W hb => sum_any po n pc P k W (hP.stays hb))
  obtain ⟨v, hv⟩ : ∃ v, smR n P k = v := ⟨_, rfl⟩
  obtain ⟨r, hr⟩ : ∃ r, LErr n P = r := ⟨_, rfl⟩
  rw [hr, hv] at H1
  rw [hr, hv] at H2
  clear hP hn hv hr
  go_enter Try.func4, Try.ntmps4
  go_wp2_with fail
  refine H1.out.mono ?_
  rintro e w2 ⟨rfl, hb2⟩
  go_wp2_with fail
  refine (H2.out w2 hb2).mono ?_
  rintro e w3 ⟨rfl, hb3⟩
  have HB3 := hid (hb2.trans (hb3.mono hb2.size))
  clear hb2 hb3
  go_wp2_with fail
  refine (known_any _).mono ?_
  rintro e w4 ⟨rfl, hb4⟩
  have HB4 := hid (HB3.out.trans (hb4.mono HB3.out.size))
  clear hb4
  go_wp2_with fail
  go_ret
  exact ⟨rfl, HB4.out⟩
end Go.Proofs.Ytnfcibcpmaehoaa
