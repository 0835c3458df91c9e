/-
  What is wrong with waters on a land; the walks of validate of a chart, survey and Validate.
-/
import Derived.Test.YtkpnngpnjimogaaWFault
namespace Go.Proofs.Ytkpnngpnjimogaa
open Go.RowKit

def KOk (m : Nat) (K : Nat → Int) : Prop := ∀ i, i < m → 0 ≤ K i ∧ K i ≤ 3
def Asc (q : Nat) (Y : Nat → Int) : Prop := ∀ i, 0 < i → i < q → Y (i - 1) < Y i
def BIn (W H q : Nat) (Y : Nat → Int) : Prop := ∀ i, i < q → tileB W H (Y i) = true
def Fits (W H : Nat) (Z K : Nat → Int) : Prop := ∀ u, u < W * H → K u ≠ 0 → flt (sea W Z u) (gsl W Z u) (K u) = 0
def BWet (W q : Nat) (Z K Y : Nat → Int) : Prop := ∀ i, i < q → wt W Z K (Y i).toNat = true
/-- The error of waters on a right land. -/
def CErr (W H m q : Nat) (Z K Y : Nat → Int) (e : Int) : Prop :=
  (e = 1 ∧ ¬ (m = W * H ∧ KOk m K ∧ Asc q Y)) ∨ (e = 2 ∧ (m = W * H ∧ KOk m K ∧ Asc q Y) ∧ ¬ BIn W H q Y) ∨
  (e = 9 ∧ (m = W * H ∧ KOk m K ∧ Asc q Y) ∧ BIn W H q Y ∧ ¬ (Fits W H Z K ∧ BWet W q Z K Y)) ∨ (e = 0 ∧ (m = W * H ∧ KOk m K ∧ Asc q Y) ∧ BIn W H q Y ∧ Fits W H Z K ∧ BWet W q Z K Y)
theorem CErr.ex (W H m q : Nat) (Z K Y : Nat → Int) : ∃ e, CErr W H m q Z K Y e := by
  by_cases h1 : m = W * H ∧ KOk m K ∧ Asc q Y
  · by_cases h2 : BIn W H q Y
    · by_cases h3 : Fits W H Z K ∧ BWet W q Z K Y
      · exact ⟨0, .inr (.inr (.inr ⟨rfl, h1, h2, h3⟩))⟩
      · exact ⟨9, .inr (.inr (.inl ⟨rfl, h1, h2, h3⟩))⟩
    · exact ⟨2, .inr (.inl ⟨rfl, h1, h2⟩)⟩
  · exact ⟨1, .inl ⟨rfl, h1⟩⟩
/-- Waters that are right on a right land. -/
structure Fine (W H m q : Nat) (Z K Y : Nat → Int) : Prop where
  len : m = W * H
  kinds : KOk m K
  asc : Asc q Y
  inn : BIn W H q Y
  fits : Fits W H Z K
  wet : BWet W q Z K Y
section
variable {W H m q : Nat} {Z K Y : Nat → Int} {e : Int}
theorem CErr.arg (h : CErr W H m q Z K Y e) (k : ¬ (m = W * H ∧ KOk m K ∧ Asc q Y)) : e = 1 := by
  rcases h with ⟨h, _⟩ | ⟨_, h, _⟩ | ⟨_, h, _⟩ | ⟨_, h, _⟩
  · exact h
  all_goals exact absurd h k
theorem CErr.none (h : CErr W H m q Z K Y e) (k : m = W * H ∧ KOk m K ∧ Asc q Y) (l : ¬ BIn W H q Y) : e = 2 := by
  rcases h with ⟨_, h⟩ | ⟨h, _⟩ | ⟨_, _, h, _⟩ | ⟨_, _, h, _⟩
  · exact absurd k h
  · exact h
  all_goals exact absurd h l
theorem CErr.rule (h : CErr W H m q Z K Y e) (k : m = W * H ∧ KOk m K ∧ Asc q Y) (l : BIn W H q Y) (p : ¬ (Fits W H Z K ∧ BWet W q Z K Y)) : e = 9 := by
  rcases h with ⟨_, h⟩ | ⟨_, _, h⟩ | ⟨h, _⟩ | ⟨_, _, _, h⟩
  · exact absurd k h
  · exact absurd l h
  · exact h
  · exact absurd h p
theorem CErr.ok (h : CErr W H m q Z K Y e) (k : Fine W H m q Z K Y) : e = 0 := by
  rcases h with ⟨_, h⟩ | ⟨_, _, h⟩ | ⟨_, _, _, h⟩ | ⟨h, _⟩
  · exact absurd ⟨k.len, k.kinds, k.asc⟩ h
  · exact absurd k.inn h
  · exact absurd ⟨k.fits, k.wet⟩ h
  · exact h
theorem CErr.fine (h : CErr W H m q Z K Y 0) : Fine W H m q Z K Y := by
  rcases h with ⟨h, _⟩ | ⟨h, _⟩ | ⟨h, _⟩ | ⟨_, h, k, l, p⟩
  · cases h
  · cases h
  · cases h
  · exact ⟨h.1, h.2.1, h.2.2, k, l, p⟩
theorem Fine.err (h : Fine W H m q Z K Y) : CErr W H m q Z K Y 0 := .inr (.inr (.inr ⟨rfl, ⟨h.len, h.kinds, h.asc⟩, h.inn, h.fits, h.wet⟩))
theorem CErr.bd (h : CErr W H m q Z K Y e) : e = 0 ∨ e = 1 ∨ e = 2 ∨ e = 9 := by
  rcases h with ⟨h, _⟩ | ⟨h, _⟩ | ⟨h, _⟩ | ⟨h, _⟩ <;> omega
end

set_option maxRecDepth 20000 in
set_option maxHeartbeats 3200000 in
theorem wascends_any (so : Option Addr) (q scap : Nat) (Y : Nat → Int) (hq : q ≤ 4000) (r : Bool) (hr : r = true ↔ Asc q Y) (w : World) (hI : Ints w so q Y) :
    Calls Try.prog 100 #[.slice so q scap] w fun e w' => e = .returned (.bool r) ∧ Below w.heap.size w w' := by
  have HI := hid hI
  have HR := hid hr
  clear hI hr
  go_enter Try.func100, Try.ntmps100
  go_wp2_with fail
  go_loopw [3] (fun iv wr => ∃ i n : Nat, (i < q ∨ i = 0) ∧ iv = .int .i64 ((i : Int) + 1) ∧ wr = w.drewN n ∧ Hid (∀ j, 0 < j → j < i + 1 → j < q → Y (j - 1) < Y j)) (fun iv _ => q + 1 - (intOf iv).toNat)
  case atStart => exact ⟨0, 0, .inr rfl, rfl, rfl, hid (fun j h1 h2 _ => by omega)⟩
  case round =>
    obtain ⟨i, n, hi, rfl, rfl, hk⟩ := hrel
    by_cases hlt : i + 1 < q
    · obtain ⟨b, off, rfl, hz, hcl⟩ := Ints.one HI.out (by omega)
      have c0 := hcl (i + 1) hlt
      have c1 := hcl i (by omega)
      obtain ⟨z0, e0⟩ : ∃ z, z = Y (i + 1) := ⟨_, rfl⟩
      obtain ⟨z1, e1⟩ : ∃ z, z = Y i := ⟨_, rfl⟩
      rw [← e0] at c0
      rw [← e1] at c1
      have E0 := hid e0
      have E1 := hid e1
      have t0 : ((i : Int) + 1).toNat = i + 1 := by omega
      have w0 : IntKind.i64.wrap (i : Int) = (i : Int) := by rw [IntKind.wrap_i64]; omega
      have w1 : IntKind.i64.wrap ((i : Int) + 1) = (i : Int) + 1 := by rw [IntKind.wrap_i64]; omega
      have b0 : (i : Int) + 1 < (q : Int) := by omega
      have b1 : (i : Int) < (q : Int) := by omega
      clear hcl e0 e1
      by_cases hc : z0 ≤ z1
      · have hrf : r = false := by
          rw [Bool.eq_false_iff, ne_eq, HR.out]
          intro h
          have := h (i + 1) (by omega) hlt
          rw [Nat.add_sub_cancel, ← E0.out, ← E1.out] at this; omega
        subst hrf
        go_wp2_with fail
        go_quiet (fail)
        go_wp2_with fail
        go_ret
        exact ⟨rfl, (Joins.below_draws _ _ _).trans (Joins.below_draws _ _ _)⟩
      · have hc' : z1 < z0 := by omega
        go_wp2_with fail
        go_quiet (fail)
        go_wp2_with fail
        go_roundw
        case rel =>
          refine ⟨i + 1, _, .inl (by omega), by go_num, rfl, hid (fun j h1 h2 h3 => ?_)⟩
          by_cases h : j < i + 1
          · exact hk.out j h1 h h3
          · obtain rfl : j = i + 1 := by omega
            rw [Nat.add_sub_cancel, ← E0.out, ← E1.out]; exact hc'
        case measure => simp [intOf]; omega
    · have hrt : r = true := HR.out.2 fun j h1 h2 => hk.out j h1 (by omega) h2
      subst hrt
      go_wp2_with fail
      go_ret
      exact ⟨rfl, Joins.below_draws _ _ _⟩

theorem first_of (P : Nat → Bool) : ∀ q, (∀ j, j < q → P j = false) ∨ ∃ i, i < q ∧ P i = true ∧ ∀ j, j < i → P j = false := by
  intro q
  induction q with
  | zero => exact .inl fun j hj => absurd hj (Nat.not_lt_zero j)
  | succ q ih =>
    rcases ih with h | ⟨i, h1, h2, h3⟩
    · cases hq : P q
      · refine .inl fun j hj => ?_
        by_cases h' : j < q
        · exact h j h'
        · obtain rfl : j = q := by omega
          exact hq
      · exact .inr ⟨q, Nat.lt_succ_self _, hq, h⟩
    · exact .inr ⟨i, by omega, h2, h3⟩

set_option maxRecDepth 20000 in
set_option maxHeartbeats 3200000 in
theorem index_1 (so : Option Addr) (m scap : Nat) (X : Nat → Int) (P : Nat → Bool) (J : World → Prop) (hm : m ≤ 4000) (hI : ∀ w, J w → Ints w so m X)
    (hP : ∀ j, j < m → ∀ wr, J wr → Calls Try.prog 96 #[.int .i64 (X j)] wr fun e w' => e = .returned (.bool (P j)) ∧ J w') (v : Int) (hv : (v = -1 ∧ ∀ j, j < m → P j = false) ∨ ∃ i : Nat, v = i ∧ i < m ∧ P i = true ∧ ∀ j, j < i → P j = false) (w : World) (hJ : J w) :
    Calls Try.prog 110 #[.slice so m scap, .func (.func 96) #[] #[]] w fun e w' => e = .returned (.int .i64 v) ∧ J w' := by
  have HV := hid hv
  have HI := hid hI
  have HP := hid hP
  have HJ := hid hJ
  clear hv hI hP hJ
  go_enter Try.func110, Try.ntmps110
  go_wp2_with fail
  go_loopw [8] (fun iv wr => ∃ i : Nat, i ≤ m ∧ iv = .int .i64 i ∧ Hid (∀ j, j < i → P j = false) ∧ Hid (J wr)) (fun iv _ => m - (intOf iv).toNat)
  case atStart => exact ⟨0, Nat.zero_le _, rfl, hid (fun j hj => by omega), HJ⟩
  case round =>
    obtain ⟨i, hi, rfl, hk, hB⟩ := hrel
    by_cases hlt : i < m
    · obtain ⟨bl, off, rfl, hbz, c0⟩ := (HI.out _ hB.out) i hlt
      have HC := hid (HP.out i hlt wr hB.out)
      obtain ⟨x, hx⟩ : ∃ x, x = X i := ⟨_, rfl⟩
      rw [← hx] at HC c0
      obtain ⟨p, hp⟩ : ∃ p, p = P i := ⟨_, rfl⟩
      rw [← hp] at HC
      have HPP := hid hp
      clear hp hx
      cases p
      · go_wp2_with (go_at_call 96; refine HC.out.mono ?_; rintro e w1 ⟨rfl, hb⟩; have HB1 := hid hb; clear hb)
        go_roundw
        case rel =>
          refine ⟨i + 1, by omega, by go_num, hid (fun j hj => ?_), HB1⟩
          by_cases h : j < i
          · exact hk.out j h
          · obtain rfl : j = i := by omega
            exact HPP.out.symm
        case measure => simp [intOf]; omega
      · have hvi : Hid (v = i) := hid (by
          rcases HV.out with ⟨_, h⟩ | ⟨q, rfl, hq, h1, h2⟩
          · exact absurd (h i hlt) (by rw [← HPP.out]; simp)
          · by_cases h : q < i
            · rw [hk.out q h] at h1; cases h1
            · by_cases h' : i < q
              · exact absurd (h2 i h') (by rw [← HPP.out]; simp)
              · omega)
        go_wp2_with (go_at_call 96; refine HC.out.mono ?_; rintro e w1 ⟨rfl, hb⟩; have HB1 := hid hb; clear hb)
        go_ret
        exact ⟨ret_int hvi.out.symm, HB1.out⟩
    · obtain rfl : i = m := by omega
      have hvi : Hid (v = -1) := hid (by
        rcases HV.out with ⟨h, _⟩ | ⟨q, rfl, hq, h1, h2⟩
        · exact h
        · rw [hk.out q hq] at h1; cases h1)
      go_wp2_with fail
      go_ret
      exact ⟨ret_int hvi.out.symm, hB.out⟩
set_option maxHeartbeats 3200000 in
theorem contains_1 (so : Option Addr) (m scap : Nat) (X : Nat → Int) (P : Nat → Bool) (J : World → Prop) (hm : m ≤ 4000) (hI : ∀ w, J w → Ints w so m X)
    (hP : ∀ j, j < m → ∀ wr, J wr → Calls Try.prog 96 #[.int .i64 (X j)] wr fun e w' => e = .returned (.bool (P j)) ∧ J w') (r : Bool) (hr : r = true ↔ ∃ j, j < m ∧ P j = true) (w : World) (hJ : J w) :
    Calls Try.prog 99 #[.slice so m scap, .func (.func 96) #[] #[]] w fun e w' => e = .returned (.bool r) ∧ J w' := by
  rcases first_of P m with h | ⟨i, h1, h2, h3⟩
  · have hrf : r = false := by
      rw [Bool.eq_false_iff, ne_eq, hr]
      rintro ⟨j, hj, h'⟩
      rw [h j hj] at h'; cases h'
    subst hrf
    have HX := hid (index_1 so m scap X P J hm hI hP (-1) (.inl ⟨rfl, h⟩) w hJ)
    clear hP hr h hI hJ
    go_enter Try.func99, Try.ntmps99
    go_wp2_with (go_at_call 110; refine HX.out.mono ?_; rintro e w1 ⟨rfl, hb⟩)
    go_ret
    exact ⟨rfl, hb⟩
  · have hrt : r = true := hr.2 ⟨i, h1, h2⟩
    subst hrt
    have HX := hid (index_1 so m scap X P J hm hI hP i (.inr ⟨i, rfl, h1, h2, h3⟩) w hJ)
    clear hP hr h2 h3 hI hJ
    go_enter Try.func99, Try.ntmps99
    go_wp2_with (go_at_call 110; refine HX.out.mono ?_; rintro e w1 ⟨rfl, hb⟩)
    go_ret
    exact ⟨rfl, hb⟩

set_option maxRecDepth 20000 in
set_option maxHeartbeats 3200000 in
theorem index_2 (A : Nat) (so : Option Addr) (m scap : Nat) (X : Nat → Int) (P : Nat → Bool) (J : World → Prop) (hm : m ≤ 4000) (hI : ∀ w, J w → Ints w so m X)
    (hP : ∀ j, j < m → ∀ wr, J wr → Calls Try.prog 97 #[.int .i64 (X j), .pointer (some ⟨A, 0, none⟩)] wr fun e w' => e = .returned (.bool (P j)) ∧ J w') (v : Int) (hv : (v = -1 ∧ ∀ j, j < m → P j = false) ∨ ∃ i : Nat, v = i ∧ i < m ∧ P i = true ∧ ∀ j, j < i → P j = false) (w : World) (hJ : J w) :
    Calls Try.prog 110 #[.slice so m scap, .func (.func 97) #[] #[.pointer (some ⟨A, 0, none⟩)]] w fun e w' => e = .returned (.int .i64 v) ∧ J w' := by
  have HV := hid hv
  have HI := hid hI
  have HP := hid hP
  have HJ := hid hJ
  clear hv hI hP hJ
  go_enter Try.func110, Try.ntmps110
  go_wp2_with fail
  go_loopw [8] (fun iv wr => ∃ i : Nat, i ≤ m ∧ iv = .int .i64 i ∧ Hid (∀ j, j < i → P j = false) ∧ Hid (J wr)) (fun iv _ => m - (intOf iv).toNat)
  case atStart => exact ⟨0, Nat.zero_le _, rfl, hid (fun j hj => by omega), HJ⟩
  case round =>
    obtain ⟨i, hi, rfl, hk, hB⟩ := hrel
    by_cases hlt : i < m
    · obtain ⟨bl, off, rfl, hbz, c0⟩ := (HI.out _ hB.out) i hlt
      have HC := hid (HP.out i hlt wr hB.out)
      obtain ⟨x, hx⟩ : ∃ x, x = X i := ⟨_, rfl⟩
      rw [← hx] at HC c0
      obtain ⟨p, hp⟩ : ∃ p, p = P i := ⟨_, rfl⟩
      rw [← hp] at HC
      have HPP := hid hp
      clear hp hx
      cases p
      · go_wp2_with (go_at_call 97; refine HC.out.mono ?_; rintro e w1 ⟨rfl, hb⟩; have HB1 := hid hb; clear hb)
        go_roundw
        case rel =>
          refine ⟨i + 1, by omega, by go_num, hid (fun j hj => ?_), HB1⟩
          by_cases h : j < i
          · exact hk.out j h
          · obtain rfl : j = i := by omega
            exact HPP.out.symm
        case measure => simp [intOf]; omega
      · have hvi : Hid (v = i) := hid (by
          rcases HV.out with ⟨_, h⟩ | ⟨q, rfl, hq, h1, h2⟩
          · exact absurd (h i hlt) (by rw [← HPP.out]; simp)
          · by_cases h : q < i
            · rw [hk.out q h] at h1; cases h1
            · by_cases h' : i < q
              · exact absurd (h2 i h') (by rw [← HPP.out]; simp)
              · omega)
        go_wp2_with (go_at_call 97; refine HC.out.mono ?_; rintro e w1 ⟨rfl, hb⟩; have HB1 := hid hb; clear hb)
        go_ret
        exact ⟨ret_int hvi.out.symm, HB1.out⟩
    · obtain rfl : i = m := by omega
      have hvi : Hid (v = -1) := hid (by
        rcases HV.out with ⟨h, _⟩ | ⟨q, rfl, hq, h1, h2⟩
        · exact h
        · rw [hk.out q hq] at h1; cases h1)
      go_wp2_with fail
      go_ret
      exact ⟨ret_int hvi.out.symm, hB.out⟩
set_option maxHeartbeats 3200000 in
theorem contains_2 (A : Nat) (so : Option Addr) (m scap : Nat) (X : Nat → Int) (P : Nat → Bool) (J : World → Prop) (hm : m ≤ 4000) (hI : ∀ w, J w → Ints w so m X)
    (hP : ∀ j, j < m → ∀ wr, J wr → Calls Try.prog 97 #[.int .i64 (X j), .pointer (some ⟨A, 0, none⟩)] wr fun e w' => e = .returned (.bool (P j)) ∧ J w') (r : Bool) (hr : r = true ↔ ∃ j, j < m ∧ P j = true) (w : World) (hJ : J w) :
    Calls Try.prog 99 #[.slice so m scap, .func (.func 97) #[] #[.pointer (some ⟨A, 0, none⟩)]] w fun e w' => e = .returned (.bool r) ∧ J w' := by
  rcases first_of P m with h | ⟨i, h1, h2, h3⟩
  · have hrf : r = false := by
      rw [Bool.eq_false_iff, ne_eq, hr]
      rintro ⟨j, hj, h'⟩
      rw [h j hj] at h'; cases h'
    subst hrf
    have HX := hid (index_2 A so m scap X P J hm hI hP (-1) (.inl ⟨rfl, h⟩) w hJ)
    clear hP hr h hI hJ
    go_enter Try.func99, Try.ntmps99
    go_wp2_with (go_at_call 110; refine HX.out.mono ?_; rintro e w1 ⟨rfl, hb⟩)
    go_ret
    exact ⟨rfl, hb⟩
  · have hrt : r = true := hr.2 ⟨i, h1, h2⟩
    subst hrt
    have HX := hid (index_2 A so m scap X P J hm hI hP i (.inr ⟨i, rfl, h1, h2, h3⟩) w hJ)
    clear hP hr h2 h3 hI hJ
    go_enter Try.func99, Try.ntmps99
    go_wp2_with (go_at_call 110; refine HX.out.mono ?_; rintro e w1 ⟨rfl, hb⟩)
    go_ret
    exact ⟨rfl, hb⟩

set_option maxRecDepth 20000 in
set_option maxHeartbeats 3200000 in
theorem index_3 (A : Nat) (so : Option Addr) (m scap : Nat) (X : Nat → Int) (P : Nat → Bool) (J : World → Prop) (hm : m ≤ 4000) (hI : ∀ w, J w → Ints w so m X)
    (hP : ∀ j, j < m → ∀ wr, J wr → Calls Try.prog 98 #[.int .i64 (X j), .pointer (some ⟨A, 0, none⟩)] wr fun e w' => e = .returned (.bool (P j)) ∧ J w') (v : Int) (hv : (v = -1 ∧ ∀ j, j < m → P j = false) ∨ ∃ i : Nat, v = i ∧ i < m ∧ P i = true ∧ ∀ j, j < i → P j = false) (w : World) (hJ : J w) :
    Calls Try.prog 110 #[.slice so m scap, .func (.func 98) #[] #[.pointer (some ⟨A, 0, none⟩)]] w fun e w' => e = .returned (.int .i64 v) ∧ J w' := by
  have HV := hid hv
  have HI := hid hI
  have HP := hid hP
  have HJ := hid hJ
  clear hv hI hP hJ
  go_enter Try.func110, Try.ntmps110
  go_wp2_with fail
  go_loopw [8] (fun iv wr => ∃ i : Nat, i ≤ m ∧ iv = .int .i64 i ∧ Hid (∀ j, j < i → P j = false) ∧ Hid (J wr)) (fun iv _ => m - (intOf iv).toNat)
  case atStart => exact ⟨0, Nat.zero_le _, rfl, hid (fun j hj => by omega), HJ⟩
  case round =>
    obtain ⟨i, hi, rfl, hk, hB⟩ := hrel
    by_cases hlt : i < m
    · obtain ⟨bl, off, rfl, hbz, c0⟩ := (HI.out _ hB.out) i hlt
      have HC := hid (HP.out i hlt wr hB.out)
      obtain ⟨x, hx⟩ : ∃ x, x = X i := ⟨_, rfl⟩
      rw [← hx] at HC c0
      obtain ⟨p, hp⟩ : ∃ p, p = P i := ⟨_, rfl⟩
      rw [← hp] at HC
      have HPP := hid hp
      clear hp hx
      cases p
      · go_wp2_with (go_at_call 98; refine HC.out.mono ?_; rintro e w1 ⟨rfl, hb⟩; have HB1 := hid hb; clear hb)
        go_roundw
        case rel =>
          refine ⟨i + 1, by omega, by go_num, hid (fun j hj => ?_), HB1⟩
          by_cases h : j < i
          · exact hk.out j h
          · obtain rfl : j = i := by omega
            exact HPP.out.symm
        case measure => simp [intOf]; omega
      · have hvi : Hid (v = i) := hid (by
          rcases HV.out with ⟨_, h⟩ | ⟨q, rfl, hq, h1, h2⟩
          · exact absurd (h i hlt) (by rw [← HPP.out]; simp)
          · by_cases h : q < i
            · rw [hk.out q h] at h1; cases h1
            · by_cases h' : i < q
              · exact absurd (h2 i h') (by rw [← HPP.out]; simp)
              · omega)
        go_wp2_with (go_at_call 98; refine HC.out.mono ?_; rintro e w1 ⟨rfl, hb⟩; have HB1 := hid hb; clear hb)
        go_ret
        exact ⟨ret_int hvi.out.symm, HB1.out⟩
    · obtain rfl : i = m := by omega
      have hvi : Hid (v = -1) := hid (by
        rcases HV.out with ⟨h, _⟩ | ⟨q, rfl, hq, h1, h2⟩
        · exact h
        · rw [hk.out q hq] at h1; cases h1)
      go_wp2_with fail
      go_ret
      exact ⟨ret_int hvi.out.symm, hB.out⟩
set_option maxHeartbeats 3200000 in
theorem contains_3 (A : Nat) (so : Option Addr) (m scap : Nat) (X : Nat → Int) (P : Nat → Bool) (J : World → Prop) (hm : m ≤ 4000) (hI : ∀ w, J w → Ints w so m X)
    (hP : ∀ j, j < m → ∀ wr, J wr → Calls Try.prog 98 #[.int .i64 (X j), .pointer (some ⟨A, 0, none⟩)] wr fun e w' => e = .returned (.bool (P j)) ∧ J w') (r : Bool) (hr : r = true ↔ ∃ j, j < m ∧ P j = true) (w : World) (hJ : J w) :
    Calls Try.prog 99 #[.slice so m scap, .func (.func 98) #[] #[.pointer (some ⟨A, 0, none⟩)]] w fun e w' => e = .returned (.bool r) ∧ J w' := by
  rcases first_of P m with h | ⟨i, h1, h2, h3⟩
  · have hrf : r = false := by
      rw [Bool.eq_false_iff, ne_eq, hr]
      rintro ⟨j, hj, h'⟩
      rw [h j hj] at h'; cases h'
    subst hrf
    have HX := hid (index_3 A so m scap X P J hm hI hP (-1) (.inl ⟨rfl, h⟩) w hJ)
    clear hP hr h hI hJ
    go_enter Try.func99, Try.ntmps99
    go_wp2_with (go_at_call 110; refine HX.out.mono ?_; rintro e w1 ⟨rfl, hb⟩)
    go_ret
    exact ⟨rfl, hb⟩
  · have hrt : r = true := hr.2 ⟨i, h1, h2⟩
    subst hrt
    have HX := hid (index_3 A so m scap X P J hm hI hP i (.inr ⟨i, rfl, h1, h2, h3⟩) w hJ)
    clear hP hr h2 h3 hI hJ
    go_enter Try.func99, Try.ntmps99
    go_wp2_with (go_at_call 110; refine HX.out.mono ?_; rintro e w1 ⟨rfl, hb⟩)
    go_ret
    exact ⟨rfl, hb⟩

set_option maxHeartbeats 800000 in
theorem wrong_any (x : Int) (r : Bool) (hr : r = true ↔ ¬ (0 ≤ x ∧ x ≤ 3)) (w : World) : Calls Try.prog 96 #[.int .i64 x] w fun e w' => e = .returned (.bool r) ∧ w = w' := by
  obtain ⟨k, hk⟩ : ∃ k : Bool, k = true ↔ 0 ≤ x ∧ x ≤ 3 := ⟨decide (0 ≤ x ∧ x ≤ 3), by simp⟩
  have hrk : r = !k := by
    rw [Bool.eq_iff_iff, hr, ← hk]; cases k <;> simp
  have HK := hid hk
  clear hk hr
  subst hrk
  go_enter Try.func96, Try.ntmps96
  go_wp2_with (go_at_call 45; refine (isKind_any x k HK.out _).mono ?_; rintro e w1 ⟨rfl, rfl⟩)
  go_ret
  exact ⟨rfl, rfl⟩
set_option maxHeartbeats 800000 in
theorem off_any (d : Wat) (hW : d.W ≤ 32) (hH : d.H ≤ 32) (M : Nat) (t : Int) (r : Bool) (hr : r = !tileB d.W d.H t) (w wr : World) (h : CB d M w wr) :
    Calls Try.prog 97 #[.int .i64 t, .pointer (some ⟨w.heap.size, 0, none⟩)] wr fun e w' => e = .returned (.bool r) ∧ Nx d M wr w' := by
  have HT := hid (fun w => cisTile_any d hW hH M t w)
  have HB := hid h
  have c0 := h.c0
  have c1 := h.c1
  have c2 := h.c2
  have c3 := h.c3
  have c4 := h.c4
  have c5 := h.c5
  have hz := h.size
  obtain ⟨k, hk⟩ : ∃ k, k = tileB d.W d.H t := ⟨_, rfl⟩
  rw [← hk] at HT hr
  subst hr
  clear h hk
  go_enter Try.func97, Try.ntmps97
  go_wp2_with (go_at_call 44; refine (HT.out _).mono ?_; rintro e w1 ⟨rfl, hb⟩)
  go_ret
  exact ⟨rfl, HB.out.cx.go hb⟩
set_option maxHeartbeats 800000 in
theorem dry_any (d : Wat) (hg : Good d.W d.H d.n d.Z) (hm : d.m = d.W * d.H) (M u : Nat) (hu : u < d.W * d.H) (r : Bool) (hr : r = !wt d.W d.Z d.K u) (w wr : World) (h : CB d M w wr) :
    Calls Try.prog 98 #[.int .i64 u, .pointer (some ⟨w.heap.size, 0, none⟩)] wr fun e w' => e = .returned (.bool r) ∧ Nx d M wr w' := by
  have HT := hid (cwet_any d hg hm M u hu _ rfl)
  have HB := hid h
  have c0 := h.c0
  have c1 := h.c1
  have c2 := h.c2
  have c3 := h.c3
  have c4 := h.c4
  have c5 := h.c5
  have hz := h.size
  obtain ⟨k, hk⟩ : ∃ k, k = wt d.W d.Z d.K u := ⟨_, rfl⟩
  rw [← hk] at HT hr
  subst hr
  clear h hk hg hm hu
  go_enter Try.func98, Try.ntmps98
  go_wp2_with (go_at_call 57; refine (HT.out _ HB.out.cx).mono ?_; rintro e w1 ⟨rfl, hb⟩)
  go_ret
  exact ⟨rfl, hb⟩
set_option maxRecDepth 20000 in
set_option maxHeartbeats 3200000 in
theorem fits_any (d : Wat) (hg : Good d.W d.H d.n d.Z) (hm : d.m = d.W * d.H) (M : Nat) (r : Bool) (hr : r = true ↔ Fits d.W d.H d.Z d.K) (w : World) (hC : Cx d M w) :
    Calls Try.prog 101 #[d.cht M] w fun e w' => e = .returned (.bool r) ∧ Nx d M w w' := by
  have hsd := hg.side
  have hs := mul_small hsd.2.1 hsd.2.2.2
  have HB := hid (CB.start hC)
  have HG := hid hg
  have HR := hid hr
  have hm2 : d.m ≤ 1024 := by omega
  have HMM := hid hm
  clear hC hg hr hsd hs hm
  go_enter Try.func101, Try.ntmps101
  go_wp2_with fail
  go_loopw [9] (fun iv wr => ∃ i : Nat, i ≤ d.m ∧ iv = .int .i64 i ∧ Hid (∀ j, j < i → d.K j ≠ 0 → flt (sea d.W d.Z j) (gsl d.W d.Z j) (d.K j) = 0) ∧ Hid (CB d M w wr)) (fun iv _ => d.m - (intOf iv).toNat)
  case atStart => exact ⟨0, Nat.zero_le _, rfl, hid (fun j hj => by omega), HB⟩
  case round =>
    obtain ⟨i, hi, rfl, hk, hB⟩ := hrel
    have c0 := hB.out.c0
    have c1 := hB.out.c1
    have c2 := hB.out.c2
    have c3 := hB.out.c3
    have c4 := hB.out.c4
    have c5 := hB.out.c5
    have hz := hB.out.size
    by_cases hlt : i < d.m
    · obtain ⟨bl, off, e, hbz, k0⟩ := hB.out.cx.kinds i hlt
      cases e
      have HF := hid (fault_any d HG.out M i (by have := HMM.out; omega) (d.K i) _ rfl)
      obtain ⟨k, hkk⟩ : ∃ k, k = d.K i := ⟨_, rfl⟩
      rw [← hkk] at k0 HF
      obtain ⟨f, hf⟩ : ∃ f, f = flt (sea d.W d.Z i) (gsl d.W d.Z i) k := ⟨_, rfl⟩
      rw [← hf] at HF
      have HKF := hid (And.intro hkk hf)
      clear hkk hf
      by_cases h0 : k = 0
      · subst h0
        go_wp2_with fail
        go_roundw
        case rel =>
          refine ⟨i + 1, by omega, by go_num, hid (fun j hj hj0 => ?_), hB⟩
          by_cases h : j < i
          · exact hk.out j h hj0
          · obtain rfl : j = i := by omega
            exact absurd HKF.out.1.symm hj0
        case measure => simp [intOf]; omega
      · by_cases h1 : f = 0
        · subst h1
          go_wp2_with (go_at_call 46; refine (HF.out _ hB.out.cx).mono ?_; rintro e w1 ⟨rfl, hb⟩; have HB1 := hid (hB.out.on hb); clear hb)
          go_roundw
          case rel =>
            refine ⟨i + 1, by omega, by go_num, hid (fun j hj hj0 => ?_), HB1⟩
            by_cases h : j < i
            · exact hk.out j h hj0
            · obtain rfl : j = i := by omega
              rw [← HKF.out.1]; exact HKF.out.2.symm
          case measure => simp [intOf]; omega
        · have hrf : r = false := by
            rw [Bool.eq_false_iff, ne_eq, HR.out]
            intro h
            have := h i (by have := HMM.out; omega) (by rw [← HKF.out.1]; exact h0)
            rw [← HKF.out.1, ← HKF.out.2] at this
            exact h1 this
          subst hrf
          have g1 : (f == 0) = false := by rw [beq_eq_false_iff_ne]; exact h1
          have g2 : (f != 0) = true := by simp [h1]
          go_wp2_with (go_at_call 46; refine (HF.out _ hB.out.cx).mono ?_; rintro e w1 ⟨rfl, hb⟩; have HB1 := hid (hB.out.on hb); clear hb)
          go_ret
          exact ⟨rfl, HB1.out.nx⟩
    · obtain rfl : i = d.m := by omega
      have hrt : r = true := HR.out.2 fun j hj => hk.out j (by have := HMM.out; omega)
      subst hrt
      go_wp2_with fail
      go_ret
      exact ⟨rfl, hB.out.nx⟩
end Go.Proofs.Ytkpnngpnjimogaa
