/-
  The walk of the reference's Validate, and of the law RouteValidates.
-/
import Derived.Test.YtokpdjdpeaccbaaGLarge
namespace Go.Proofs.Ytokpdjdpeaccbaa
open Go.RowKit

set_option maxRecDepth 100000 in
set_option maxHeartbeats 6400000 in
theorem rval_any (n : Int) (eo : Option Addr) (m ec : Nat) (E : Nat → Ed) (w : World) (hEd : Eds w eo m E) :
    Calls Try.prog 19 #[.int .i64 n, .slice eo m ec] w fun e w' => e = .returned (.int .i64 (VErr n m E)) ∧ Below w.heap.size w w' := by
  by_cases hn : 1000 < n
  · go_enter Try.func19, Try.ntmps19
    go_wp2_with fail
    go_ret
    exact ⟨by unfold VErr; rw [if_pos (.inl hn)]; rfl, Below.refl _ _⟩
  by_cases hm : 4000 < m
  · have hm' : (4000 : Int) < (m : Int) := by omega
    go_enter Try.func19, Try.ntmps19
    go_wp2_with fail
    go_ret
    exact ⟨by unfold VErr; rw [if_pos (.inr hm)]; rfl, Below.refl _ _⟩
  have hm' : ¬ ((4000 : Int) < (m : Int)) := by omega
  by_cases h0 : n < 0
  · go_enter Try.func19, Try.ntmps19
    go_wp2_with fail
    go_ret
    exact ⟨by unfold VErr; rw [if_neg (by omega), if_pos (.inl h0)]; rfl, Below.refl _ _⟩
  have HV : Hid (∀ r, (if anyP m (fun i => dearE (E i)) = true then 1 else if anyP m (fun i => offE n (E i)) = true then 2 else 0) = r → VErr n m E = r) := hid (fun r h => by
    unfold VErr
    rw [if_neg (by omega)]
    by_cases hd : anyP m (fun i => dearE (E i)) = true
    · rw [if_pos hd] at h
      rw [if_pos (.inr hd)]; exact h
    · rw [if_neg hd] at h
      rw [if_neg (fun h' => h'.elim (fun h' => h0 h') hd)]; exact h)
  have HEd : Hid (∀ wr, Below w.heap.size w wr → Eds wr eo m E) := hid (fun wr hb => hEd.stays hb)
  obtain ⟨B, hB⟩ : ∃ B, w.heap.size = B := ⟨_, rfl⟩
  have HBW := hid hB
  rw [hB] at HEd ⊢
  have hn' : ¬ (1000 < n) := hn
  clear hEd hB hn
  go_enter Try.func19, Try.ntmps19
  go_wp2_with fail
  go_loopw [20] (fun iv wr => ∃ i : Nat, i ≤ m ∧ iv = .int .i64 i ∧ Hid ((∀ j, j < i → dearE (E j) = false) ∧ Below B w wr)) (fun iv _ => m - (intOf iv).toNat)
  case atStart => exact ⟨0, Nat.zero_le _, rfl, hid ⟨fun j hj => by omega, Below.refl _ _⟩⟩
  case round =>
    obtain ⟨i, hi, rfl, HS⟩ := hrel
    by_cases hlt : i < m
    · obtain ⟨b, off, e, hbl, a0, a1, a2⟩ := HEd.out wr HS.out.2 i hlt
      subst e
      obtain ⟨x, hx⟩ : ∃ x, E i = x := ⟨_, rfl⟩
      rw [hx] at a0 a1 a2
      have HX := hid hx
      have hBs : B ≤ wr.heap.size := by rw [← HBW.out]; exact HS.out.2.size
      have HB2 := hid (HS.out.2.trans (((Below.refl wr.heap.size wr).alloc (Nat.le_refl _) (.cells #[.int .i64 x.f, .int .i64 x.t, .int .i64 x.c] 41)).mono hBs))
      clear hx
      by_cases hc : x.c < 0
      · have HR := hid (HV.out 1 (by rw [if_pos (anyP_yes hlt (show dearE (E i) = true by rw [HX.out]; simp [dearE, hc]))]))
        go_wp2_with fail
        go_ret
        exact ⟨by rw [HR.out]; rfl, HB2.out⟩
      · by_cases hc2 : 1000000 < x.c
        · have HR := hid (HV.out 1 (by rw [if_pos (anyP_yes hlt (show dearE (E i) = true by rw [HX.out]; simp [dearE, hc2]))]))
          go_wp2_with fail
          go_ret
          exact ⟨by rw [HR.out]; rfl, HB2.out⟩
        · have HD := hid (snoc_no HS.out.1 (show dearE (E i) = false by rw [HX.out]; unfold dearE; rw [decide_eq_false hc, decide_eq_false hc2]; rfl))
          go_wp2_with fail
          go_roundw
          case rel => exact ⟨i + 1, by omega, by go_num, hid ⟨HD.out, HB2.out⟩⟩
          case measure => simp [intOf]; omega
    · obtain rfl : m = i := by omega
      have HV2 : Hid (∀ r, (if anyP m (fun i => offE n (E i)) = true then 2 else 0) = r → VErr n m E = r) := hid (fun r h => HV.out r (by rw [if_neg (by rw [anyP_no HS.out.1]; simp)]; exact h))
      have HB0 := hid HS.out.2
      clear HS HV
      go_wp2_with fail
      go_loopw [35] (fun iv wr => ∃ i : Nat, i ≤ m ∧ iv = .int .i64 i ∧ Hid ((∀ j, j < i → offE n (E j) = false) ∧ Below B w wr)) (fun iv _ => m - (intOf iv).toNat)
      case atStart => exact ⟨0, Nat.zero_le _, rfl, hid ⟨fun j hj => by omega, HB0.out⟩⟩
      case round =>
        clear HB0
        obtain ⟨i, hi, rfl, HS⟩ := hrel
        by_cases hlt : i < m
        · obtain ⟨b, off, e, hbl, a0, a1, a2⟩ := HEd.out wr HS.out.2 i hlt
          subst e
          obtain ⟨x, hx⟩ : ∃ x, E i = x := ⟨_, rfl⟩
          rw [hx] at a0 a1 a2
          have HX := hid hx
          have hBs : B ≤ wr.heap.size := by rw [← HBW.out]; exact HS.out.2.size
          have HB2 := hid (HS.out.2.trans (((Below.refl wr.heap.size wr).alloc (Nat.le_refl _) (.cells #[.int .i64 x.f, .int .i64 x.t, .int .i64 x.c] 41)).mono hBs))
          clear hx
          cases hq1 : badN n x.f
          · have h1 : isN n x.f = true := by rw [isN_bad, hq1]; rfl
            cases hq2 : badN n x.t
            · have h2 : isN n x.t = true := by rw [isN_bad, hq2]; rfl
              have HD := hid (snoc_no HS.out.1 (show offE n (E i) = false by rw [HX.out]; unfold offE; rw [hq1, hq2]; rfl))
              have H1 := hid h1
              have H2 := hid h2
              clear hq1 hq2 h1 h2
              go_wp2_with fail
              refine (is_at n x.f true H1.out _).mono ?_
              rintro e w2 ⟨rfl, rfl⟩
              go_wp2_with fail
              refine (is_at n x.t true H2.out _).mono ?_
              rintro e w2 ⟨rfl, rfl⟩
              go_wp2_with fail
              go_roundw
              case rel => exact ⟨i + 1, by omega, by go_num, hid ⟨HD.out, HB2.out⟩⟩
              case measure => simp [intOf]; omega
            · have h2 : isN n x.t = false := by rw [isN_bad, hq2]; rfl
              have HR := hid (HV2.out 2 (by rw [if_pos (anyP_yes hlt (show offE n (E i) = true by rw [HX.out]; unfold offE; rw [hq1, hq2]; rfl))]))
              have H1 := hid h1
              have H2 := hid h2
              clear hq1 hq2 h1 h2
              go_wp2_with fail
              refine (is_at n x.f true H1.out _).mono ?_
              rintro e w2 ⟨rfl, rfl⟩
              go_wp2_with fail
              refine (is_at n x.t false H2.out _).mono ?_
              rintro e w2 ⟨rfl, rfl⟩
              go_wp2_with fail
              go_ret
              exact ⟨by rw [HR.out]; rfl, HB2.out⟩
          · have h1 : isN n x.f = false := by rw [isN_bad, hq1]; rfl
            have HR := hid (HV2.out 2 (by rw [if_pos (anyP_yes hlt (show offE n (E i) = true by rw [HX.out]; unfold offE; rw [hq1]; rfl))]))
            have H1 := hid h1
            clear hq1 h1
            go_wp2_with fail
            refine (is_at n x.f false H1.out _).mono ?_
            rintro e w2 ⟨rfl, rfl⟩
            go_wp2_with fail
            go_ret
            exact ⟨by rw [HR.out]; rfl, HB2.out⟩
        · obtain rfl : m = i := by omega
          have HR := hid (HV2.out 0 (by rw [if_neg (by rw [anyP_no HS.out.1]; simp)]))
          go_wp2_with fail
          go_ret
          exact ⟨by rw [HR.out]; rfl, HS.out.2⟩
end Go.Proofs.Ytokpdjdpeaccbaa
