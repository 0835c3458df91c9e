/-
  The walk of the reference's ValidateCargoes.
-/
import Derived.Test.YtnfcibcpmaehoaaQNam
namespace Go.Proofs.Ytnfcibcpmaehoaa
open Go.RowKit

/-- A cargo with the name of one ahead of it. -/
def dupC (C : Nat → Cg) (i : Nat) : Bool := anyP i (fun k => decide ((C i).n = (C k).n))
/-- The error of a list of cargoes. -/
def CErr (m : Nat) (C : Nat → Cg) : Int := if 16 < m then 4 else if anyP m (fun i => !isC (C i)) = true then 1 else if anyP m (dupC C) = true then 3 else 0
theorem str_ne {s t : ByteArray} (h : ¬ s = t) : (s.toList == t.toList) = false := by
  have : ¬ s.toList = t.toList := fun e => h (Go.WideShapes.bytes_inj (by rw [← ByteArray.toList_eq, ← ByteArray.toList_eq]; exact e))
  simpa using this
structure Cargoes (m : Nat) (C : Nat → Cg) : Prop where
  le : m ≤ 16
  ok : ∀ j, j < m → okC (C j)
theorem CErr.ok {m : Nat} {C : Nat → Cg} (h : CErr m C = 0) : Cargoes m C := by
  unfold CErr at h
  by_cases h1 : 16 < m
  · rw [if_pos h1] at h; exact absurd h (by decide)
  · rw [if_neg h1] at h
    cases ha : anyP m (fun i => !isC (C i))
    · exact ⟨by omega, fun j hj => isC_iff.1 (by have := anyP_no' ha hj; simpa using this)⟩
    · rw [ha, if_pos rfl] at h; exact absurd h (by decide)
set_option maxRecDepth 100000 in
set_option maxHeartbeats 6400000 in
theorem rvcargoes_any (co : Option Addr) (m cc : Nat) (C : Nat → Cg) (hs : ∀ j, j < m → (C j).n.size ≤ maxLen) (w : World) (hC : Cgs w co m C) :
    Calls Try.prog 20 #[.slice co m cc] w fun e w' => e = .returned (.int .i64 (CErr m C)) ∧ Below w.heap.size w w' := by
  by_cases hL : 16 < m
  · have hL' : (16 : Int) < (m : Int) := by omega
    have HR : Hid (CErr m C = 4) := hid (by unfold CErr; rw [if_pos hL])
    rw [HR.out]
    clear hC
    go_enter Try.func20, Try.ntmps20
    go_wp2_with fail
    go_ret
    exact ⟨rfl, Below.refl _ _⟩
  have hL' : ¬ (16 : Int) < (m : Int) := by omega
  obtain ⟨r, hr⟩ : ∃ r, CErr m C = r := ⟨_, rfl⟩
  have HV : Hid ((if anyP m (fun i => !isC (C i)) = true then (1 : Int) else if anyP m (dupC C) = true then 3 else 0) = r) := hid (by rw [← hr]; unfold CErr; rw [if_neg hL])
  have HC := hid hC
  have HSZ := hid hs
  rw [hr]
  clear hr hC hs
  have hm2 : m ≤ 16 := by omega
  clear hL
  go_enter Try.func20, Try.ntmps20
  go_wp2_with fail
  go_loop [3] (fun iv => ∃ i : Nat, i ≤ m ∧ iv = .int .i64 i ∧ Hid (∀ j, j < i → (!isC (C j)) = false)) (fun iv => m - (intOf iv).toNat)
  case atStart => exact ⟨0, Nat.zero_le _, rfl, hid (fun j hj => absurd hj (Nat.not_lt_zero _))⟩
  case round =>
    obtain ⟨i, hi, rfl, HI⟩ := hrel
    by_cases hlt : i < m
    · obtain ⟨b, off, e, hbl, a0, a1, a2, a3⟩ := HC.out i hlt
      subst e
      have hsz := HSZ.out i hlt
      obtain ⟨x, hx⟩ : ∃ x, C i = x := ⟨_, rfl⟩
      rw [hx] at a0 a1 a2 a3 hsz
      have HX := hid hx
      have HBAD : Hid (isC x = false → r = 1) := hid (fun h => by rw [← HV.out, if_pos (anyP_yes hlt (show (!isC (C i)) = true by rw [HX.out, h]; rfl))])
      have HN := hid (fun q (hq : isNm x.n = q) W => named_any x.n hsz q hq W)
      clear hx hsz
      cases qn : isNm x.n
      · skip
        have HQ : Hid (r = 1) := hid (HBAD.out (by simp only [isC, qn, Bool.false_and]))
        have HQN := hid (HN.out false qn)
        clear qn
        go_wp2_with ((go_at_call 46; refine (HQN.out _).mono ?_; rintro e w' ⟨rfl, rfl⟩))
        go_ret
        exact ⟨by rw [HQ.out]; rfl, Below.refl _ _⟩
      · skip
        cases q0 : (decide ((0 : Int) ≤ x.r) && decide (x.r ≤ 1000))
        · have h0 := hid q0
          have HQ : Hid (r = 1) := hid (HBAD.out (by simp only [isC, qn, q0, Bool.false_and, Bool.and_false]))
          have HQN := hid (HN.out true qn)
          clear qn q0
          go_wp2_with (first
            | (go_at_call 46; refine (HQN.out _).mono ?_; rintro e w' ⟨rfl, rfl⟩)
            | (go_at_call 43; (first | (with_reducible refine (out_any x.r 1000 false h0.out _).mono ?_)); rintro e w' ⟨rfl, rfl⟩))
          go_ret
          exact ⟨by rw [HQ.out]; rfl, Below.refl _ _⟩
        · have h0 := hid q0
          cases q1 : (decide ((0 : Int) ≤ x.f) && decide (x.f ≤ 255))
          · have h1 := hid q1
            have HQ : Hid (r = 1) := hid (HBAD.out (by simp only [isC, qn, q0, q1, Bool.false_and, Bool.and_false]))
            have HQN := hid (HN.out true qn)
            clear qn q0 q1
            go_wp2_with (first
              | (go_at_call 46; refine (HQN.out _).mono ?_; rintro e w' ⟨rfl, rfl⟩)
              | (go_at_call 43; (first | (with_reducible refine (out_any x.r 1000 true h0.out _).mono ?_) | (with_reducible refine (out_any x.f 255 false h1.out _).mono ?_)); rintro e w' ⟨rfl, rfl⟩))
            go_ret
            exact ⟨by rw [HQ.out]; rfl, Below.refl _ _⟩
          · have h1 := hid q1
            cases q2 : (decide ((0 : Int) ≤ x.l) && decide (x.l ≤ 255))
            · have h2 := hid q2
              have HQ : Hid (r = 1) := hid (HBAD.out (by simp only [isC, qn, q0, q1, q2, Bool.and_false]))
              have HQN := hid (HN.out true qn)
              clear qn q0 q1 q2
              go_wp2_with (first
                | (go_at_call 46; refine (HQN.out _).mono ?_; rintro e w' ⟨rfl, rfl⟩)
                | (go_at_call 43; (first | (with_reducible refine (out_any x.r 1000 true h0.out _).mono ?_) | (with_reducible refine (out_any x.f 255 true h1.out _).mono ?_) | (with_reducible refine (out_any x.l 255 false h2.out _).mono ?_)); rintro e w' ⟨rfl, rfl⟩))
              go_ret
              exact ⟨by rw [HQ.out]; rfl, Below.refl _ _⟩
            · have h2 := hid q2
              have HD := hid (snoc_no HI.out (show (!isC (C i)) = false by rw [HX.out]; simp only [isC, qn, q0, q1, q2]; rfl))
              have HQN := hid (HN.out true qn)
              clear qn q0 q1 q2
              go_wp2_with (first
                | (go_at_call 46; refine (HQN.out _).mono ?_; rintro e w' ⟨rfl, rfl⟩)
                | (go_at_call 43; (first | (with_reducible refine (out_any x.r 1000 true h0.out _).mono ?_) | (with_reducible refine (out_any x.f 255 true h1.out _).mono ?_) | (with_reducible refine (out_any x.l 255 true h2.out _).mono ?_)); rintro e w' ⟨rfl, rfl⟩))
              go_round
              case rel => exact ⟨i + 1, by omega, by go_num, HD⟩
              case measure => simp [intOf]; omega
    · obtain rfl : m = i := by omega
      have HV2 : Hid ((if anyP m (dupC C) = true then (3 : Int) else 0) = r) := hid (by have h := HV.out; rwa [anyP_no (p := fun i => !isC (C i)) HI.out, if_neg (by simp)] at h)
      clear HV HI
      go_wp2_with fail
      go_loopw [4] (fun iv wr => ∃ i : Nat, i ≤ m ∧ iv = .int .i64 i ∧ Hid ((∀ j, j < i → dupC C j = false) ∧ Below w.heap.size w wr)) (fun iv _ => m - (intOf iv).toNat)
      case atStart => exact ⟨0, Nat.zero_le _, rfl, hid ⟨fun j hj => absurd hj (Nat.not_lt_zero _), Below.refl _ _⟩⟩
      case round =>
        obtain ⟨i, hi, rfl, HI⟩ := hrel
        by_cases hlt : i < m
        · obtain ⟨b, off, e, hbl, a0, _⟩ := HC.out i hlt
          subst e
          obtain ⟨s, hs⟩ : ∃ s, (C i).n = s := ⟨_, rfl⟩
          rw [hs] at a0
          have HSN := hid hs
          have HA0 := hid a0
          have HBL := hid hbl
          have HBB := hid HI.out.2
          clear hs a0 hbl
          go_wp2_with fail
          go_loopw [5] (fun iv wr => ∃ k : Nat, k ≤ i ∧ iv = .int .i64 k ∧ Hid ((∀ j, j < k → decide ((C i).n = (C j).n) = false) ∧ Below w.heap.size w wr)) (fun iv _ => i - (intOf iv).toNat)
          case atStart => exact ⟨0, Nat.zero_le _, rfl, hid ⟨fun j hj => absurd hj (Nat.not_lt_zero _), HBB.out⟩⟩
          case round =>
            obtain ⟨k, hk, rfl, HK⟩ := hrel
            by_cases hlk : k < i
            · obtain ⟨b', off', e', _, d0, _⟩ := HC.out k (by omega)
              cases e'
              obtain ⟨t, ht⟩ : ∃ t, (C k).n = t := ⟨_, rfl⟩
              rw [ht] at d0
              have HT := hid ht
              clear ht
              have hkm : (k : Int) < (m : Int) := by omega
              have a0' := (HK.out.2.cell (p := ⟨b, off + i * 4, none⟩) HBL.out).trans HA0.out
              have d0' := (HK.out.2.cell (p := ⟨b, off + k * 4, none⟩) HBL.out).trans d0
              clear d0
              by_cases hst : s = t
              · have HR : Hid (r = 3) := hid (by rw [← HV2.out, if_pos (anyP_yes hlt (show dupC C i = true from anyP_yes hlk (by rw [HSN.out, HT.out, hst]; simp)))])
                subst hst
                have HKB := hid HK.out.2
                go_upto_region 14 with fail
                go_quiet (fail)
                have HF : Hid (∀ n, Below w.heap.size w (World.drewN wr n)) := hid (fun n => HKB.out.trans ((Joins.below_draws _ _ _).mono HKB.out.size))
                go_wp2_with fail
                go_ret
                exact ⟨by rw [HR.out]; rfl, HF.out _⟩
              · have hb := str_ne hst
                have HD := hid (snoc_no HK.out.1 (show decide ((C i).n = (C k).n) = false by rw [HSN.out, HT.out]; exact decide_eq_false hst))
                have HKB := hid HK.out.2
                go_upto_region 14 with fail
                go_quiet (fail)
                have HF : Hid (∀ n, Below w.heap.size w (World.drewN wr n)) := hid (fun n => HKB.out.trans ((Joins.below_draws _ _ _).mono HKB.out.size))
                go_wp2_with fail
                go_roundw
                case rel => exact ⟨k + 1, by omega, by go_num, hid ⟨HD.out, HF.out _⟩⟩
                case measure => simp [intOf]; omega
            · obtain rfl : k = i := by omega
              have HD := hid (snoc_no HI.out.1 (show dupC C k = false from anyP_no HK.out.1))
              have HKB := hid HK.out.2
              go_wp2_with fail
              go_roundw
              case rel => exact ⟨k + 1, by omega, by go_num, hid ⟨HD.out, HKB.out⟩⟩
              case measure => simp [intOf]; omega
        · obtain rfl : m = i := by omega
          have HR : Hid (r = 0) := hid (by rw [← HV2.out, if_neg (by rw [anyP_no HI.out.1]; simp)])
          go_wp2_with fail
          go_ret
          exact ⟨by rw [HR.out]; rfl, HI.out.2⟩
end Go.Proofs.Ytnfcibcpmaehoaa
