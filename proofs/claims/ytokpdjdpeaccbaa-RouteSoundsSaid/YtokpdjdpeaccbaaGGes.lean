/-
  The walks of validateGuess and of the reference's all and guessed.
-/
import Derived.Test.YtokpdjdpeaccbaaGRVal
namespace Go.Proofs.Ytokpdjdpeaccbaa
open Go.RowKit

def badG (x : Int) : Bool := decide (x < 0) || decide (1000000 < x)
/-- The first error of a graph, nodes and a guess. -/
def GErr (n : Int) (m : Nat) (E : Nat → Ed) (q : Nat) (Y : Nat → Int) (k : Nat) (Z : Nat → Int) : Int :=
  if NErr n m E q Y ≠ 0 then NErr n m E q Y else if (k : Int) ≠ n then 8 else if anyP k (fun i => badG (Z i)) = true then 1 else 0
theorem wrong_any (x : Int) (w : World) : Calls Try.prog 70 #[.int .i64 x] w fun r w' => r = .returned (.bool (badG x)) ∧ Below w.heap.size w w' := by
  unfold badG
  by_cases h : x < 0
  · go_enter Try.func70, Try.ntmps70
    go_wp2
    go_ret
    exact ⟨by simp [h], Below.refl _ _⟩
  · have h' : 0 ≤ x := by omega
    go_enter Try.func70, Try.ntmps70
    go_wp2
    go_ret
    exact ⟨by simp; omega, Below.refl _ _⟩
set_option maxRecDepth 100000 in
set_option maxHeartbeats 3200000 in
theorem guess_any (n : Int) (eo : Option Addr) (m ec : Nat) (E : Nat → Ed) (hm : m ≤ 1000000) (yo : Option Addr) (q yc : Nat) (Y : Nat → Int) (hq : q ≤ 1000000) (zo : Option Addr) (k zc : Nat) (Z : Nat → Int) (hk : k ≤ 1000000) (w : World) (hE : Eds w eo m E) (hY : Ints w yo q Y) (hZ : Ints w zo k Z) :
    Calls Try.prog 52 #[.int .i64 n, .slice eo m ec, .slice zo k zc, .slice yo q yc] w fun e w' => e = .returned (.int .i64 (GErr n m E q Y k Z)) ∧ Below w.heap.size w w' := by
  have H1 := hid (nodes_any n eo m ec E hm yo q yc Y hq w hE hY)
  have H2 := hid (fun (W : World) (hW : Below w.heap.size w W) => containsI_any 70 #[] (enters_of Try.func70 (by kernel_rfl) rfl) zo k zc Z (fun i => badG (Z i)) hk W (hZ.stays hW) (fun i _ W _ => wrong_any (Z i) W))
  unfold GErr
  obtain ⟨v, hv⟩ : ∃ v, NErr n m E q Y = v := ⟨_, rfl⟩
  obtain ⟨r, hr⟩ : ∃ r, anyP k (fun i => badG (Z i)) = r := ⟨_, rfl⟩
  rw [hv] at H1 ⊢
  rw [hr] at H2 ⊢
  clear hv hr hE hY hZ
  by_cases h0 : v = 0
  · subst h0
    rw [if_neg (by simp)]
    by_cases hkn : (k : Int) = n
    · rw [if_neg (by simpa using hkn)]
      subst hkn
      cases r
      · rw [if_neg (by simp)]
        go_enter Try.func52, Try.ntmps52
        go_wp2_with fail
        refine H1.out.mono ?_
        rintro e w2 ⟨rfl, hb2⟩
        have HB2 := hid hb2
        clear hb2
        go_wp2_with fail
        refine (H2.out w2 HB2.out).mono ?_
        rintro e w3 ⟨rfl, hb3⟩
        have HB3 := hid (step HB2.out hb3)
        clear hb3
        go_wp2_with fail
        go_ret
        exact ⟨rfl, HB3.out⟩
      · rw [if_pos rfl]
        go_enter Try.func52, Try.ntmps52
        go_wp2_with fail
        refine H1.out.mono ?_
        rintro e w2 ⟨rfl, hb2⟩
        have HB2 := hid hb2
        clear hb2
        go_wp2_with fail
        refine (H2.out w2 HB2.out).mono ?_
        rintro e w3 ⟨rfl, hb3⟩
        have HB3 := hid (step HB2.out hb3)
        clear hb3
        go_wp2_with fail
        go_ret
        exact ⟨rfl, HB3.out⟩
    · rw [if_pos hkn]
      have hb0 : ((k : Int) == n) = false := by simpa using hkn
      go_enter Try.func52, Try.ntmps52
      go_wp2_with fail
      refine H1.out.mono ?_
      rintro e w2 ⟨rfl, hb2⟩
      have HB2 := hid hb2
      clear hb2
      go_wp2_with fail
      go_ret
      exact ⟨rfl, HB2.out⟩
  · rw [if_pos h0]
    have hb0 : (v == 0) = false := by simpa using h0
    go_enter Try.func52, Try.ntmps52
    go_wp2_with fail
    refine H1.out.mono ?_
    rintro e w2 ⟨rfl, hb2⟩
    have HB2 := hid hb2
    clear hb2
    go_wp2_with fail
    go_ret
    exact ⟨rfl, HB2.out⟩
theorem anyP_no' {m : Nat} {p : Nat → Bool} (h : anyP m p = false) {j : Nat} (hj : j < m) : p j = false := by
  cases h' : p j
  · rfl
  · rw [anyP_yes hj h'] at h; cases h
set_option maxHeartbeats 3200000 in
theorem all_any (n : Int) (ao : Option Addr) (q c : Nat) (Z : Nat → Int) (hq : q ≤ 1000000) (w : World) (hI : Ints w ao q Z) :
    Calls Try.prog 48 #[.int .i64 n, .slice ao q c] w fun e w' => e = .returned (.bool (!anyP q (fun i => badN n (Z i)))) ∧ w = w' := by
  have HI := hid hI
  clear hI
  go_enter Try.func48, Try.ntmps48
  go_wp2_with fail
  go_loopw [9] (fun iv wr => ∃ i : Nat, i ≤ q ∧ iv = .int .i64 i ∧ Hid (∀ j, j < i → badN n (Z j) = false) ∧ w = wr) (fun iv _ => q - (intOf iv).toNat)
  case atStart => exact ⟨0, Nat.zero_le _, rfl, hid (fun j hj => by omega), rfl⟩
  case round =>
    obtain ⟨i, hi, rfl, HS, rfl⟩ := hrel
    by_cases hlt : i < q
    · obtain ⟨b, off, e, hbl, hc⟩ := HI.out i hlt
      subst e
      simp only at hc
      cases hq1 : badN n (Z i)
      · have H1 := hid (show isN n (Z i) = true by rw [isN_bad, hq1]; rfl)
        have HD := hid (snoc_no HS.out hq1)
        clear hq1
        go_wp2_with fail
        refine (is_at n (Z i) true H1.out _).mono ?_
        rintro e w2 ⟨rfl, rfl⟩
        go_wp2_with fail
        go_roundw
        case rel => exact ⟨i + 1, by omega, by go_num, HD, trivial⟩
        case measure => simp [intOf]; omega
      · have H1 := hid (show isN n (Z i) = false by rw [isN_bad, hq1]; rfl)
        have HR := hid (anyP_yes (p := fun i => badN n (Z i)) hlt hq1)
        clear hq1
        go_wp2_with fail
        refine (is_at n (Z i) false H1.out _).mono ?_
        rintro e w2 ⟨rfl, rfl⟩
        go_wp2_with fail
        go_ret
        exact ⟨by rw [HR.out]; rfl, rfl⟩
    · obtain rfl : q = i := by omega
      have HR := hid (anyP_no (p := fun i => badN n (Z i)) HS.out)
      go_wp2_with fail
      go_ret
      exact ⟨by rw [HR.out]; rfl, rfl⟩
theorem all_at (n : Int) (ao : Option Addr) (q c : Nat) (Z : Nat → Int) (hq : q ≤ 1000000) (b : Bool) (h : anyP q (fun i => badN n (Z i)) = b) (w : World) (hI : Ints w ao q Z) :
    Calls Try.prog 48 #[.int .i64 n, .slice ao q c] w fun e w' => e = .returned (.bool (!b)) ∧ w = w' :=
  (all_any n ao q c Z hq w hI).mono fun e w' hp => ⟨hp.1.trans (by rw [h]), hp.2⟩
set_option maxRecDepth 100000 in
set_option maxHeartbeats 6400000 in
theorem guessed_any (n : Int) (eo : Option Addr) (m ec : Nat) (E : Nat → Ed) (yo : Option Addr) (q yc : Nat) (Y : Nat → Int) (hq : q ≤ 1000000) (zo : Option Addr) (k zc : Nat) (Z : Nat → Int) (hk : k ≤ 1000000) (w : World) (hE : Eds w eo m E) (hY : Ints w yo q Y) (hZ : Ints w zo k Z) :
    Calls Try.prog 54 #[.int .i64 n, .slice eo m ec, .slice yo q yc, .slice zo k zc] w fun e w' => e = .returned (.int .i64 (GErr n m E q Y k Z)) ∧ Below w.heap.size w w' := by
  have H1 := hid (rval_any n eo m ec E w hE)
  obtain ⟨B, hB⟩ : ∃ B, w.heap.size = B := ⟨_, rfl⟩
  have HBW := hid hB
  have HY : Hid (∀ wr, Below B w wr → Ints wr yo q Y) := hid (fun wr hb => hY.stays (by rw [hB]; exact hb))
  have HZ : Hid (∀ wr, Below B w wr → Ints wr zo k Z) := hid (fun wr hb => hZ.stays (by rw [hB]; exact hb))
  have HG : Hid (∀ r, GErr n m E q Y k Z = r → GErr n m E q Y k Z = r) := hid (fun _ h => h)
  rw [hB] at H1 ⊢
  clear hE hY hZ hB HG
  by_cases h0 : VErr n m E = 0
  · rw [h0] at H1
    cases hb : anyP q (fun i => badN n (Y i))
    · have hN : NErr n m E q Y = 0 := by unfold NErr; rw [if_neg (by simpa using h0), hb]; rfl
      by_cases hkn : (k : Int) = n
      · have HG : Hid (∀ r, (if anyP k (fun i => badG (Z i)) = true then 1 else 0) = r → GErr n m E q Y k Z = r) := hid (fun r h => by unfold GErr; rw [if_neg (by simpa using hN), if_neg (by simpa using hkn)]; exact h)
        have HA := hid hb
        clear hb hN h0
        go_enter Try.func54, Try.ntmps54
        go_wp2_with fail
        refine H1.out.mono ?_
        rintro e w2 ⟨rfl, hb2⟩
        have HB2 := hid hb2
        clear hb2 H1
        go_wp2_with fail
        refine (all_at n yo q yc Y hq false HA.out w2 (HY.out w2 HB2.out)).mono ?_
        rintro e w3 ⟨rfl, rfl⟩
        go_wp2_with fail
        go_loopw [28] (fun iv wr => ∃ i : Nat, i ≤ k ∧ iv = .int .i64 i ∧ Hid (∀ j, j < i → badG (Z j) = false) ∧ w2 = wr) (fun iv _ => k - (intOf iv).toNat)
        case atStart => exact ⟨0, Nat.zero_le _, rfl, hid (fun j hj => by omega), rfl⟩
        case round =>
          obtain ⟨i, hi, rfl, HS, rfl⟩ := hrel
          by_cases hlt : i < k
          · obtain ⟨b, off, e, hbl, hc⟩ := HZ.out w2 HB2.out i hlt
            subst e
            simp only at hc
            by_cases h1 : Z i < 0
            · have HR := hid (HG.out 1 (by rw [if_pos (anyP_yes hlt (show badG (Z i) = true by simp [badG, h1]))]))
              go_wp2_with fail
              go_ret
              exact ⟨by rw [HR.out]; rfl, HB2.out⟩
            · by_cases h2 : 1000000 < Z i
              · have HR := hid (HG.out 1 (by rw [if_pos (anyP_yes hlt (show badG (Z i) = true by simp [badG, h2]))]))
                go_wp2_with fail
                go_ret
                exact ⟨by rw [HR.out]; rfl, HB2.out⟩
              · have HD := hid (snoc_no HS.out (show badG (Z i) = false by unfold badG; rw [decide_eq_false h1, decide_eq_false h2]; rfl))
                go_wp2_with fail
                go_roundw
                case rel => exact ⟨i + 1, by omega, by go_num, HD, trivial⟩
                case measure => simp [intOf]; omega
          · obtain rfl : k = i := by omega
            have HR := hid (HG.out 0 (by rw [if_neg (by rw [anyP_no HS.out]; simp)]))
            go_wp2_with fail
            go_ret
            exact ⟨by rw [HR.out]; rfl, HB2.out⟩
      · have HR : Hid (GErr n m E q Y k Z = 8) := hid (by unfold GErr; rw [if_neg (by simpa using hN), if_pos hkn])
        have HA := hid hb
        have hb0 : ((k : Int) == n) = false := by simpa using hkn
        clear hb hN h0
        go_enter Try.func54, Try.ntmps54
        go_wp2_with fail
        refine H1.out.mono ?_
        rintro e w2 ⟨rfl, hb2⟩
        have HB2 := hid hb2
        clear hb2 H1
        go_wp2_with fail
        refine (all_at n yo q yc Y hq false HA.out w2 (HY.out w2 HB2.out)).mono ?_
        rintro e w3 ⟨rfl, rfl⟩
        go_wp2_with fail
        go_ret
        exact ⟨by rw [HR.out]; rfl, HB2.out⟩
    · have hN : NErr n m E q Y = 2 := by unfold NErr; rw [if_neg (by simpa using h0), hb]; rfl
      have HR : Hid (GErr n m E q Y k Z = 2) := hid (by unfold GErr; rw [if_pos (by rw [hN]; decide), hN])
      have HA := hid hb
      clear hb hN h0
      go_enter Try.func54, Try.ntmps54
      go_wp2_with fail
      refine H1.out.mono ?_
      rintro e w2 ⟨rfl, hb2⟩
      have HB2 := hid hb2
      clear hb2 H1
      go_wp2_with fail
      refine (all_at n yo q yc Y hq true HA.out w2 (HY.out w2 HB2.out)).mono ?_
      rintro e w3 ⟨rfl, rfl⟩
      go_wp2_with fail
      go_ret
      exact ⟨by rw [HR.out]; rfl, HB2.out⟩
  · have hN : NErr n m E q Y = VErr n m E := by unfold NErr; rw [if_pos h0]
    have HR : Hid (GErr n m E q Y k Z = VErr n m E) := hid (by unfold GErr; rw [if_pos (by rw [hN]; exact h0), hN])
    clear hN
    obtain ⟨v, hv⟩ : ∃ v, VErr n m E = v := ⟨_, rfl⟩
    rw [hv] at H1 HR h0
    have hb0 : (v == 0) = false := by simpa using h0
    clear hv
    go_enter Try.func54, Try.ntmps54
    go_wp2_with fail
    refine H1.out.mono ?_
    rintro e w2 ⟨rfl, hb2⟩
    have HB2 := hid hb2
    clear hb2 H1
    go_wp2_with fail
    go_ret
    exact ⟨by rw [HR.out]; rfl, HB2.out⟩
end Go.Proofs.Ytokpdjdpeaccbaa
