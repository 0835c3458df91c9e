/-
  The walks of large, of the reference's is and of its Validate.
-/
import Derived.Test.YtokpdjdpeaccbaaGKno
namespace Go.Proofs.Ytokpdjdpeaccbaa
open Go.RowKit

def lrg (m k : Nat) (l : Nat → Nat) : Nat := (List.range k).foldl (fun a j => max a (l j)) m
theorem lrg_succ (m k : Nat) (l : Nat → Nat) : lrg m (k + 1) l = max (lrg m k l) (l k) := by simp [lrg, List.range_succ]
theorem lrg_le (m : Nat) (l : Nat → Nat) : ∀ k, m ≤ lrg m k l ∧ ∀ j, j < k → l j ≤ lrg m k l
  | 0 => ⟨Nat.le_refl _, fun j hj => by omega⟩
  | k + 1 => by
    obtain ⟨h1, h2⟩ := lrg_le m l k
    rw [lrg_succ]
    refine ⟨by omega, fun j hj => ?_⟩
    by_cases e : j = k
    · subst e; omega
    · have := h2 j (by omega); omega
set_option maxHeartbeats 3200000 in
theorem large_any (m ec k lc : Nat) (eo lo : Option Addr) (A : Nat → Option Addr) (l C : Nat → Nat) (hk : k ≤ 1000000) (w : World) (hV : Vals w lo k (fun j => .slice (A j) (l j) (C j))) :
    Calls Try.prog 16 #[.slice eo m ec, .slice lo k lc] w fun e w' => e = .returned (.bool (decide (5000 < lrg m k l))) ∧ Below w.heap.size w w' := by
  have HV := hid hV
  clear hV
  go_enter Try.func16, Try.ntmps16
  go_wp2_with fail
  go_loopw [5, 12] (fun nv iv wr => ∃ i : Nat, i ≤ k ∧ iv = .int .i64 i ∧ nv = .int .i64 (lrg m i l : Nat) ∧ w = wr) (fun _ iv _ => k - (intOf iv).toNat)
  case atStart => exact ⟨0, Nat.zero_le _, rfl, rfl, rfl⟩
  case round =>
    obtain ⟨i, hi, rfl, rfl, rfl⟩ := hrel
    by_cases hlt : i < k
    · obtain ⟨b, off, e, hbl, hc⟩ := HV.out i hlt
      subst e
      simp only at hc
      obtain ⟨x, hx⟩ : ∃ x, lrg m i l = x := ⟨_, rfl⟩
      obtain ⟨y, hy⟩ : ∃ y, l i = y := ⟨_, rfl⟩
      have hs := lrg_succ m i l
      rw [hx, hy] at hs
      rw [hx]
      rw [hy] at hc
      have HS := hid hs
      clear hs hx hy
      go_wp2_with fail
      go_roundw
      case rel => exact ⟨i + 1, by omega, by go_num, by rw [HS.out]; congr 1; by_cases h : x < y <;> simp [h] <;> omega, trivial⟩
      case measure => simp [intOf]; omega
    · obtain rfl : k = i := by omega
      go_wp2_with fail
      go_ret
      refine ⟨?_, Below.refl _ _⟩
      rw [show decide (5000 < lrg m k l) = decide ((5000 : Int) < ((lrg m k l : Nat) : Int)) from decide_eq_decide.2 (by omega)]
      rfl
def isN (n x : Int) : Bool := decide (0 ≤ x) && decide (x < n)
theorem isN_bad (n x : Int) : isN n x = !badN n x := by
  unfold isN badN
  rw [Bool.eq_iff_iff]; simp
theorem is_any (n x : Int) (w : World) : Calls Try.prog 40 #[.int .i64 n, .int .i64 x] w fun e w' => e = .returned (.bool (isN n x)) ∧ w = w' := by
  unfold isN
  by_cases h : 0 ≤ x
  · go_enter Try.func40, Try.ntmps40
    go_wp2_with fail
    go_ret
    exact ⟨by simp [h], rfl⟩
  · go_enter Try.func40, Try.ntmps40
    go_wp2_with fail
    go_ret
    exact ⟨by rw [decide_eq_false (show ¬ (0 ≤ x) by omega)]; rfl, rfl⟩
theorem is_at (n x : Int) (q : Bool) (h : isN n x = q) (w : World) : Calls Try.prog 40 #[.int .i64 n, .int .i64 x] w fun e w' => e = .returned (.bool q) ∧ w = w' :=
  (is_any n x w).mono fun e w' hp => ⟨hp.1.trans (by rw [h]), hp.2⟩
theorem anyP_no {m : Nat} {p : Nat → Bool} (h : ∀ j, j < m → p j = false) : anyP m p = false := by
  cases h' : anyP m p
  · rfl
  · obtain ⟨i, hi, hp⟩ := anyP_iff.1 h'; rw [h i hi] at hp; cases hp
theorem anyP_yes {m i : Nat} {p : Nat → Bool} (hi : i < m) (h : p i = true) : anyP m p = true := anyP_iff.2 ⟨i, hi, h⟩
theorem snoc_no {p : Nat → Bool} {i : Nat} (h : ∀ j, j < i → p j = false) (hi : p i = false) : ∀ j, j < i + 1 → p j = false := fun j hj => by
  by_cases e : j = i
  · subst e; exact hi
  · exact h j (by omega)
end Go.Proofs.Ytokpdjdpeaccbaa
