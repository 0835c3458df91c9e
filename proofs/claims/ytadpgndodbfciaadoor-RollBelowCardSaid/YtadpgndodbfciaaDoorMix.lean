/-
  Streams in plain numbers: where a stream is behind so many draws, and the number that is drawn there.
-/
import Derived.WalkKit
import Derived.OpenShut
namespace Go.Proofs.YtadpgndodbfciaaDoor
open Go.RowKit

/-- By how much a stream goes on. -/
def stride : Int := 11400714819323198485
/-- A number modulo 2^64. -/
def md (x : Int) : Int := IntKind.u64.wrap x
theorem md_eq (x : Int) : md x = x % 18446744073709551616 := IntKind.wrap_u64 x
theorem md_md (x y : Int) : md (md x + y) = md (x + y) := by simp only [md_eq]; omega
theorem md_add (x y : Int) : md (x + md y) = md (x + y) := by simp only [md_eq]; omega
theorem md_mul (x y : Int) : md (md x * y) = md (x * y) := by
  simp only [md_eq]
  rw [Int.mul_emod, Int.emod_emod_of_dvd _ (Int.dvd_refl _), ← Int.mul_emod]
theorem md_idem (x : Int) : md (md x) = md x := by simp only [md_eq]; omega
theorem md_in {x : Int} (h : 0 ≤ x) (h' : x < 18446744073709551616) : md x = x := by rw [md_eq]; omega
/-- The three steps that mix a number. -/
def mix1 (z : Int) : Int := IntKind.u64.wrap (bits .xor .u64 z (z / 1073741824) * 13787848793156543929)
def mix2 (z : Int) : Int := IntKind.u64.wrap (bits .xor .u64 z (z / 134217728) * 10723151780598845931)
def mix3 (z : Int) : Int := bits .xor .u64 z (z / 2147483648)
def mix (z : Int) : Int := mix3 (mix2 (mix1 z))
theorem mix_eq (z : Int) : bits .xor .u64 (IntKind.u64.wrap (bits .xor .u64 (IntKind.u64.wrap (bits .xor .u64 z (z / 1073741824) * 13787848793156543929)) (IntKind.u64.wrap (bits .xor .u64 z (z / 1073741824) * 13787848793156543929) / 134217728) * 10723151780598845931))
    (IntKind.u64.wrap (bits .xor .u64 (IntKind.u64.wrap (bits .xor .u64 z (z / 1073741824) * 13787848793156543929)) (IntKind.u64.wrap (bits .xor .u64 z (z / 1073741824) * 13787848793156543929) / 134217728) * 10723151780598845931) / 2147483648) = mix z := rfl
theorem mix_bd (z : Int) : 0 ≤ mix z ∧ mix z ≤ 18446744073709551615 := by
  have h := wf_bits .xor .u64 (mix2 (mix1 z)) (mix2 (mix1 z) / 2147483648)
  have hmax : IntKind.u64.max = 18446744073709551615 := rfl
  have hmin : IntKind.u64.min = 0 := rfl
  simp only [Lit.wf, Bool.and_eq_true, decide_eq_true_eq, hmax, hmin] at h
  exact h
theorem mix_zero : mix 0 = 0 := by decide +kernel
/-- Where the stream a is behind n draws. -/
def skipTo (a n : Int) : Int := md (a + md (md n * stride))
theorem skipTo_eq (a n : Int) : skipTo a n = md (a + n * stride) := by
  unfold skipTo; rw [md_mul, md_add]
theorem skipTo_eq' (a n : Int) : md (a + md (n * stride)) = skipTo a n := by
  rw [skipTo_eq, md_add]
theorem skip_skip (a m n : Int) : skipTo (skipTo a m) n = md (a + (m + n) * stride) := by
  rw [skipTo_eq, skipTo_eq, md_md, Int.add_mul]; congr 1; omega
theorem skip_wrap (a n : Int) : skipTo a (wrap64 n) = skipTo a n := by
  have h : md (wrap64 n) = md n := by simp only [md_eq, wrap64]; omega
  unfold skipTo; rw [h]
theorem skip_none (a : Int) (h0 : 0 ≤ a) (h1 : a < 18446744073709551616) : skipTo a 0 = a := by rw [skipTo_eq, Int.zero_mul, Int.add_zero, md_in h0 h1]
theorem wrap_bd (x : Int) : 0 ≤ IntKind.u64.wrap x ∧ IntKind.u64.wrap x < 18446744073709551616 := by rw [IntKind.wrap_u64]; omega
theorem i64_64 (n : Int) : IntKind.i64.wrap n = wrap64 n := by rw [IntKind.wrap_i64]; unfold wrap64; rfl
theorem skip_back (a n : Int) (h0 : 0 ≤ a) (h1 : a < 18446744073709551616) : skipTo (skipTo a n) (wrap64 (-n)) = a := by
  rw [skip_wrap, skip_skip, show (n + -n) * stride = 0 by rw [Int.add_right_neg]; simp]
  rw [Int.add_zero, md_in h0 h1]
theorem skip_one (a : Int) : md (a + stride) = skipTo a 1 := by rw [skipTo_eq]; simp

/-- Below which numbers a draw below n is taken: the greatest multiple of n that is at most 2^64. -/
def lim (n : Int) : Int := 18446744073709551616 - 18446744073709551616 % n
/-- The number that the stream a has at its k-th place. -/
def numAt (a k : Int) : Int := mix (skipTo a k)
/-- The k-th number is the first one that is taken. -/
def Found (a n : Int) (k : Nat) : Prop := 1 ≤ k ∧ numAt a k < lim n ∧ ∀ j : Nat, 1 ≤ j → j < k → lim n ≤ numAt a j
theorem found_one {a n : Int} {k k' : Nat} (h : Found a n k) (h' : Found a n k') : k = k' := by
  obtain ⟨h1, h2, h3⟩ := h
  obtain ⟨k1, k2, k3⟩ := h'
  by_cases hl : k < k'
  · have := k3 k h1 hl; omega
  · by_cases hl' : k' < k
    · have := h3 k' k1 hl'; omega
    · omega
theorem lim_pos {n : Int} (h1 : 1 ≤ n) (h2 : n ≤ 9223372036854775807) : 0 < lim n := by
  unfold lim
  have := Int.emod_lt_of_pos 18446744073709551616 (show 0 < n by omega)
  omega
theorem lim_le {n : Int} (h1 : 1 ≤ n) : lim n ≤ 18446744073709551616 := by
  unfold lim
  have := Int.emod_nonneg 18446744073709551616 (show n ≠ 0 by omega)
  omega
/-- Some place of every stream holds the number 0: the stride is odd. -/
theorem hit (a : Int) : ∃ K : Nat, 1 ≤ K ∧ skipTo a K = 0 := by
  refine ⟨(18446744073709551616 + md (-a * 17428512612931826493)).toNat, ?_, ?_⟩
  · have := wrap_bd (-a * 17428512612931826493)
    unfold md; omega
  · have h := wrap_bd (-a * 17428512612931826493)
    rw [Int.toNat_of_nonneg (by unfold md; omega), skipTo_eq, md_eq, md_eq]
    unfold stride
    omega
theorem taken_zero {a n : Int} (h1 : 1 ≤ n) (h2 : n ≤ 9223372036854775807) {K : Nat} (h : skipTo a K = 0) : numAt a K < lim n := by
  unfold numAt; rw [h, mix_zero]; exact lim_pos h1 h2
theorem rest_eq {n : Int} : (18446744073709551616 + -n) % n = 18446744073709551616 % n := by
  rw [show 18446744073709551616 + -n = 18446744073709551616 + n * (-1) by omega, Int.add_mul_emod_self_left]
theorem over_eq {n : Int} : (18446744073709551615 % n + 1) % n = 18446744073709551616 % n := by
  rw [Int.add_emod, Int.emod_emod_of_dvd _ (Int.dvd_refl _), ← Int.add_emod]; rfl

end Go.Proofs.YtadpgndodbfciaaDoor
