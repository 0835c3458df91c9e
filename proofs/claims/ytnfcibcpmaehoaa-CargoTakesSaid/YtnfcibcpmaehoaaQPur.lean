/-
  What is paid for units, as numbers: how both sides reckon it, and that later, nearer and fewer units are never paid more.
-/
import Derived.Test.YtnfcibcpmaehoaaQPar
namespace Go.Proofs.Ytnfcibcpmaehoaa
open Go.RowKit

/-- A name: one to twelve letters. -/
def isNm (s : ByteArray) : Bool := decide (1 ≤ s.size) && decide (s.size ≤ 12) && (List.range s.size).all fun i => decide (97 ≤ (s.data.getD i 0).toNat) && decide ((s.data.getD i 0).toNat ≤ 122)
def isC (c : Cg) : Bool := isNm c.n && (decide (0 ≤ c.r) && decide (c.r ≤ 1000)) && (decide (0 ≤ c.f) && decide (c.f ≤ 255)) && (decide (0 ≤ c.l) && decide (c.l ≤ 255))
structure okC (c : Cg) : Prop where
  nm : isNm c.n = true
  r1 : 0 ≤ c.r
  r2 : c.r ≤ 1000
  f1 : 0 ≤ c.f
  f2 : c.f ≤ 255
  l1 : 0 ≤ c.l
  l2 : c.l ≤ 255
theorem isC_iff {c : Cg} : isC c = true ↔ okC c := by
  simp only [isC, Bool.and_eq_true, decide_eq_true_eq]
  exact ⟨fun ⟨⟨⟨a, b, c⟩, d, e⟩, f, g⟩ => ⟨a, b, c, d, e, f, g⟩, fun ⟨a, b, c, d, e, f, g⟩ => ⟨⟨⟨a, b, c⟩, d, e⟩, f, g⟩⟩
/-- How fresh it is. -/
def frs (c : Cg) (d : Int) : Int := max (255 - max 0 (d - c.f) - max 0 (d - c.f - c.l)) 31
theorem frs_bd {c : Cg} {d : Int} : 31 ≤ frs c d ∧ frs c d ≤ 255 := by unfold frs; omega
def payV (c : Cg) (n far d : Int) : Int := min (c.r * n * far * frs c d / 4096) 1000000000000
theorem mul_bd {a b A B : Int} (ha : 0 ≤ a) (hA : a ≤ A) (hb : 0 ≤ b) (hB : b ≤ B) : 0 ≤ a * b ∧ a * b ≤ A * B :=
  ⟨Int.mul_nonneg ha hb, Int.mul_le_mul hA hB hb (by omega)⟩
structure PB (c : Cg) (n far d : Int) (x y z : Int) : Prop where
  x1 : 0 ≤ x
  x2 : x ≤ 1000000000
  y1 : 0 ≤ y
  y2 : y ≤ 1000000000000000
  z1 : 0 ≤ z
  z2 : z ≤ 255000000000000000
  v : payV c n far d = min (Int.tdiv z 4096) 1000000000000
/-- The products of the program, one by one. -/
theorem pay_bd {c : Cg} (hc : okC c) {n far d : Int} (n1 : 0 ≤ n) (n2 : n ≤ 1000000) (f1 : 0 ≤ far) (f2 : far ≤ 1000000) : PB c n far d (c.r * n) (c.r * n * far) (c.r * n * far * frs c d) := by
  have hx := mul_bd hc.r1 hc.r2 n1 n2
  have hy := mul_bd hx.1 hx.2 f1 f2
  have hF := frs_bd (c := c) (d := d)
  have hz := mul_bd hy.1 hy.2 (by omega) hF.2
  exact ⟨hx.1, by omega, hy.1, by omega, hz.1, by omega, by unfold payV; rw [Int.tdiv_eq_ediv_of_nonneg hz.1]⟩
/-- The products of the reference. -/
theorem rpay_bd {c : Cg} (hc : okC c) {n far d : Int} (n1 : 0 ≤ n) (n2 : n ≤ 1000000) (f1 : 0 ≤ far) (f2 : far ≤ 1000000) :
    0 ≤ c.r * frs c d ∧ c.r * frs c d ≤ 255000 ∧ 0 ≤ n * far ∧ n * far ≤ 1000000000000 ∧ 0 ≤ c.r * frs c d * (n * far) ∧ c.r * frs c d * (n * far) ≤ 255000000000000000 ∧
      payV c n far d = min 1000000000000 (Int.tdiv (c.r * frs c d * (n * far)) 4096) := by
  have hF := frs_bd (c := c) (d := d)
  have hx := mul_bd hc.r1 hc.r2 (by omega) hF.2
  have hy := mul_bd n1 n2 f1 f2
  have hz := mul_bd hx.1 hx.2 hy.1 hy.2
  refine ⟨hx.1, by omega, hy.1, by omega, hz.1, by omega, ?_⟩
  rw [Int.tdiv_eq_ediv_of_nonneg hz.1]
  unfold payV
  rw [show c.r * frs c d * (n * far) = c.r * n * far * frs c d by
    rw [Int.mul_assoc, Int.mul_comm (frs c d), ← Int.mul_assoc, ← Int.mul_assoc]]
  omega
theorem payV_nn {c : Cg} (hc : okC c) {n far d : Int} (n1 : 0 ≤ n) (f1 : 0 ≤ far) : 0 ≤ payV c n far d := by
  have hF := frs_bd (c := c) (d := d)
  have h : 0 ≤ c.r * n * far * frs c d := Int.mul_nonneg (Int.mul_nonneg (Int.mul_nonneg hc.r1 n1) f1) (by omega)
  have := Int.ediv_nonneg h (show (0 : Int) ≤ 4096 by decide)
  unfold payV
  omega
theorem payV_le (c : Cg) (n far d : Int) : payV c n far d ≤ 1000000000000 := by unfold payV; omega
/-- Later, nearer and fewer units are never paid more. -/
theorem payV_mono {c : Cg} (hc : okC c) {n far d n' far' d' : Int} (n1 : 0 ≤ n') (n2 : n' ≤ n) (f1 : 0 ≤ far') (f2 : far' ≤ far) (hd : d ≤ d') : payV c n' far' d' ≤ payV c n far d := by
  have hF := frs_bd (c := c) (d := d)
  have hF' := frs_bd (c := c) (d := d')
  have hff : frs c d' ≤ frs c d := by unfold frs; omega
  have h1 : c.r * n' ≤ c.r * n := Int.mul_le_mul_of_nonneg_left n2 hc.r1
  have h2 : c.r * n' * far' ≤ c.r * n * far := Int.mul_le_mul h1 f2 f1 (Int.mul_nonneg hc.r1 (by omega))
  have h3 : c.r * n' * far' * frs c d' ≤ c.r * n * far * frs c d := Int.mul_le_mul h2 hff (by omega) (Int.mul_nonneg (Int.mul_nonneg hc.r1 (by omega)) (by omega))
  have := Int.ediv_le_ediv (show (0 : Int) < 4096 by decide) h3
  unfold payV
  omega
end Go.Proofs.Ytnfcibcpmaehoaa
