/-
  The walk of split.
-/
import Derived.Test.YtnfcibcpmaehoaaQPay
namespace Go.Proofs.Ytnfcibcpmaehoaa
open Go.RowKit

/-- Some units of a parcel, and the others. -/
def prt (x : Par) (m : Int) : Par := ⟨x.k, x.f, x.t, x.a, m, x.s * m / x.c⟩
def rst (x : Par) (m : Int) : Par := ⟨x.k, x.f, x.t, x.a, x.c - m, x.s - x.s * m / x.c⟩
theorem part_bd {x : Par} (hx : okP x) {m : Int} (h1 : 0 ≤ m) (h2 : m ≤ x.c) : 0 ≤ x.s * m ∧ x.s * m ≤ 1000000000000000000 ∧ 0 ≤ x.s * m / x.c ∧ x.s * m / x.c ≤ x.s := by
  have s1 := hx.s1
  have s2 := hx.s2
  have c1 := hx.c1
  have c2 := hx.c2
  have a : 0 ≤ x.s * m := Int.mul_nonneg s1 h1
  have b : x.s * m ≤ x.s * x.c := Int.mul_le_mul_of_nonneg_left h2 s1
  have c : x.s * x.c ≤ 1000000000000 * 1000000 := Int.mul_le_mul s2 c2 (by omega) (by omega)
  exact ⟨a, by omega, Int.ediv_nonneg a (by omega), Int.le_trans (Int.ediv_le_ediv (by omega) b) (by rw [Int.mul_ediv_cancel _ (by omega)]; exact Int.le_refl _)⟩
set_option maxRecDepth 100000 in
set_option maxHeartbeats 3200000 in
theorem split_any (x : Par) (hx : okP x) (m : Int) (h1 : 0 ≤ m) (h2 : m ≤ x.c) (w : World) :
    Calls Try.prog 56 #[pv x, .int .i64 m] w fun e w' => e = .returned (.tuple #[pv (prt x m), pv (rst x m)]) ∧ Below w.heap.size w w' := by
  have hbd := part_bd hx h1 h2
  have c1 := hx.c1
  have c2 := hx.c2
  have s2 := hx.s2
  unfold prt rst
  obtain ⟨p, hp⟩ : ∃ p, x.s * m = p := ⟨_, rfl⟩
  rw [hp] at hbd ⊢
  obtain ⟨q, hq⟩ : ∃ q, p / x.c = q := ⟨_, rfl⟩
  rw [hq] at hbd ⊢
  obtain ⟨k, f, t, a, c, s⟩ := x
  dsimp only at *
  have e1 : IntKind.i64.wrap (s * m) = p := by rw [hp, IntKind.wrap_i64]; omega
  have e2 : IntKind.i64.wrap (Int.tdiv p c) = q := by rw [Int.tdiv_eq_ediv_of_nonneg hbd.1, hq, IntKind.wrap_i64]; omega
  have e3 : IntKind.i64.wrap (c - m) = c - m := by rw [IntKind.wrap_i64]; omega
  have e4 : IntKind.i64.wrap (s - q) = s - q := by rw [IntKind.wrap_i64]; omega
  have c0 : (c == 0) = false := by simp; omega
  clear hp hq hbd hx
  go_enter Try.func56, Try.ntmps56
  go_upto_region 1 with fail
  go_region
  go_upto_region 2 with fail
  go_region
  go_upto_region 3 with fail
  go_region
  go_upto_region 4 with fail
  go_region
  go_wp2_with fail
  refine bodyPost_ret (v := .tuple #[.agg #[.int .i64 k, .int .i64 f, .int .i64 t, .int .i64 a, .int .i64 m, .int .i64 q], .agg #[.int .i64 k, .int .i64 f, .int .i64 t, .int .i64 a, .int .i64 (c - m), .int .i64 (s - q)]]) (by simp [results, Try.results56, go_sem]) rfl ⟨rfl, ?_⟩
  exact ((((Below.refl _ w).alloc (Nat.le_refl _) _).alloc (by simp) _).alloc (by simp; omega) _).drew.drew.drew.drew
end Go.Proofs.Ytnfcibcpmaehoaa
