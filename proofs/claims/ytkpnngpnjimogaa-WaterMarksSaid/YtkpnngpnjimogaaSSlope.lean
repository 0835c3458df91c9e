/-
  The walks of Slope and Water, of the program and of the reference.
-/
import Derived.Test.YtkpnngpnjimogaaSHigh
namespace Go.Proofs.Ytkpnngpnjimogaa
open Go.RowKit

/-- The heights of a tile's corners. -/
def base (W : Nat) (Z : Nat → Int) (u : Nat) : Int := mn4 (Z (nw W u)) (Z (nw W u + 1)) (Z (nw W u + W + 2)) (Z (nw W u + W + 1))
def top (W : Nat) (Z : Nat → Int) (u : Nat) : Int := mx4 (Z (nw W u)) (Z (nw W u + 1)) (Z (nw W u + W + 2)) (Z (nw W u + W + 1))

/-- The k-th of four. -/
def at4 (a b c d : Int) : Nat → Int
  | 0 => a
  | 1 => b
  | 2 => c
  | _ => d
/-- A slope's bits, as the program sets them: of corners above the base (p), and two above it (q). -/
def slP (p q : Nat → Bool) : Nat → Int
  | 0 => 0
  | k + 1 => if q k then bits .or .i64 (if p k then bits .or .i64 (slP p q k) (2 ^ k) else slP p q k) 16 else if p k then bits .or .i64 (slP p q k) (2 ^ k) else slP p q k
/-- .. and as the reference adds them. -/
def slR (p : Nat → Bool) : Nat → Int
  | 0 => 0
  | k + 1 => if p k then slR p k + 2 ^ k else slR p k
theorem sl_same (p q : Nat → Bool) : slP p q 4 = if q 0 || q 1 || q 2 || q 3 then slR p 4 + 16 else slR p 4 := by
  have key : ∀ a b c d e f g h : Bool,
      (let s1 := if e then bits .or .i64 (if a then bits .or .i64 0 1 else 0) 16 else if a then bits .or .i64 0 1 else 0
       let s2 := if f then bits .or .i64 (if b then bits .or .i64 s1 2 else s1) 16 else if b then bits .or .i64 s1 2 else s1
       let s3 := if g then bits .or .i64 (if c then bits .or .i64 s2 4 else s2) 16 else if c then bits .or .i64 s2 4 else s2
       let s4 := if h then bits .or .i64 (if d then bits .or .i64 s3 8 else s3) 16 else if d then bits .or .i64 s3 8 else s3
       s4) =
      (let r1 : Int := if a then 0 + 1 else 0
       let r2 := if b then r1 + 2 else r1
       let r3 := if c then r2 + 4 else r2
       let r4 := if d then r3 + 8 else r3
       if e || f || g || h then r4 + 16 else r4) := by decide +kernel
  exact key (p 0) (p 1) (p 2) (p 3) (q 0) (q 1) (q 2) (q 3)
def slope (W : Nat) (Z : Nat → Int) (u : Nat) : Int :=
  slP (fun k => decide (base W Z u < at4 (Z (nw W u)) (Z (nw W u + 1)) (Z (nw W u + W + 2)) (Z (nw W u + W + 1)) k)) (fun k => decide (base W Z u + 1 < at4 (Z (nw W u)) (Z (nw W u + 1)) (Z (nw W u + W + 2)) (Z (nw W u + W + 1)) k)) 4

set_option maxHeartbeats 3200000 in
theorem slope_ok (W H : Nat) (ao : Option Addr) (n cap : Nat) (Z : Nat → Int) (hg : Good W H n Z) (u : Nat) (hu : u < W * H) (w : World) (hI : Ints w ao n Z) :
    Calls Try.prog 78 #[lv W H (.slice ao n cap), .int .i64 u] w fun r w' => r = .returned (.tuple #[.int .i64 (slope W Z u), .int .i64 (base W Z u), .int .i64 0]) ∧ Below w.heap.size w w' := by
  have HL := hid (lb_start (W := W) (H := H) (cap := cap) hI)
  have HG := hid hg
  have HU := hid hu
  obtain ⟨hW1, hW2, hH1, hH2⟩ := hg.side
  have hlb := hg.shaped.bound
  have hp : nw W u + W + 2 < n := by rw [hg.len]; exact nw_lt hu
  have h0 := hg.high (nw W u) (by omega)
  have h1 := hg.high (nw W u + 1) (by omega)
  have h2 := hg.high (nw W u + W + 2) (by omega)
  have h3 := hg.high (nw W u + W + 1) (by omega)
  unfold slope
  obtain ⟨m, hm⟩ : ∃ m, m = base W Z u := ⟨_, rfl⟩
  rw [← hm]
  unfold base at hm
  obtain ⟨z0, e0⟩ : ∃ z, z = Z (nw W u) := ⟨_, rfl⟩
  obtain ⟨z1, e1⟩ : ∃ z, z = Z (nw W u + 1) := ⟨_, rfl⟩
  obtain ⟨z2, e2⟩ : ∃ z, z = Z (nw W u + W + 2) := ⟨_, rfl⟩
  obtain ⟨z3, e3⟩ : ∃ z, z = Z (nw W u + W + 1) := ⟨_, rfl⟩
  have E := hid (And.intro e0 (And.intro e1 (And.intro e2 e3)))
  rw [← e0] at h0 hm ⊢
  rw [← e1] at h1 hm ⊢
  rw [← e2] at h2 hm ⊢
  rw [← e3] at h3 hm ⊢
  have hm0 : 0 ≤ m := by rw [hm]; unfold mn4; omega
  have hm1 : m ≤ 15 := by rw [hm]; unfold mn4; omega
  have HM := hid hm
  obtain ⟨p, hpp⟩ : ∃ p : Nat → Bool, p = fun k => decide (m < at4 z0 z1 z2 z3 k) := ⟨_, rfl⟩
  obtain ⟨q, hq⟩ : ∃ q : Nat → Bool, q = fun k => decide (m + 1 < at4 z0 z1 z2 z3 k) := ⟨_, rfl⟩
  rw [← hpp, ← hq]
  have P0 : p 0 = decide (m < z0) := by rw [hpp]; rfl
  have P1 : p 1 = decide (m < z1) := by rw [hpp]; rfl
  have P2 : p 2 = decide (m < z2) := by rw [hpp]; rfl
  have P3 : p 3 = decide (m < z3) := by rw [hpp]; rfl
  have Q0 : q 0 = decide (m + 1 < z0) := by rw [hq]; rfl
  have Q1 : q 1 = decide (m + 1 < z1) := by rw [hq]; rfl
  have Q2 : q 2 = decide (m + 1 < z2) := by rw [hq]; rfl
  have Q3 : q 3 = decide (m + 1 < z3) := by rw [hq]; rfl
  have PQ := hid (And.intro (And.intro P0 Q0) (And.intro (And.intro P1 Q1) (And.intro (And.intro P2 Q2) (And.intro P3 Q3))))
  clear hm hpp hq P0 P1 P2 P3 Q0 Q1 Q2 Q3
  clear hI hg hu e0 e1 e2 e3 hp
  go_enter Try.func78, Try.ntmps78
  go_wp2_with fail
  refine (vt_ok W H ao n cap Z HG.out u HU.out _ HL.out.ints).mono ?_
  rintro r w1 ⟨rfl, hb1⟩
  have HL1 := hid (HL.out.stays hb1)
  have c0 := HL1.out.c0
  have c1 := HL1.out.c1
  have c2 := HL1.out.c2
  have hz := HL1.out.size
  clear hb1
  go_wp2_with fail
  refine (heights_any W H ao n cap Z HG.out u HU.out _ HL1.out.ints).mono ?_
  rintro r w2 ⟨rfl, hb2⟩
  unfold fourH
  rw [← E.out.1, ← E.out.2.1, ← E.out.2.2.1, ← E.out.2.2.2]
  have HL2 := hid ((HL1.out.stays hb2).stays (Joins.below_alloc1 _ (.cells #[.int .i64 z0, .int .i64 z1, .int .i64 z2, .int .i64 z3] 98)))
  clear hb2 c0 c1 c2 HL
  go_wp2_with (go_at_call 105; refine (min_any _ _ z0 z1 z2 z3 _ (by simp) (by simp) (by simp) (by simp)).mono ?_; rintro e w' ⟨rfl, rfl⟩)
  simp only [← HM.out]
  have i0 := ix0
  have i1 := ix1
  have i2 := ix2
  have i3 := ix3
  generalize World.alloc _ _ = w3 at HL2 ⊢
  go_loop [10, 25] (fun sv iv => ∃ k : Nat, k ≤ 4 ∧ iv = .int .i64 k ∧ sv = .int .i64 (slP p q k)) (fun _ iv => 4 - (intOf iv).toNat)
  case atStart => exact ⟨0, by omega, rfl, rfl⟩
  case round =>
    obtain ⟨k, hk, rfl, rfl⟩ := hrel
    by_cases hlt : k < 4
    · have e1 : slP p q (k + 1) = if q k then bits .or .i64 (if p k then bits .or .i64 (slP p q k) (2 ^ k) else slP p q k) 16 else if p k then bits .or .i64 (slP p q k) (2 ^ k) else slP p q k := rfl
      have HE1 := hid e1
      clear e1
      generalize slP p q k = sk at HE1 ⊢
      rcases (show k = 0 ∨ k = 1 ∨ k = 2 ∨ k = 3 by omega) with rfl | rfl | rfl | rfl
      · go_wp2_with fail
        all_goals
          refine ⟨⟨1, by omega, by go_num, congrArg (Value.int IntKind.i64) (Eq.trans ?_ HE1.out.symm)⟩, by simp [intOf]⟩
          rw [PQ.out.1.1, PQ.out.1.2]
          simp only [decide_eq_true_eq]
          (repeat' split) <;> first | rfl | omega
      · go_wp2_with fail
        all_goals
          refine ⟨⟨2, by omega, by go_num, congrArg (Value.int IntKind.i64) (Eq.trans ?_ HE1.out.symm)⟩, by simp [intOf]⟩
          rw [PQ.out.2.1.1, PQ.out.2.1.2]
          simp only [decide_eq_true_eq]
          (repeat' split) <;> first | rfl | omega
      · go_wp2_with fail
        all_goals
          refine ⟨⟨3, by omega, by go_num, congrArg (Value.int IntKind.i64) (Eq.trans ?_ HE1.out.symm)⟩, by simp [intOf]⟩
          rw [PQ.out.2.2.1.1, PQ.out.2.2.1.2]
          simp only [decide_eq_true_eq]
          (repeat' split) <;> first | rfl | omega
      · go_wp2_with fail
        all_goals
          refine ⟨⟨4, by omega, by go_num, congrArg (Value.int IntKind.i64) (Eq.trans ?_ HE1.out.symm)⟩, by simp [intOf]⟩
          rw [PQ.out.2.2.2.1, PQ.out.2.2.2.2]
          simp only [decide_eq_true_eq]
          (repeat' split) <;> first | rfl | omega
    · obtain rfl : k = 4 := by omega
      go_wp2_with fail
      go_ret3
      exact ⟨rfl, HL2.out.below⟩
end Go.Proofs.Ytkpnngpnjimogaa
