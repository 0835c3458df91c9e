/-
  Lists of spans in memory; the walks of compare and less.
-/
import Derived.Test.YtpohhcmkkjcelaaSVOn
import Derived.Deep.DeepCutAuto
namespace Go.Proofs.Ytpohhcmkkjcelaa
open Go.RowKit

structure Sp where
  k : Int
  a : Int
  b : Int
  u : Int
abbrev svp (s : Sp) : Value := sv s.k s.a s.b s.u
/-- The slice at an address holds these spans, m of them. -/
def SpansAt (w : World) (lo : Option Addr) (m : Nat) (S : Nat → Sp) : Prop :=
  ∀ j : Nat, j < m → ∃ b off : Nat, lo = some ⟨b, off, none⟩ ∧ b < w.heap.size ∧ w.cell? ⟨b, off + j * 4, none⟩ = some (.int .i64 (S j).k) ∧ w.cell? ⟨b, off + j * 4 + 1, none⟩ = some (.int .i64 (S j).a) ∧ w.cell? ⟨b, off + j * 4 + 2, none⟩ = some (.int .i64 (S j).b) ∧ w.cell? ⟨b, off + j * 4 + 3, none⟩ = some (.int .i64 (S j).u)
theorem SpansAt.stays {w w' : World} {lo : Option Addr} {m : Nat} {S : Nat → Sp} (h : SpansAt w lo m S) (hb : Below w.heap.size w w') : SpansAt w' lo m S := fun j hj => by
  obtain ⟨b, off, e, hz, c0, c1, c2, c3⟩ := h j hj
  exact ⟨b, off, e, by have := hb.size; omega, (hb.cell (p := ⟨b, _, none⟩) hz).trans c0, (hb.cell (p := ⟨b, _, none⟩) hz).trans c1, (hb.cell (p := ⟨b, _, none⟩) hz).trans c2, (hb.cell (p := ⟨b, _, none⟩) hz).trans c3⟩
/-- A list that has a span lies in one block. -/
theorem SpansAt.one {w : World} {lo : Option Addr} {m : Nat} {S : Nat → Sp} (h : SpansAt w lo m S) (hm : 0 < m) : ∃ b off : Nat, lo = some ⟨b, off, none⟩ ∧ b < w.heap.size ∧ ∀ j, j < m → w.cell? ⟨b, off + j * 4, none⟩ = some (.int .i64 (S j).k) ∧ w.cell? ⟨b, off + j * 4 + 1, none⟩ = some (.int .i64 (S j).a) ∧ w.cell? ⟨b, off + j * 4 + 2, none⟩ = some (.int .i64 (S j).b) ∧ w.cell? ⟨b, off + j * 4 + 3, none⟩ = some (.int .i64 (S j).u) := by
  obtain ⟨b, off, e, hz, _⟩ := h 0 hm
  refine ⟨b, off, e, hz, fun j hj => ?_⟩
  obtain ⟨b', off', e', hz', hc⟩ := h j hj
  rw [e] at e'
  cases e'
  exact hc

def cmp1 (x y : Int) : Int := if x < y then -1 else if y < x then 1 else 0
def orI (a b c d : Int) : Int := if a ≠ 0 then a else if b ≠ 0 then b else if c ≠ 0 then c else d
def cmpS (s t : Sp) : Int := orI (cmp1 s.k t.k) (cmp1 s.a t.a) (cmp1 s.b t.b) (cmp1 s.u t.u)
/-- A span stands ahead of another one in a list. -/
def Less (s t : Sp) : Prop := s.k < t.k ∨ (s.k = t.k ∧ (s.a < t.a ∨ (s.a = t.a ∧ (s.b < t.b ∨ (s.b = t.b ∧ s.u < t.u)))))
theorem cmp_neg (s t : Sp) : cmpS s t < 0 ↔ Less s t := by
  unfold cmpS orI cmp1 Less
  (repeat' split) <;> constructor <;> intro _ <;> omega

set_option maxHeartbeats 800000 in
theorem isNaN_any (x : Int) (w : World) : Calls Try.prog 98 #[.int .i64 x] w fun e w' => e = .returned (.bool false) ∧ w = w' := by
  go_enter Try.func98, Try.ntmps98
  go_wp2
  all_goals go_ret
  all_goals exact ⟨ret_bool (by simp), rfl⟩
set_option maxHeartbeats 1600000 in
theorem ccompare_any (x y c : Int) (hc : c = cmp1 x y) (w : World) : Calls Try.prog 81 #[.int .i64 x, .int .i64 y] w fun e w' => e = .returned (.int .i64 c) ∧ Below w.heap.size w w' := by
  unfold cmp1 at hc
  by_cases h1 : x < y
  · rw [if_pos h1] at hc
    subst hc
    go_enter Try.func81, Try.ntmps81
    go_wp2_with (go_at_call 98; refine (isNaN_any _ _).mono ?_; rintro e w' ⟨rfl, rfl⟩)
    go_ret
    exact ⟨rfl, Below.refl _ _⟩
  · rw [if_neg h1] at hc
    by_cases h2 : y < x
    · rw [if_pos h2] at hc
      subst hc
      go_enter Try.func81, Try.ntmps81
      go_wp2_with (go_at_call 98; refine (isNaN_any _ _).mono ?_; rintro e w' ⟨rfl, rfl⟩)
      go_ret
      exact ⟨rfl, Below.refl _ _⟩
    · rw [if_neg h2] at hc
      subst hc
      go_enter Try.func81, Try.ntmps81
      go_wp2_with (go_at_call 98; refine (isNaN_any _ _).mono ?_; rintro e w' ⟨rfl, rfl⟩)
      go_ret
      exact ⟨rfl, Below.refl _ _⟩

set_option maxHeartbeats 3200000 in
theorem cor_any (g cap : Nat) (a b c d r : Int) (hr : r = orI a b c d) (w : World) (c0 : w.cell? ⟨g, 0, none⟩ = some (.int .i64 a)) (c1 : w.cell? ⟨g, 1, none⟩ = some (.int .i64 b)) (c2 : w.cell? ⟨g, 2, none⟩ = some (.int .i64 c)) (c3 : w.cell? ⟨g, 3, none⟩ = some (.int .i64 d)) :
    Calls Try.prog 80 #[.slice (some ⟨g, 0, none⟩) 4 cap] w fun e w' => e = .returned (.int .i64 r) ∧ Below w.heap.size w w' := by
  have HR := hid hr
  clear hr
  go_enter Try.func80, Try.ntmps80
  go_wp2_with fail
  go_loop [8] (fun iv => ∃ k : Nat, k ≤ 4 ∧ iv = .int .i64 k ∧ Hid (∀ j, j < k → at4 a b c d j = 0)) (fun iv => 4 - (intOf iv).toNat)
  case atStart => exact ⟨0, by omega, rfl, hid (fun i hi => by omega)⟩
  case round =>
    obtain ⟨k, hk, rfl, hk2⟩ := hrel
    by_cases hlt : k < 4
    · rcases (show k = 0 ∨ k = 1 ∨ k = 2 ∨ k = 3 by omega) with rfl | rfl | rfl | rfl
      · by_cases h : a = 0
        · have g1 : (a == 0) = true := by rw [beq_iff_eq]; exact h
          have g2 : (a != 0) = false := by simp [h]
          have H := hid h
          clear h
          go_wp2_with fail
          refine ⟨⟨1, by omega, rfl, hid (fun i hi => ?_)⟩, by simp [intOf]⟩
          by_cases hh : i < 0
          · exact hk2.out i hh
          · obtain rfl : i = 0 := by omega
            exact H.out
        · have g1 : (a == 0) = false := by rw [beq_eq_false_iff_ne]; exact h
          have g2 : (a != 0) = true := by simp [h]
          have H := hid h
          clear h
          go_wp2_with fail
          go_ret
          refine ⟨ret_int ?_, Below.refl _ _⟩
          simp only [at4] at *
          rw [HR.out]; unfold orI
          have := H.out
          (repeat' split) <;> omega
      · by_cases h : b = 0
        · have g1 : (b == 0) = true := by rw [beq_iff_eq]; exact h
          have g2 : (b != 0) = false := by simp [h]
          have H := hid h
          clear h
          go_wp2_with fail
          refine ⟨⟨2, by omega, rfl, hid (fun i hi => ?_)⟩, by simp [intOf]⟩
          by_cases hh : i < 1
          · exact hk2.out i hh
          · obtain rfl : i = 1 := by omega
            exact H.out
        · have g1 : (b == 0) = false := by rw [beq_eq_false_iff_ne]; exact h
          have g2 : (b != 0) = true := by simp [h]
          have H := hid h
          clear h
          go_wp2_with fail
          go_ret
          refine ⟨ret_int ?_, Below.refl _ _⟩
          have j0 := hk2.out 0 (by omega); simp only [at4] at *
          rw [HR.out]; unfold orI
          have := H.out
          (repeat' split) <;> omega
      · by_cases h : c = 0
        · have g1 : (c == 0) = true := by rw [beq_iff_eq]; exact h
          have g2 : (c != 0) = false := by simp [h]
          have H := hid h
          clear h
          go_wp2_with fail
          refine ⟨⟨3, by omega, rfl, hid (fun i hi => ?_)⟩, by simp [intOf]⟩
          by_cases hh : i < 2
          · exact hk2.out i hh
          · obtain rfl : i = 2 := by omega
            exact H.out
        · have g1 : (c == 0) = false := by rw [beq_eq_false_iff_ne]; exact h
          have g2 : (c != 0) = true := by simp [h]
          have H := hid h
          clear h
          go_wp2_with fail
          go_ret
          refine ⟨ret_int ?_, Below.refl _ _⟩
          have j0 := hk2.out 0 (by omega); have j1 := hk2.out 1 (by omega); simp only [at4] at *
          rw [HR.out]; unfold orI
          have := H.out
          (repeat' split) <;> omega
      · by_cases h : d = 0
        · have g1 : (d == 0) = true := by rw [beq_iff_eq]; exact h
          have g2 : (d != 0) = false := by simp [h]
          have H := hid h
          clear h
          go_wp2_with fail
          refine ⟨⟨4, by omega, rfl, hid (fun i hi => ?_)⟩, by simp [intOf]⟩
          by_cases hh : i < 3
          · exact hk2.out i hh
          · obtain rfl : i = 3 := by omega
            exact H.out
        · have g1 : (d == 0) = false := by rw [beq_eq_false_iff_ne]; exact h
          have g2 : (d != 0) = true := by simp [h]
          have H := hid h
          clear h
          go_wp2_with fail
          go_ret
          refine ⟨ret_int ?_, Below.refl _ _⟩
          have j0 := hk2.out 0 (by omega); have j1 := hk2.out 1 (by omega); have j2 := hk2.out 2 (by omega); simp only [at4] at *
          rw [HR.out]; unfold orI
          have := H.out
          (repeat' split) <;> omega
    · obtain rfl : k = 4 := by omega
      go_wp2_with fail
      go_ret
      refine ⟨ret_int ?_, Below.refl _ _⟩
      have j0 := hk2.out 0 (by omega); have j1 := hk2.out 1 (by omega); have j2 := hk2.out 2 (by omega); have j3 := hk2.out 3 (by omega)
      simp only [at4] at j0 j1 j2 j3
      rw [HR.out]; unfold orI
      (repeat' split) <;> omega

/-- The boxes of two spans. -/
theorem pb_start (s t : Sp) (w : World) : (((w.alloc (.cells #[.int .i64 s.k, .int .i64 s.a, .int .i64 s.b, .int .i64 s.u] 26)).alloc (.cells #[.int .i64 t.k, .int .i64 t.a, .int .i64 t.b, .int .i64 t.u] 26)).cell? ⟨w.heap.size, 0, none⟩ = some (.int .i64 s.k) ∧ ((w.alloc (.cells #[.int .i64 s.k, .int .i64 s.a, .int .i64 s.b, .int .i64 s.u] 26)).alloc (.cells #[.int .i64 t.k, .int .i64 t.a, .int .i64 t.b, .int .i64 t.u] 26)).cell? ⟨w.heap.size, 1, none⟩ = some (.int .i64 s.a) ∧ ((w.alloc (.cells #[.int .i64 s.k, .int .i64 s.a, .int .i64 s.b, .int .i64 s.u] 26)).alloc (.cells #[.int .i64 t.k, .int .i64 t.a, .int .i64 t.b, .int .i64 t.u] 26)).cell? ⟨w.heap.size, 2, none⟩ = some (.int .i64 s.b) ∧ ((w.alloc (.cells #[.int .i64 s.k, .int .i64 s.a, .int .i64 s.b, .int .i64 s.u] 26)).alloc (.cells #[.int .i64 t.k, .int .i64 t.a, .int .i64 t.b, .int .i64 t.u] 26)).cell? ⟨w.heap.size, 3, none⟩ = some (.int .i64 s.u) ∧ ((w.alloc (.cells #[.int .i64 s.k, .int .i64 s.a, .int .i64 s.b, .int .i64 s.u] 26)).alloc (.cells #[.int .i64 t.k, .int .i64 t.a, .int .i64 t.b, .int .i64 t.u] 26)).cell? ⟨w.heap.size + 1, 0, none⟩ = some (.int .i64 t.k) ∧ ((w.alloc (.cells #[.int .i64 s.k, .int .i64 s.a, .int .i64 s.b, .int .i64 s.u] 26)).alloc (.cells #[.int .i64 t.k, .int .i64 t.a, .int .i64 t.b, .int .i64 t.u] 26)).cell? ⟨w.heap.size + 1, 1, none⟩ = some (.int .i64 t.a) ∧ ((w.alloc (.cells #[.int .i64 s.k, .int .i64 s.a, .int .i64 s.b, .int .i64 s.u] 26)).alloc (.cells #[.int .i64 t.k, .int .i64 t.a, .int .i64 t.b, .int .i64 t.u] 26)).cell? ⟨w.heap.size + 1, 2, none⟩ = some (.int .i64 t.b) ∧ ((w.alloc (.cells #[.int .i64 s.k, .int .i64 s.a, .int .i64 s.b, .int .i64 s.u] 26)).alloc (.cells #[.int .i64 t.k, .int .i64 t.a, .int .i64 t.b, .int .i64 t.u] 26)).cell? ⟨w.heap.size + 1, 3, none⟩ = some (.int .i64 t.u)) := by
  refine ⟨?_, ?_, ?_, ?_, ?_, ?_, ?_, ?_⟩ <;> simp
theorem pb_keep {s t : Sp} {w wr w' : World} (hz : w.heap.size + 1 < wr.heap.size) (h : wr.cell? ⟨w.heap.size, 0, none⟩ = some (.int .i64 s.k) ∧ wr.cell? ⟨w.heap.size, 1, none⟩ = some (.int .i64 s.a) ∧ wr.cell? ⟨w.heap.size, 2, none⟩ = some (.int .i64 s.b) ∧ wr.cell? ⟨w.heap.size, 3, none⟩ = some (.int .i64 s.u) ∧ wr.cell? ⟨w.heap.size + 1, 0, none⟩ = some (.int .i64 t.k) ∧ wr.cell? ⟨w.heap.size + 1, 1, none⟩ = some (.int .i64 t.a) ∧ wr.cell? ⟨w.heap.size + 1, 2, none⟩ = some (.int .i64 t.b) ∧ wr.cell? ⟨w.heap.size + 1, 3, none⟩ = some (.int .i64 t.u)) (hb : Below wr.heap.size wr w') : w'.cell? ⟨w.heap.size, 0, none⟩ = some (.int .i64 s.k) ∧ w'.cell? ⟨w.heap.size, 1, none⟩ = some (.int .i64 s.a) ∧ w'.cell? ⟨w.heap.size, 2, none⟩ = some (.int .i64 s.b) ∧ w'.cell? ⟨w.heap.size, 3, none⟩ = some (.int .i64 s.u) ∧ w'.cell? ⟨w.heap.size + 1, 0, none⟩ = some (.int .i64 t.k) ∧ w'.cell? ⟨w.heap.size + 1, 1, none⟩ = some (.int .i64 t.a) ∧ w'.cell? ⟨w.heap.size + 1, 2, none⟩ = some (.int .i64 t.b) ∧ w'.cell? ⟨w.heap.size + 1, 3, none⟩ = some (.int .i64 t.u) :=
  have h0 : w.heap.size < wr.heap.size := by omega
  ⟨(hb.cell (p := ⟨w.heap.size, 0, none⟩) h0).trans h.1, (hb.cell (p := ⟨w.heap.size, 1, none⟩) h0).trans h.2.1, (hb.cell (p := ⟨w.heap.size, 2, none⟩) h0).trans h.2.2.1, (hb.cell (p := ⟨w.heap.size, 3, none⟩) h0).trans h.2.2.2.1, (hb.cell (p := ⟨w.heap.size + 1, 0, none⟩) hz).trans h.2.2.2.2.1, (hb.cell (p := ⟨w.heap.size + 1, 1, none⟩) hz).trans h.2.2.2.2.2.1, (hb.cell (p := ⟨w.heap.size + 1, 2, none⟩) hz).trans h.2.2.2.2.2.2.1, (hb.cell (p := ⟨w.heap.size + 1, 3, none⟩) hz).trans h.2.2.2.2.2.2.2⟩

theorem pk_keep {s t : Sp} {w wr w' : World} (h : (wr.cell? ⟨w.heap.size, 0, none⟩ = some (.int .i64 s.k) ∧ wr.cell? ⟨w.heap.size, 1, none⟩ = some (.int .i64 s.a) ∧ wr.cell? ⟨w.heap.size, 2, none⟩ = some (.int .i64 s.b) ∧ wr.cell? ⟨w.heap.size, 3, none⟩ = some (.int .i64 s.u) ∧ wr.cell? ⟨w.heap.size + 1, 0, none⟩ = some (.int .i64 t.k) ∧ wr.cell? ⟨w.heap.size + 1, 1, none⟩ = some (.int .i64 t.a) ∧ wr.cell? ⟨w.heap.size + 1, 2, none⟩ = some (.int .i64 t.b) ∧ wr.cell? ⟨w.heap.size + 1, 3, none⟩ = some (.int .i64 t.u)) ∧ w.heap.size + 1 < wr.heap.size ∧ Below w.heap.size w wr) (hb : Below wr.heap.size wr w') : (w'.cell? ⟨w.heap.size, 0, none⟩ = some (.int .i64 s.k) ∧ w'.cell? ⟨w.heap.size, 1, none⟩ = some (.int .i64 s.a) ∧ w'.cell? ⟨w.heap.size, 2, none⟩ = some (.int .i64 s.b) ∧ w'.cell? ⟨w.heap.size, 3, none⟩ = some (.int .i64 s.u) ∧ w'.cell? ⟨w.heap.size + 1, 0, none⟩ = some (.int .i64 t.k) ∧ w'.cell? ⟨w.heap.size + 1, 1, none⟩ = some (.int .i64 t.a) ∧ w'.cell? ⟨w.heap.size + 1, 2, none⟩ = some (.int .i64 t.b) ∧ w'.cell? ⟨w.heap.size + 1, 3, none⟩ = some (.int .i64 t.u)) ∧ w.heap.size + 1 < w'.heap.size ∧ Below w.heap.size w w' :=
  ⟨pb_keep h.2.1 h.1 hb, Nat.lt_of_lt_of_le h.2.1 hb.size, step h.2.2 hb⟩
theorem pk_below {w wr : World} {p q : Prop} (h : p ∧ q ∧ Below w.heap.size w wr) : Below w.heap.size w wr := h.2.2

set_option maxRecDepth 20000 in
set_option maxHeartbeats 6400000 in
theorem compare_any (s t : Sp) (c : Int) (hc : c = cmpS s t) (w : World) : Calls Try.prog 55 #[svp s, svp t] w fun e w' => e = .returned (.int .i64 c) ∧ Below w.heap.size w w' := by
  have HC := hid hc
  have hP := pb_start s t w
  have hB := Joins.below_alloc2 w (.cells #[.int .i64 s.k, .int .i64 s.a, .int .i64 s.b, .int .i64 s.u] 26) (.cells #[.int .i64 t.k, .int .i64 t.a, .int .i64 t.b, .int .i64 t.u] 26)
  have hz : w.heap.size + 1 < ((w.alloc (.cells #[.int .i64 s.k, .int .i64 s.a, .int .i64 s.b, .int .i64 s.u] 26)).alloc (.cells #[.int .i64 t.k, .int .i64 t.a, .int .i64 t.b, .int .i64 t.u] 26)).heap.size := by simp
  have HP := hid (And.intro hP (And.intro hB hz))
  obtain ⟨c0, h0⟩ : ∃ c, c = cmp1 s.k t.k := ⟨_, rfl⟩
  obtain ⟨c1, h1⟩ : ∃ c, c = cmp1 s.a t.a := ⟨_, rfl⟩
  obtain ⟨c2, h2⟩ : ∃ c, c = cmp1 s.b t.b := ⟨_, rfl⟩
  obtain ⟨c3, h3⟩ : ∃ c, c = cmp1 s.u t.u := ⟨_, rfl⟩
  have HH := hid (And.intro h0 (And.intro h1 (And.intro h2 h3)))
  have HCC : Hid (c = orI c0 c1 c2 c3) := hid (by rw [hc, h0, h1, h2, h3]; rfl)
  clear hc hP hB hz h0 h1 h2 h3
  go_enter Try.func55, Try.ntmps55
  go_upto_region 1 with fail
  generalize World.alloc (World.alloc w _) _ = wm at HP ⊢
  refine wp_region_held_drew (S := (fun wr => (wr.cell? ⟨w.heap.size, 0, none⟩ = some (.int .i64 s.k) ∧ wr.cell? ⟨w.heap.size, 1, none⟩ = some (.int .i64 s.a) ∧ wr.cell? ⟨w.heap.size, 2, none⟩ = some (.int .i64 s.b) ∧ wr.cell? ⟨w.heap.size, 3, none⟩ = some (.int .i64 s.u) ∧ wr.cell? ⟨w.heap.size + 1, 0, none⟩ = some (.int .i64 t.k) ∧ wr.cell? ⟨w.heap.size + 1, 1, none⟩ = some (.int .i64 t.a) ∧ wr.cell? ⟨w.heap.size + 1, 2, none⟩ = some (.int .i64 t.b) ∧ wr.cell? ⟨w.heap.size + 1, 3, none⟩ = some (.int .i64 t.u)) ∧ w.heap.size + 1 < wr.heap.size ∧ Below w.heap.size w wr)) (by kernel_rfl) (pk_keep (And.intro HP.out.1 (And.intro HP.out.2.2 HP.out.2.1)) ((Below.refl _ _).drew)) (fun hHeld => ?_)
  refine wpAnyH_take (i := 0) (oi := { dst := some 5, op := Op.fieldAddr 26 (Operand.tmp 2) 0, type := 0, pos := "list.go:128", after := #[], guard := none }) (v := ?_) rfl (by kernel_rfl) (by kernel_rfl) (by kernel_rfl) (fun _ _ _ h => h) (Or.inl ⟨by rfl, ?_⟩) (by assumption) ?_
  rotate_left
  · intro w hSw; (try dsimp only at hSw); go_simp; try (with_reducible rfl)
  try simp only [Act.put, List.setIfInBounds_toArray, List.set_cons_zero, List.set_cons_succ]
  refine wpAnyH_take (i := 1) (oi := { dst := some 6, op := Op.load 3 (Operand.tmp 5), type := 3, pos := "list.go:128", after := #[{ on := 0, ground := Ground.data }], guard := none }) (v := ?_) rfl (by kernel_rfl) (by kernel_rfl) (by kernel_rfl) (fun _ _ _ h => h) (Or.inl ⟨by rfl, ?_⟩) (by assumption) ?_
  rotate_left
  · intro w hSw; (try dsimp only at hSw); go_simp; try (with_reducible rfl)
  try simp only [Act.put, List.setIfInBounds_toArray, List.set_cons_zero, List.set_cons_succ]
  refine wpAnyH_take (i := 2) (oi := { dst := some 7, op := Op.fieldAddr 26 (Operand.tmp 3) 0, type := 0, pos := "list.go:128", after := #[], guard := none }) (v := ?_) rfl (by kernel_rfl) (by kernel_rfl) (by kernel_rfl) (fun _ _ _ h => h) (Or.inl ⟨by rfl, ?_⟩) (by assumption) ?_
  rotate_left
  · intro w hSw; (try dsimp only at hSw); go_simp; try (with_reducible rfl)
  try simp only [Act.put, List.setIfInBounds_toArray, List.set_cons_zero, List.set_cons_succ]
  refine wpAnyH_take (i := 3) (oi := { dst := some 8, op := Op.load 3 (Operand.tmp 7), type := 3, pos := "list.go:128", after := #[{ on := 2, ground := Ground.data }], guard := none }) (v := ?_) rfl (by kernel_rfl) (by kernel_rfl) (by kernel_rfl) (fun _ _ _ h => h) (Or.inl ⟨by rfl, ?_⟩) (by assumption) ?_
  rotate_left
  · intro w hSw; (try dsimp only at hSw); go_simp; try (with_reducible rfl)
  try simp only [Act.put, List.setIfInBounds_toArray, List.set_cons_zero, List.set_cons_succ]
  refine wpAnyH_take (i := 5) (oi := { dst := some 10, op := Op.fieldAddr 26 (Operand.tmp 2) 1, type := 0, pos := "list.go:128", after := #[], guard := none }) (v := ?_) rfl (by kernel_rfl) (by kernel_rfl) (by kernel_rfl) (fun _ _ _ h => h) (Or.inl ⟨by rfl, ?_⟩) (by assumption) ?_
  rotate_left
  · intro w hSw; (try dsimp only at hSw); go_simp; try (with_reducible rfl)
  try simp only [Act.put, List.setIfInBounds_toArray, List.set_cons_zero, List.set_cons_succ]
  refine wpAnyH_take (i := 6) (oi := { dst := some 11, op := Op.load 3 (Operand.tmp 10), type := 3, pos := "list.go:128", after := #[{ on := 5, ground := Ground.data }], guard := none }) (v := ?_) rfl (by kernel_rfl) (by kernel_rfl) (by kernel_rfl) (fun _ _ _ h => h) (Or.inl ⟨by rfl, ?_⟩) (by assumption) ?_
  rotate_left
  · intro w hSw; (try dsimp only at hSw); go_simp; try (with_reducible rfl)
  try simp only [Act.put, List.setIfInBounds_toArray, List.set_cons_zero, List.set_cons_succ]
  refine wpAnyH_take (i := 7) (oi := { dst := some 12, op := Op.fieldAddr 26 (Operand.tmp 3) 1, type := 0, pos := "list.go:128", after := #[], guard := none }) (v := ?_) rfl (by kernel_rfl) (by kernel_rfl) (by kernel_rfl) (fun _ _ _ h => h) (Or.inl ⟨by rfl, ?_⟩) (by assumption) ?_
  rotate_left
  · intro w hSw; (try dsimp only at hSw); go_simp; try (with_reducible rfl)
  try simp only [Act.put, List.setIfInBounds_toArray, List.set_cons_zero, List.set_cons_succ]
  refine wpAnyH_take (i := 8) (oi := { dst := some 13, op := Op.load 3 (Operand.tmp 12), type := 3, pos := "list.go:128", after := #[{ on := 7, ground := Ground.data }], guard := none }) (v := ?_) rfl (by kernel_rfl) (by kernel_rfl) (by kernel_rfl) (fun _ _ _ h => h) (Or.inl ⟨by rfl, ?_⟩) (by assumption) ?_
  rotate_left
  · intro w hSw; (try dsimp only at hSw); go_simp; try (with_reducible rfl)
  try simp only [Act.put, List.setIfInBounds_toArray, List.set_cons_zero, List.set_cons_succ]
  refine wpAnyH_take (i := 10) (oi := { dst := some 15, op := Op.fieldAddr 26 (Operand.tmp 2) 2, type := 0, pos := "list.go:128", after := #[], guard := none }) (v := ?_) rfl (by kernel_rfl) (by kernel_rfl) (by kernel_rfl) (fun _ _ _ h => h) (Or.inl ⟨by rfl, ?_⟩) (by assumption) ?_
  rotate_left
  · intro w hSw; (try dsimp only at hSw); go_simp; try (with_reducible rfl)
  try simp only [Act.put, List.setIfInBounds_toArray, List.set_cons_zero, List.set_cons_succ]
  refine wpAnyH_take (i := 11) (oi := { dst := some 16, op := Op.load 3 (Operand.tmp 15), type := 3, pos := "list.go:128", after := #[{ on := 10, ground := Ground.data }], guard := none }) (v := ?_) rfl (by kernel_rfl) (by kernel_rfl) (by kernel_rfl) (fun _ _ _ h => h) (Or.inl ⟨by rfl, ?_⟩) (by assumption) ?_
  rotate_left
  · intro w hSw; (try dsimp only at hSw); go_simp; try (with_reducible rfl)
  try simp only [Act.put, List.setIfInBounds_toArray, List.set_cons_zero, List.set_cons_succ]
  refine wpAnyH_take (i := 12) (oi := { dst := some 17, op := Op.fieldAddr 26 (Operand.tmp 3) 2, type := 0, pos := "list.go:128", after := #[], guard := none }) (v := ?_) rfl (by kernel_rfl) (by kernel_rfl) (by kernel_rfl) (fun _ _ _ h => h) (Or.inl ⟨by rfl, ?_⟩) (by assumption) ?_
  rotate_left
  · intro w hSw; (try dsimp only at hSw); go_simp; try (with_reducible rfl)
  try simp only [Act.put, List.setIfInBounds_toArray, List.set_cons_zero, List.set_cons_succ]
  refine wpAnyH_take (i := 13) (oi := { dst := some 18, op := Op.load 3 (Operand.tmp 17), type := 3, pos := "list.go:128", after := #[{ on := 12, ground := Ground.data }], guard := none }) (v := ?_) rfl (by kernel_rfl) (by kernel_rfl) (by kernel_rfl) (fun _ _ _ h => h) (Or.inl ⟨by rfl, ?_⟩) (by assumption) ?_
  rotate_left
  · intro w hSw; (try dsimp only at hSw); go_simp; try (with_reducible rfl)
  try simp only [Act.put, List.setIfInBounds_toArray, List.set_cons_zero, List.set_cons_succ]
  refine wpAnyH_take (i := 15) (oi := { dst := some 20, op := Op.fieldAddr 26 (Operand.tmp 2) 3, type := 0, pos := "list.go:128", after := #[], guard := none }) (v := ?_) rfl (by kernel_rfl) (by kernel_rfl) (by kernel_rfl) (fun _ _ _ h => h) (Or.inl ⟨by rfl, ?_⟩) (by assumption) ?_
  rotate_left
  · intro w hSw; (try dsimp only at hSw); go_simp; try (with_reducible rfl)
  try simp only [Act.put, List.setIfInBounds_toArray, List.set_cons_zero, List.set_cons_succ]
  refine wpAnyH_take (i := 16) (oi := { dst := some 21, op := Op.load 3 (Operand.tmp 20), type := 3, pos := "list.go:128", after := #[{ on := 15, ground := Ground.data }], guard := none }) (v := ?_) rfl (by kernel_rfl) (by kernel_rfl) (by kernel_rfl) (fun _ _ _ h => h) (Or.inl ⟨by rfl, ?_⟩) (by assumption) ?_
  rotate_left
  · intro w hSw; (try dsimp only at hSw); go_simp; try (with_reducible rfl)
  try simp only [Act.put, List.setIfInBounds_toArray, List.set_cons_zero, List.set_cons_succ]
  refine wpAnyH_take (i := 17) (oi := { dst := some 22, op := Op.fieldAddr 26 (Operand.tmp 3) 3, type := 0, pos := "list.go:128", after := #[], guard := none }) (v := ?_) rfl (by kernel_rfl) (by kernel_rfl) (by kernel_rfl) (fun _ _ _ h => h) (Or.inl ⟨by rfl, ?_⟩) (by assumption) ?_
  rotate_left
  · intro w hSw; (try dsimp only at hSw); go_simp; try (with_reducible rfl)
  try simp only [Act.put, List.setIfInBounds_toArray, List.set_cons_zero, List.set_cons_succ]
  refine wpAnyH_take (i := 18) (oi := { dst := some 23, op := Op.load 3 (Operand.tmp 22), type := 3, pos := "list.go:128", after := #[{ on := 17, ground := Ground.data }], guard := none }) (v := ?_) rfl (by kernel_rfl) (by kernel_rfl) (by kernel_rfl) (fun _ _ _ h => h) (Or.inl ⟨by rfl, ?_⟩) (by assumption) ?_
  rotate_left
  · intro w hSw; (try dsimp only at hSw); go_simp; try (with_reducible rfl)
  try simp only [Act.put, List.setIfInBounds_toArray, List.set_cons_zero, List.set_cons_succ]
  refine wpAnyH_ready (rs := [4]) (by kernel_rfl) (by simp) ?_
  refine AllReadyH.cons (o := { dst := some 9, op := Op.call { callee := Callee.value (Operand.func 81), args := #[Operand.tmp 6, Operand.tmp 8], argTypes := #[3, 3] }, type := 3, pos := "list.go:129", after := #[{ on := 1, ground := Ground.data }, { on := 3, ground := Ground.data }], guard := none }) rfl (fun K hK => ?_) AllReadyH.nil
  go_simp
  refine (ccompare_any _ _ c0 HH.out.1 _).mono ?_
  rintro r w' ⟨rfl, hb⟩
  try go_wp2_with fail
  refine hK.out _ _ (pk_keep (by assumption) hb) (fun hHeld2 => ?_)
  clear hK K
  try simp only [Act.put, List.setIfInBounds_toArray, List.set_cons_zero, List.set_cons_succ]
  refine wpAnyH_ready (rs := [9]) (by kernel_rfl) (by simp) ?_
  refine AllReadyH.cons (o := { dst := some 14, op := Op.call { callee := Callee.value (Operand.func 81), args := #[Operand.tmp 11, Operand.tmp 13], argTypes := #[3, 3] }, type := 3, pos := "list.go:130", after := #[{ on := 6, ground := Ground.data }, { on := 8, ground := Ground.data }, { on := 4, ground := Ground.chain }], guard := none }) rfl (fun K hK => ?_) AllReadyH.nil
  go_simp
  refine (ccompare_any _ _ c1 HH.out.2.1 _).mono ?_
  rintro r w' ⟨rfl, hb⟩
  try go_wp2_with fail
  refine hK.out _ _ (pk_keep (by assumption) hb) (fun hHeld3 => ?_)
  clear hK K
  try simp only [Act.put, List.setIfInBounds_toArray, List.set_cons_zero, List.set_cons_succ]
  refine wpAnyH_ready (rs := [14]) (by kernel_rfl) (by simp) ?_
  refine AllReadyH.cons (o := { dst := some 19, op := Op.call { callee := Callee.value (Operand.func 81), args := #[Operand.tmp 16, Operand.tmp 18], argTypes := #[3, 3] }, type := 3, pos := "list.go:131", after := #[{ on := 11, ground := Ground.data }, { on := 13, ground := Ground.data }, { on := 9, ground := Ground.chain }], guard := none }) rfl (fun K hK => ?_) AllReadyH.nil
  go_simp
  refine (ccompare_any _ _ c2 HH.out.2.2.1 _).mono ?_
  rintro r w' ⟨rfl, hb⟩
  try go_wp2_with fail
  refine hK.out _ _ (pk_keep (by assumption) hb) (fun hHeld4 => ?_)
  clear hK K
  try simp only [Act.put, List.setIfInBounds_toArray, List.set_cons_zero, List.set_cons_succ]
  refine wpAnyH_ready (rs := [19]) (by kernel_rfl) (by simp) ?_
  refine AllReadyH.cons (o := { dst := some 24, op := Op.call { callee := Callee.value (Operand.func 81), args := #[Operand.tmp 21, Operand.tmp 23], argTypes := #[3, 3] }, type := 3, pos := "list.go:132", after := #[{ on := 16, ground := Ground.data }, { on := 18, ground := Ground.data }, { on := 14, ground := Ground.chain }], guard := none }) rfl (fun K hK => ?_) AllReadyH.nil
  go_simp
  refine (ccompare_any _ _ c3 HH.out.2.2.2 _).mono ?_
  rintro r w' ⟨rfl, hb⟩
  try go_wp2_with fail
  refine hK.out _ _ (pk_keep (by assumption) hb) (fun hHeld5 => ?_)
  clear hK K
  try simp only [Act.put, List.setIfInBounds_toArray, List.set_cons_zero, List.set_cons_succ]
  refine wpAnyH_ready (rs := [20]) (by kernel_rfl) (by simp) ?_
  refine AllReadyH.cons (o := { dst := some 25, op := Op.buildSlice 22 4 #[(0, Operand.tmp 9), (1, Operand.tmp 14), (2, Operand.tmp 19), (3, Operand.tmp 24)], type := 22, pos := "list.go:128", after := #[{ on := 4, ground := Ground.data }, { on := 9, ground := Ground.data }, { on := 14, ground := Ground.data }, { on := 19, ground := Ground.data }], guard := none }) rfl (fun K hK => ?_) AllReadyH.nil
  go_simp
  have hb := Joins.below_alloc1 w' (.cells #[.int .i64 c0, .int .i64 c1, .int .i64 c2, .int .i64 c3] 3)
  try go_wp2_with fail
  refine hK.out _ _ (pk_keep (by assumption) hb) (fun hHeld6 => ?_)
  clear hK K
  try simp only [Act.put, List.setIfInBounds_toArray, List.set_cons_zero, List.set_cons_succ]
  refine wpAnyH_ready (rs := [21]) (by kernel_rfl) (by simp) ?_
  refine AllReadyH.cons (o := { dst := some 26, op := Op.call { callee := Callee.value (Operand.func 80), args := #[Operand.tmp 25], argTypes := #[22] }, type := 3, pos := "list.go:128", after := #[{ on := 20, ground := Ground.data }, { on := 19, ground := Ground.chain }], guard := none }) rfl (fun K hK => ?_) AllReadyH.nil
  go_simp
  refine (cor_any _ _ c0 c1 c2 c3 c HCC.out _ (by simp) (by simp) (by simp) (by simp)).mono ?_
  rintro r w' ⟨rfl, hb⟩
  try go_wp2_with fail
  refine hK.out _ _ (pk_keep (by assumption) hb) (fun hHeld7 => ?_)
  clear hK K
  try simp only [Act.put, List.setIfInBounds_toArray, List.set_cons_zero, List.set_cons_succ]
  refine wpAnyH_take (i := 22) (oi := { dst := some 4, op := Op.assign (Operand.tmp 26), type := 3, pos := "list.go:128", after := #[{ on := 21, ground := Ground.data }, { on := 21, ground := Ground.chain }, { on := 0, ground := Ground.phase }, { on := 1, ground := Ground.phase }, { on := 2, ground := Ground.phase }, { on := 3, ground := Ground.phase }, { on := 4, ground := Ground.phase }, { on := 5, ground := Ground.phase }, { on := 6, ground := Ground.phase }, { on := 7, ground := Ground.phase }, { on := 8, ground := Ground.phase }, { on := 9, ground := Ground.phase }, { on := 10, ground := Ground.phase }, { on := 11, ground := Ground.phase }, { on := 12, ground := Ground.phase }, { on := 13, ground := Ground.phase }, { on := 14, ground := Ground.phase }, { on := 15, ground := Ground.phase }, { on := 16, ground := Ground.phase }, { on := 17, ground := Ground.phase }, { on := 18, ground := Ground.phase }, { on := 19, ground := Ground.phase }, { on := 20, ground := Ground.phase }, { on := 21, ground := Ground.phase }], guard := none }) (v := ?_) rfl (by kernel_rfl) (by kernel_rfl) (by kernel_rfl) (fun _ _ _ h => h) (Or.inl ⟨by rfl, ?_⟩) (by assumption) ?_
  rotate_left
  · intro w hSw; (try dsimp only at hSw); go_simp; try (with_reducible rfl)
  try simp only [Act.put, List.setIfInBounds_toArray, List.set_cons_zero, List.set_cons_succ]
  refine wpAnyH_done (by kernel_rfl) ?_ _
  go_wp2_with fail
  go_ret
  exact ⟨rfl, (pk_below (by assumption))⟩
set_option maxHeartbeats 3200000 in
theorem less_any (s t : Sp) (r : Bool) (hr : r = true ↔ Less s t) (w : World) : Calls Try.prog 69 #[svp s, svp t] w fun e w' => e = .returned (.bool r) ∧ Below w.heap.size w w' := by
  have HB := hid (Joins.below_alloc2 w (.cells #[.int .i64 s.k, .int .i64 s.a, .int .i64 s.b, .int .i64 s.u] 26) (.cells #[.int .i64 t.k, .int .i64 t.a, .int .i64 t.b, .int .i64 t.u] 26))
  unfold Less at hr
  obtain ⟨k, a, b, u⟩ := s
  obtain ⟨k', a', b', u'⟩ := t
  simp only at hr HB ⊢
  by_cases h1 : k = k'
  · subst h1
    by_cases h2 : a = a'
    · subst h2
      by_cases h3 : b = b'
      · subst h3
        have HR : Hid (r = true ↔ u < u') := hid (by rw [hr]; omega)
        clear hr
        go_enter Try.func69, Try.ntmps69
        go_wp2_with fail
        go_ret
        exact ⟨ret_bool (by rw [Bool.eq_iff_iff, HR.out]; simp), HB.out⟩
      · have HR : Hid (r = true ↔ b < b') := hid (by rw [hr]; omega)
        have g1 : (b == b') = false := by rw [beq_eq_false_iff_ne]; exact h3
        have g2 : (b != b') = true := by simp [h3]
        clear hr h3
        go_enter Try.func69, Try.ntmps69
        go_wp2_with fail
        go_ret
        exact ⟨ret_bool (by rw [Bool.eq_iff_iff, HR.out]; simp), HB.out⟩
    · have HR : Hid (r = true ↔ a < a') := hid (by rw [hr]; omega)
      have g1 : (a == a') = false := by rw [beq_eq_false_iff_ne]; exact h2
      have g2 : (a != a') = true := by simp [h2]
      clear hr h2
      go_enter Try.func69, Try.ntmps69
      go_wp2_with fail
      go_ret
      exact ⟨ret_bool (by rw [Bool.eq_iff_iff, HR.out]; simp), HB.out⟩
  · have HR : Hid (r = true ↔ k < k') := hid (by rw [hr]; omega)
    have g1 : (k == k') = false := by rw [beq_eq_false_iff_ne]; exact h1
    have g2 : (k != k') = true := by simp [h1]
    clear hr h1
    go_enter Try.func69, Try.ntmps69
    go_wp2_with fail
    go_ret
    exact ⟨ret_bool (by rw [Bool.eq_iff_iff, HR.out]; simp), HB.out⟩
end Go.Proofs.Ytpohhcmkkjcelaa
