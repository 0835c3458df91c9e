/-
  Signals in memory; the walks of spot, isKind and compare of the program.
-/
import Derived.Test.YtbfpcolkbfljoaaDoorRWalkLies
import Derived.Deep.DeepCutAuto
namespace Go.Proofs.YtbfpcolkbfljoaaDoor
open Go.RowKit

structure Sg where
  t : Int
  p : Int
  o : Int
  k : Int
abbrev sgv (s : Sg) : Value := .agg #[.int .i64 s.t, .int .i64 s.p, .int .i64 s.o, .int .i64 s.k]
/-- The slice at an address holds these signals, m of them. -/
def SigsAt (w : World) (lo : Option Addr) (m : Nat) (S : Nat → Sg) : Prop :=
  ∀ j : Nat, j < m → ∃ b off : Nat, lo = some ⟨b, off, none⟩ ∧ b < w.heap.size ∧ w.cell? ⟨b, off + j * 4, none⟩ = some (.int .i64 (S j).t) ∧ w.cell? ⟨b, off + j * 4 + 1, none⟩ = some (.int .i64 (S j).p) ∧ w.cell? ⟨b, off + j * 4 + 2, none⟩ = some (.int .i64 (S j).o) ∧ w.cell? ⟨b, off + j * 4 + 3, none⟩ = some (.int .i64 (S j).k)
theorem SigsAt.stays {w w' : World} {lo : Option Addr} {m : Nat} {S : Nat → Sg} (h : SigsAt w lo m S) (hb : Below w.heap.size w w') : SigsAt w' lo m S := fun j hj => by
  obtain ⟨b, off, e, hz, c0, c1, c2, c3⟩ := h j hj
  exact ⟨b, off, e, by have := hb.size; omega, (hb.cell (p := ⟨b, _, none⟩) hz).trans c0, (hb.cell (p := ⟨b, _, none⟩) hz).trans c1, (hb.cell (p := ⟨b, _, none⟩) hz).trans c2, (hb.cell (p := ⟨b, _, none⟩) hz).trans c3⟩
/-- A list that has a signal lies in one block. -/
theorem SigsAt.one {w : World} {lo : Option Addr} {m : Nat} {S : Nat → Sg} (h : SigsAt w lo m S) (hm : 0 < m) : ∃ b off : Nat, lo = some ⟨b, off, none⟩ ∧ b < w.heap.size ∧ ∀ j, j < m → w.cell? ⟨b, off + j * 4, none⟩ = some (.int .i64 (S j).t) ∧ w.cell? ⟨b, off + j * 4 + 1, none⟩ = some (.int .i64 (S j).p) ∧ w.cell? ⟨b, off + j * 4 + 2, none⟩ = some (.int .i64 (S j).o) ∧ w.cell? ⟨b, off + j * 4 + 3, none⟩ = some (.int .i64 (S j).k) := by
  obtain ⟨b, off, e, hz, _⟩ := h 0 hm
  refine ⟨b, off, e, hz, fun j hj => ?_⟩
  obtain ⟨b', off', e', hz', hc⟩ := h j hj
  rw [e] at e'
  cases e'
  exact hc

def cmp1 (x y : Int) : Int := if x < y then -1 else if y < x then 1 else 0
def orI (a b c : Int) : Int := if a ≠ 0 then a else if b ≠ 0 then b else c
/-- How a spot stands to another one. -/
def c3 (t p o t' p' o' : Int) : Int := orI (cmp1 t t') (cmp1 p p') (cmp1 o o')
def Lss (t p o t' p' o' : Int) : Prop := t < t' ∨ (t = t' ∧ (p < p' ∨ (p = p' ∧ o < o')))
theorem c3_neg (t p o t' p' o' : Int) : c3 t p o t' p' o' < 0 ↔ Lss t p o t' p' o' := by
  unfold c3 orI cmp1 Lss
  (repeat' split) <;> constructor <;> intro _ <;> omega
theorem c3_zero (t p o t' p' o' : Int) : c3 t p o t' p' o' = 0 ↔ t = t' ∧ p = p' ∧ o = o' := by
  unfold c3 orI cmp1
  (repeat' split) <;> constructor <;> intro _ <;> omega
theorem Lss.trans {t p o t' p' o' x y z : Int} (h : Lss t p o t' p' o') (k : Lss t' p' o' x y z) : Lss t p o x y z := by unfold Lss at *; omega
theorem Lss.irrefl {t p o : Int} (h : Lss t p o t p o) : False := by unfold Lss at h; omega
/-- A signal stands ahead of another one in a list. -/
def Less (s u : Sg) : Prop := Lss s.t s.p s.o u.t u.p u.o

set_option maxHeartbeats 800000 in
theorem isNaN_any (x : Int) (w : World) : Calls Tryd.prog 131 #[.int .i64 x] w fun e w' => e = .returned (.bool false) ∧ w = w' := by
  go_enter Tryd.func131, Tryd.ntmps131
  go_wp2
  all_goals go_ret
  all_goals exact ⟨ret_bool (by simp), rfl⟩
set_option maxHeartbeats 1600000 in
theorem ccompare_any (x y c : Int) (hc : c = cmp1 x y) (w : World) : Calls Tryd.prog 120 #[.int .i64 x, .int .i64 y] w fun e w' => e = .returned (.int .i64 c) ∧ Below w.heap.size w w' := by
  unfold cmp1 at hc
  by_cases h1 : x < y
  · rw [if_pos h1] at hc
    subst hc
    go_enter Tryd.func120, Tryd.ntmps120
    go_wp2_with (go_at_call 131; refine (isNaN_any _ _).mono ?_; rintro e w' ⟨rfl, rfl⟩)
    go_ret
    exact ⟨rfl, Below.refl _ _⟩
  · rw [if_neg h1] at hc
    by_cases h2 : y < x
    · rw [if_pos h2] at hc
      subst hc
      go_enter Tryd.func120, Tryd.ntmps120
      go_wp2_with (go_at_call 131; refine (isNaN_any _ _).mono ?_; rintro e w' ⟨rfl, rfl⟩)
      go_ret
      exact ⟨rfl, Below.refl _ _⟩
    · rw [if_neg h2] at hc
      subst hc
      go_enter Tryd.func120, Tryd.ntmps120
      go_wp2_with (go_at_call 131; refine (isNaN_any _ _).mono ?_; rintro e w' ⟨rfl, rfl⟩)
      go_ret
      exact ⟨rfl, Below.refl _ _⟩
def at3 (a b c : Int) (j : Nat) : Int := if j = 0 then a else if j = 1 then b else c

set_option maxHeartbeats 3200000 in
theorem cor_any (g cap : Nat) (a b c r : Int) (hr : r = orI a b c) (w : World) (c0 : w.cell? ⟨g, 0, none⟩ = some (.int .i64 a)) (c1 : w.cell? ⟨g, 1, none⟩ = some (.int .i64 b)) (c2 : w.cell? ⟨g, 2, none⟩ = some (.int .i64 c)) :
    Calls Tryd.prog 119 #[.slice (some ⟨g, 0, none⟩) 3 cap] w fun e w' => e = .returned (.int .i64 r) ∧ Below w.heap.size w w' := by
  have HR := hid hr
  clear hr
  go_enter Tryd.func119, Tryd.ntmps119
  go_wp2_with fail
  go_loop [8] (fun iv => ∃ k : Nat, k ≤ 3 ∧ iv = .int .i64 k ∧ Hid (∀ j, j < k → at3 a b c j = 0)) (fun iv => 3 - (intOf iv).toNat)
  case atStart => exact ⟨0, by omega, rfl, hid (fun i hi => by omega)⟩
  case round =>
    obtain ⟨k, hk, rfl, hk2⟩ := hrel
    by_cases hlt : k < 3
    · rcases (show k = 0 ∨ k = 1 ∨ k = 2 by omega) with rfl | rfl | rfl
      · by_cases h : a = 0
        · have g1 : (a == 0) = true := by rw [beq_iff_eq]; exact h
          have g2 : (a != 0) = false := by simp [h]
          have H := hid h
          clear h
          go_wp2_with fail
          refine ⟨⟨1, by omega, rfl, hid (fun i hi => ?_)⟩, by simp [intOf]⟩
          by_cases hh : i < 0
          · exact hk2.out i hh
          · obtain rfl : i = 0 := by omega
            exact H.out
        · have g1 : (a == 0) = false := by rw [beq_eq_false_iff_ne]; exact h
          have g2 : (a != 0) = true := by simp [h]
          have H := hid h
          clear h
          go_wp2_with fail
          go_ret
          refine ⟨ret_int ?_, Below.refl _ _⟩
          simp [at3] at *
          rw [HR.out]; unfold orI
          have := H.out
          (repeat' split) <;> omega
      · by_cases h : b = 0
        · have g1 : (b == 0) = true := by rw [beq_iff_eq]; exact h
          have g2 : (b != 0) = false := by simp [h]
          have H := hid h
          clear h
          go_wp2_with fail
          refine ⟨⟨2, by omega, rfl, hid (fun i hi => ?_)⟩, by simp [intOf]⟩
          by_cases hh : i < 1
          · exact hk2.out i hh
          · obtain rfl : i = 1 := by omega
            exact H.out
        · have g1 : (b == 0) = false := by rw [beq_eq_false_iff_ne]; exact h
          have g2 : (b != 0) = true := by simp [h]
          have H := hid h
          clear h
          go_wp2_with fail
          go_ret
          refine ⟨ret_int ?_, Below.refl _ _⟩
          have j0 := hk2.out 0 (by omega); simp [at3] at *
          rw [HR.out]; unfold orI
          have := H.out
          (repeat' split) <;> omega
      · by_cases h : c = 0
        · have g1 : (c == 0) = true := by rw [beq_iff_eq]; exact h
          have g2 : (c != 0) = false := by simp [h]
          have H := hid h
          clear h
          go_wp2_with fail
          refine ⟨⟨3, by omega, rfl, hid (fun i hi => ?_)⟩, by simp [intOf]⟩
          by_cases hh : i < 2
          · exact hk2.out i hh
          · obtain rfl : i = 2 := by omega
            exact H.out
        · have g1 : (c == 0) = false := by rw [beq_eq_false_iff_ne]; exact h
          have g2 : (c != 0) = true := by simp [h]
          have H := hid h
          clear h
          go_wp2_with fail
          go_ret
          refine ⟨ret_int ?_, Below.refl _ _⟩
          have j0 := hk2.out 0 (by omega); have j1 := hk2.out 1 (by omega); simp [at3] at *
          rw [HR.out]; unfold orI
          have := H.out
          (repeat' split) <;> omega
    · obtain rfl : k = 3 := by omega
      go_wp2_with fail
      go_ret
      refine ⟨ret_int ?_, Below.refl _ _⟩
      have j0 := hk2.out 0 (by omega); have j1 := hk2.out 1 (by omega); have j2 := hk2.out 2 (by omega)
      simp [at3] at j0 j1 j2
      rw [HR.out]; unfold orI
      (repeat' split) <;> omega

set_option maxHeartbeats 800000 in
theorem isKind_any (k : Int) (b : Bool) (hb : b = true ↔ 0 ≤ k ∧ k ≤ 5) (w : World) : Calls Tryd.prog 54 #[.int .i64 k] w fun e w' => e = .returned (.bool b) ∧ Below w.heap.size w w' := by
  have HB := hid hb
  clear hb
  go_enter Tryd.func54, Tryd.ntmps54
  go_wp2
  all_goals go_ret
  all_goals exact ⟨ret_bool (by rw [Bool.eq_iff_iff, HB.out]; simp; try omega), Below.refl _ _⟩
set_option maxHeartbeats 1600000 in
theorem spot_any (t p o k : Int) (w : World) : Calls Tryd.prog 57 #[.agg #[.int .i64 t, .int .i64 p, .int .i64 o, .int .i64 k]] w fun e w' => e = .returned (sv t p o) ∧ Below w.heap.size w w' := by
  go_enter Tryd.func57, Tryd.ntmps57
  go_wp2_with fail
  refine bodyPost_ret (v := sv t p o) (by simp [results, Tryd.results57, go_sem]) rfl ⟨rfl, Joins.below_alloc2 _ _ _⟩

theorem pb_start (t p o t' p' o' : Int) (w : World) : (((w.alloc (.cells #[.int .i64 t, .int .i64 p, .int .i64 o] 50)).alloc (.cells #[.int .i64 t', .int .i64 p', .int .i64 o'] 50)).cell? ⟨w.heap.size, 0, none⟩ = some (.int .i64 t) ∧ ((w.alloc (.cells #[.int .i64 t, .int .i64 p, .int .i64 o] 50)).alloc (.cells #[.int .i64 t', .int .i64 p', .int .i64 o'] 50)).cell? ⟨w.heap.size, 1, none⟩ = some (.int .i64 p) ∧ ((w.alloc (.cells #[.int .i64 t, .int .i64 p, .int .i64 o] 50)).alloc (.cells #[.int .i64 t', .int .i64 p', .int .i64 o'] 50)).cell? ⟨w.heap.size, 2, none⟩ = some (.int .i64 o) ∧ ((w.alloc (.cells #[.int .i64 t, .int .i64 p, .int .i64 o] 50)).alloc (.cells #[.int .i64 t', .int .i64 p', .int .i64 o'] 50)).cell? ⟨w.heap.size + 1, 0, none⟩ = some (.int .i64 t') ∧ ((w.alloc (.cells #[.int .i64 t, .int .i64 p, .int .i64 o] 50)).alloc (.cells #[.int .i64 t', .int .i64 p', .int .i64 o'] 50)).cell? ⟨w.heap.size + 1, 1, none⟩ = some (.int .i64 p') ∧ ((w.alloc (.cells #[.int .i64 t, .int .i64 p, .int .i64 o] 50)).alloc (.cells #[.int .i64 t', .int .i64 p', .int .i64 o'] 50)).cell? ⟨w.heap.size + 1, 2, none⟩ = some (.int .i64 o')) := by
  refine ⟨?_, ?_, ?_, ?_, ?_, ?_⟩ <;> simp
theorem pk_keep {t p o t' p' o' : Int} {w wr w' : World} (h : (wr.cell? ⟨w.heap.size, 0, none⟩ = some (.int .i64 t) ∧ wr.cell? ⟨w.heap.size, 1, none⟩ = some (.int .i64 p) ∧ wr.cell? ⟨w.heap.size, 2, none⟩ = some (.int .i64 o) ∧ wr.cell? ⟨w.heap.size + 1, 0, none⟩ = some (.int .i64 t') ∧ wr.cell? ⟨w.heap.size + 1, 1, none⟩ = some (.int .i64 p') ∧ wr.cell? ⟨w.heap.size + 1, 2, none⟩ = some (.int .i64 o')) ∧ w.heap.size + 1 < wr.heap.size ∧ Below w.heap.size w wr) (hb : Below wr.heap.size wr w') : (w'.cell? ⟨w.heap.size, 0, none⟩ = some (.int .i64 t) ∧ w'.cell? ⟨w.heap.size, 1, none⟩ = some (.int .i64 p) ∧ w'.cell? ⟨w.heap.size, 2, none⟩ = some (.int .i64 o) ∧ w'.cell? ⟨w.heap.size + 1, 0, none⟩ = some (.int .i64 t') ∧ w'.cell? ⟨w.heap.size + 1, 1, none⟩ = some (.int .i64 p') ∧ w'.cell? ⟨w.heap.size + 1, 2, none⟩ = some (.int .i64 o')) ∧ w.heap.size + 1 < w'.heap.size ∧ Below w.heap.size w w' :=
  have h0 : w.heap.size < wr.heap.size := by have := h.2.1; omega
  ⟨⟨(hb.cell (p := ⟨w.heap.size, 0, none⟩) h0).trans h.1.1, (hb.cell (p := ⟨w.heap.size, 1, none⟩) h0).trans h.1.2.1, (hb.cell (p := ⟨w.heap.size, 2, none⟩) h0).trans h.1.2.2.1, (hb.cell (p := ⟨w.heap.size + 1, 0, none⟩) h.2.1).trans h.1.2.2.2.1, (hb.cell (p := ⟨w.heap.size + 1, 1, none⟩) h.2.1).trans h.1.2.2.2.2.1, (hb.cell (p := ⟨w.heap.size + 1, 2, none⟩) h.2.1).trans h.1.2.2.2.2.2⟩, Nat.lt_of_lt_of_le h.2.1 hb.size, step h.2.2 hb⟩
theorem pk_below {w wr : World} {p q : Prop} (h : p ∧ q ∧ Below w.heap.size w wr) : Below w.heap.size w wr := h.2.2

set_option maxRecDepth 20000 in
set_option maxHeartbeats 6400000 in
theorem compare_any (t p o t' p' o' : Int) (c : Int) (hc : c = c3 t p o t' p' o') (w : World) : Calls Tryd.prog 95 #[sv t p o, sv t' p' o'] w fun e w' => e = .returned (.int .i64 c) ∧ Below w.heap.size w w' := by
  have HC := hid hc
  have hP := pb_start t p o t' p' o' w
  have hB := Joins.below_alloc2 w (.cells #[.int .i64 t, .int .i64 p, .int .i64 o] 50) (.cells #[.int .i64 t', .int .i64 p', .int .i64 o'] 50)
  have hz : w.heap.size + 1 < ((w.alloc (.cells #[.int .i64 t, .int .i64 p, .int .i64 o] 50)).alloc (.cells #[.int .i64 t', .int .i64 p', .int .i64 o'] 50)).heap.size := by simp
  have HP := hid (And.intro hP (And.intro hB hz))
  obtain ⟨c0, h0⟩ : ∃ c, c = cmp1 t t' := ⟨_, rfl⟩
  obtain ⟨c1, h1⟩ : ∃ c, c = cmp1 p p' := ⟨_, rfl⟩
  obtain ⟨c2, h2⟩ : ∃ c, c = cmp1 o o' := ⟨_, rfl⟩
  have HH := hid (And.intro h0 (And.intro h1 h2))
  have HCC : Hid (c = orI c0 c1 c2) := hid (by rw [hc, h0, h1, h2]; rfl)
  clear hc hP hB hz h0 h1 h2
  go_enter Tryd.func95, Tryd.ntmps95
  go_upto_region 1 with fail
  generalize World.alloc (World.alloc w _) _ = wm at HP ⊢
  refine wp_region_held_drew (S := (fun wr => (wr.cell? ⟨w.heap.size, 0, none⟩ = some (.int .i64 t) ∧ wr.cell? ⟨w.heap.size, 1, none⟩ = some (.int .i64 p) ∧ wr.cell? ⟨w.heap.size, 2, none⟩ = some (.int .i64 o) ∧ wr.cell? ⟨w.heap.size + 1, 0, none⟩ = some (.int .i64 t') ∧ wr.cell? ⟨w.heap.size + 1, 1, none⟩ = some (.int .i64 p') ∧ wr.cell? ⟨w.heap.size + 1, 2, none⟩ = some (.int .i64 o')) ∧ w.heap.size + 1 < wr.heap.size ∧ Below w.heap.size w wr)) (by kernel_rfl) (pk_keep (And.intro HP.out.1 (And.intro HP.out.2.2 HP.out.2.1)) ((Below.refl _ _).drew)) (fun hHeld => ?_)
  refine wpAnyH_take (i := 0) (oi := { dst := some 5, op := Op.fieldAddr 50 (Operand.tmp 2) 0, type := 0, pos := "block.go:114", after := #[], guard := none }) (v := ?_) rfl (by kernel_rfl) (by kernel_rfl) (by kernel_rfl) (fun _ _ _ h => h) (Or.inl ⟨by rfl, ?_⟩) (by assumption) ?_
  rotate_left
  · intro w hSw; (try dsimp only at hSw); go_simp; try (with_reducible rfl)
  try simp only [Act.put, List.setIfInBounds_toArray, List.set_cons_zero, List.set_cons_succ]
  refine wpAnyH_take (i := 1) (oi := { dst := some 6, op := Op.load 3 (Operand.tmp 5), type := 3, pos := "block.go:114", after := #[{ on := 0, ground := Ground.data }], guard := none }) (v := ?_) rfl (by kernel_rfl) (by kernel_rfl) (by kernel_rfl) (fun _ _ _ h => h) (Or.inl ⟨by rfl, ?_⟩) (by assumption) ?_
  rotate_left
  · intro w hSw; (try dsimp only at hSw); go_simp; try (with_reducible rfl)
  try simp only [Act.put, List.setIfInBounds_toArray, List.set_cons_zero, List.set_cons_succ]
  refine wpAnyH_take (i := 2) (oi := { dst := some 7, op := Op.fieldAddr 50 (Operand.tmp 3) 0, type := 0, pos := "block.go:114", after := #[], guard := none }) (v := ?_) rfl (by kernel_rfl) (by kernel_rfl) (by kernel_rfl) (fun _ _ _ h => h) (Or.inl ⟨by rfl, ?_⟩) (by assumption) ?_
  rotate_left
  · intro w hSw; (try dsimp only at hSw); go_simp; try (with_reducible rfl)
  try simp only [Act.put, List.setIfInBounds_toArray, List.set_cons_zero, List.set_cons_succ]
  refine wpAnyH_take (i := 3) (oi := { dst := some 8, op := Op.load 3 (Operand.tmp 7), type := 3, pos := "block.go:114", after := #[{ on := 2, ground := Ground.data }], guard := none }) (v := ?_) rfl (by kernel_rfl) (by kernel_rfl) (by kernel_rfl) (fun _ _ _ h => h) (Or.inl ⟨by rfl, ?_⟩) (by assumption) ?_
  rotate_left
  · intro w hSw; (try dsimp only at hSw); go_simp; try (with_reducible rfl)
  try simp only [Act.put, List.setIfInBounds_toArray, List.set_cons_zero, List.set_cons_succ]
  refine wpAnyH_take (i := 5) (oi := { dst := some 10, op := Op.fieldAddr 50 (Operand.tmp 2) 1, type := 0, pos := "block.go:114", after := #[], guard := none }) (v := ?_) rfl (by kernel_rfl) (by kernel_rfl) (by kernel_rfl) (fun _ _ _ h => h) (Or.inl ⟨by rfl, ?_⟩) (by assumption) ?_
  rotate_left
  · intro w hSw; (try dsimp only at hSw); go_simp; try (with_reducible rfl)
  try simp only [Act.put, List.setIfInBounds_toArray, List.set_cons_zero, List.set_cons_succ]
  refine wpAnyH_take (i := 6) (oi := { dst := some 11, op := Op.load 3 (Operand.tmp 10), type := 3, pos := "block.go:114", after := #[{ on := 5, ground := Ground.data }], guard := none }) (v := ?_) rfl (by kernel_rfl) (by kernel_rfl) (by kernel_rfl) (fun _ _ _ h => h) (Or.inl ⟨by rfl, ?_⟩) (by assumption) ?_
  rotate_left
  · intro w hSw; (try dsimp only at hSw); go_simp; try (with_reducible rfl)
  try simp only [Act.put, List.setIfInBounds_toArray, List.set_cons_zero, List.set_cons_succ]
  refine wpAnyH_take (i := 7) (oi := { dst := some 12, op := Op.fieldAddr 50 (Operand.tmp 3) 1, type := 0, pos := "block.go:114", after := #[], guard := none }) (v := ?_) rfl (by kernel_rfl) (by kernel_rfl) (by kernel_rfl) (fun _ _ _ h => h) (Or.inl ⟨by rfl, ?_⟩) (by assumption) ?_
  rotate_left
  · intro w hSw; (try dsimp only at hSw); go_simp; try (with_reducible rfl)
  try simp only [Act.put, List.setIfInBounds_toArray, List.set_cons_zero, List.set_cons_succ]
  refine wpAnyH_take (i := 8) (oi := { dst := some 13, op := Op.load 3 (Operand.tmp 12), type := 3, pos := "block.go:114", after := #[{ on := 7, ground := Ground.data }], guard := none }) (v := ?_) rfl (by kernel_rfl) (by kernel_rfl) (by kernel_rfl) (fun _ _ _ h => h) (Or.inl ⟨by rfl, ?_⟩) (by assumption) ?_
  rotate_left
  · intro w hSw; (try dsimp only at hSw); go_simp; try (with_reducible rfl)
  try simp only [Act.put, List.setIfInBounds_toArray, List.set_cons_zero, List.set_cons_succ]
  refine wpAnyH_take (i := 10) (oi := { dst := some 15, op := Op.fieldAddr 50 (Operand.tmp 2) 2, type := 0, pos := "block.go:114", after := #[], guard := none }) (v := ?_) rfl (by kernel_rfl) (by kernel_rfl) (by kernel_rfl) (fun _ _ _ h => h) (Or.inl ⟨by rfl, ?_⟩) (by assumption) ?_
  rotate_left
  · intro w hSw; (try dsimp only at hSw); go_simp; try (with_reducible rfl)
  try simp only [Act.put, List.setIfInBounds_toArray, List.set_cons_zero, List.set_cons_succ]
  refine wpAnyH_take (i := 11) (oi := { dst := some 16, op := Op.load 3 (Operand.tmp 15), type := 3, pos := "block.go:114", after := #[{ on := 10, ground := Ground.data }], guard := none }) (v := ?_) rfl (by kernel_rfl) (by kernel_rfl) (by kernel_rfl) (fun _ _ _ h => h) (Or.inl ⟨by rfl, ?_⟩) (by assumption) ?_
  rotate_left
  · intro w hSw; (try dsimp only at hSw); go_simp; try (with_reducible rfl)
  try simp only [Act.put, List.setIfInBounds_toArray, List.set_cons_zero, List.set_cons_succ]
  refine wpAnyH_take (i := 12) (oi := { dst := some 17, op := Op.fieldAddr 50 (Operand.tmp 3) 2, type := 0, pos := "block.go:114", after := #[], guard := none }) (v := ?_) rfl (by kernel_rfl) (by kernel_rfl) (by kernel_rfl) (fun _ _ _ h => h) (Or.inl ⟨by rfl, ?_⟩) (by assumption) ?_
  rotate_left
  · intro w hSw; (try dsimp only at hSw); go_simp; try (with_reducible rfl)
  try simp only [Act.put, List.setIfInBounds_toArray, List.set_cons_zero, List.set_cons_succ]
  refine wpAnyH_take (i := 13) (oi := { dst := some 18, op := Op.load 3 (Operand.tmp 17), type := 3, pos := "block.go:114", after := #[{ on := 12, ground := Ground.data }], guard := none }) (v := ?_) rfl (by kernel_rfl) (by kernel_rfl) (by kernel_rfl) (fun _ _ _ h => h) (Or.inl ⟨by rfl, ?_⟩) (by assumption) ?_
  rotate_left
  · intro w hSw; (try dsimp only at hSw); go_simp; try (with_reducible rfl)
  try simp only [Act.put, List.setIfInBounds_toArray, List.set_cons_zero, List.set_cons_succ]
  refine wpAnyH_ready (rs := [4]) (by kernel_rfl) (by simp) ?_
  refine AllReadyH.cons (o := { dst := some 9, op := Op.call { callee := Callee.value (Operand.func 120), args := #[Operand.tmp 6, Operand.tmp 8], argTypes := #[3, 3] }, type := 3, pos := "block.go:114", after := #[{ on := 1, ground := Ground.data }, { on := 3, ground := Ground.data }], guard := none }) rfl (fun K hK => ?_) AllReadyH.nil
  go_simp
  refine (ccompare_any _ _ c0 HH.out.1 _).mono ?_
  rintro r w' ⟨rfl, hb⟩
  try go_wp2_with fail
  refine hK.out _ _ (pk_keep (by assumption) hb) (fun hHeld2 => ?_)
  clear hK K
  try simp only [Act.put, List.setIfInBounds_toArray, List.set_cons_zero, List.set_cons_succ]
  refine wpAnyH_ready (rs := [9]) (by kernel_rfl) (by simp) ?_
  refine AllReadyH.cons (o := { dst := some 14, op := Op.call { callee := Callee.value (Operand.func 120), args := #[Operand.tmp 11, Operand.tmp 13], argTypes := #[3, 3] }, type := 3, pos := "block.go:114", after := #[{ on := 6, ground := Ground.data }, { on := 8, ground := Ground.data }, { on := 4, ground := Ground.chain }], guard := none }) rfl (fun K hK => ?_) AllReadyH.nil
  go_simp
  refine (ccompare_any _ _ c1 HH.out.2.1 _).mono ?_
  rintro r w' ⟨rfl, hb⟩
  try go_wp2_with fail
  refine hK.out _ _ (pk_keep (by assumption) hb) (fun hHeld3 => ?_)
  clear hK K
  try simp only [Act.put, List.setIfInBounds_toArray, List.set_cons_zero, List.set_cons_succ]
  refine wpAnyH_ready (rs := [14]) (by kernel_rfl) (by simp) ?_
  refine AllReadyH.cons (o := { dst := some 19, op := Op.call { callee := Callee.value (Operand.func 120), args := #[Operand.tmp 16, Operand.tmp 18], argTypes := #[3, 3] }, type := 3, pos := "block.go:114", after := #[{ on := 11, ground := Ground.data }, { on := 13, ground := Ground.data }, { on := 9, ground := Ground.chain }], guard := none }) rfl (fun K hK => ?_) AllReadyH.nil
  go_simp
  refine (ccompare_any _ _ c2 HH.out.2.2 _).mono ?_
  rintro r w' ⟨rfl, hb⟩
  try go_wp2_with fail
  refine hK.out _ _ (pk_keep (by assumption) hb) (fun hHeld4 => ?_)
  clear hK K
  try simp only [Act.put, List.setIfInBounds_toArray, List.set_cons_zero, List.set_cons_succ]
  refine wpAnyH_ready (rs := [15]) (by kernel_rfl) (by simp) ?_
  refine AllReadyH.cons (o := { dst := some 20, op := Op.buildSlice 22 3 #[(0, Operand.tmp 9), (1, Operand.tmp 14), (2, Operand.tmp 19)], type := 22, pos := "block.go:114", after := #[{ on := 4, ground := Ground.data }, { on := 9, ground := Ground.data }, { on := 14, ground := Ground.data }], guard := none }) rfl (fun K hK => ?_) AllReadyH.nil
  go_simp
  have hb := Joins.below_alloc1 w' (.cells #[.int .i64 c0, .int .i64 c1, .int .i64 c2] 3)
  try go_wp2_with fail
  refine hK.out _ _ (pk_keep (by assumption) hb) (fun hHeld5 => ?_)
  clear hK K
  try simp only [Act.put, List.setIfInBounds_toArray, List.set_cons_zero, List.set_cons_succ]
  refine wpAnyH_ready (rs := [16]) (by kernel_rfl) (by simp) ?_
  refine AllReadyH.cons (o := { dst := some 21, op := Op.call { callee := Callee.value (Operand.func 119), args := #[Operand.tmp 20], argTypes := #[22] }, type := 3, pos := "block.go:114", after := #[{ on := 15, ground := Ground.data }, { on := 14, ground := Ground.chain }], guard := none }) rfl (fun K hK => ?_) AllReadyH.nil
  go_simp
  refine (cor_any _ _ c0 c1 c2 c HCC.out _ (by simp) (by simp) (by simp)).mono ?_
  rintro r w' ⟨rfl, hb⟩
  try go_wp2_with fail
  refine hK.out _ _ (pk_keep (by assumption) hb) (fun hHeld6 => ?_)
  clear hK K
  try simp only [Act.put, List.setIfInBounds_toArray, List.set_cons_zero, List.set_cons_succ]
  refine wpAnyH_take (i := 17) (oi := { dst := some 4, op := Op.assign (Operand.tmp 21), type := 3, pos := "block.go:114", after := #[{ on := 16, ground := Ground.data }, { on := 16, ground := Ground.chain }, { on := 0, ground := Ground.phase }, { on := 1, ground := Ground.phase }, { on := 2, ground := Ground.phase }, { on := 3, ground := Ground.phase }, { on := 4, ground := Ground.phase }, { on := 5, ground := Ground.phase }, { on := 6, ground := Ground.phase }, { on := 7, ground := Ground.phase }, { on := 8, ground := Ground.phase }, { on := 9, ground := Ground.phase }, { on := 10, ground := Ground.phase }, { on := 11, ground := Ground.phase }, { on := 12, ground := Ground.phase }, { on := 13, ground := Ground.phase }, { on := 14, ground := Ground.phase }, { on := 15, ground := Ground.phase }, { on := 16, ground := Ground.phase }], guard := none }) (v := ?_) rfl (by kernel_rfl) (by kernel_rfl) (by kernel_rfl) (fun _ _ _ h => h) (Or.inl ⟨by rfl, ?_⟩) (by assumption) ?_
  rotate_left
  · intro w hSw; (try dsimp only at hSw); go_simp; try (with_reducible rfl)
  try simp only [Act.put, List.setIfInBounds_toArray, List.set_cons_zero, List.set_cons_succ]
  refine wpAnyH_done (by kernel_rfl) ?_ _
  go_wp2_with fail
  go_ret
  exact ⟨rfl, (pk_below (by assumption))⟩
end Go.Proofs.YtbfpcolkbfljoaaDoor
