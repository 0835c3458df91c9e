/-
  Corners that are brought to a height, one behind the other.
-/
import Derived.Test.YtngamphkehppfaaLeast
namespace Go.Proofs.Ytngamphkehppfaa

/-- The way of a height z to h. -/
def dirS (z h : Int) : Int := if z < h then 1 else -1
theorem dirS_or (z h : Int) : dirS z h = 1 ∨ dirS z h = -1 := by unfold dirS; split; exact .inl rfl; exact .inr rfl
/-- The corners that change in the next step of a corner p, the heights behind it, whether it is refused. -/
def stL (W n : Nat) (h : Int) (p : Nat) (Y : Nat → Int) : List Nat := chs W (p % (W + 1) : Nat) (p / (W + 1) : Nat) (Y p + dirS (Y p) h) (dirS (Y p) h) Y n
def stX (W : Nat) (h : Int) (p : Nat) (Y : Nat → Int) : Nat → Int := newZ W (p % (W + 1) : Nat) (p / (W + 1) : Nat) (Y p + dirS (Y p) h) (dirS (Y p) h) Y
def stB (W H n m : Nat) (F : Nat → Int) (h : Int) (p : Nat) (Y : Nat → Int) : Bool := (stL W n h p Y).any (heldB W H F m)
/-- Behind j steps of a corner: how many corners changed, and the heights; nothing if one was refused. -/
def brg (W H n m : Nat) (F : Nat → Int) (h : Int) (p : Nat) (Z : Nat → Int) : Nat → Option (Nat × (Nat → Int))
  | 0 => some (0, Z)
  | j + 1 => (brg W H n m F h p Z j).bind fun s => if stB W H n m F h p s.2 then none else some (s.1 + (stL W n h p s.2).length, stX W h p s.2)
theorem brg_none {W H n m : Nat} {F : Nat → Int} {h : Int} {p : Nat} {Z : Nat → Int} {j : Nat} (e : brg W H n m F h p Z j = none) (d : Nat) : brg W H n m F h p Z (j + d) = none := by
  induction d with
  | zero => exact e
  | succ d ih => rw [← Nat.add_assoc, brg, ih]; rfl
theorem brg_no {W H n m : Nat} {F : Nat → Int} {h : Int} {p : Nat} {Z : Nat → Int} {j c : Nat} {Y : Nat → Int} (e : brg W H n m F h p Z j = some (c, Y)) (hb : stB W H n m F h p Y = true) : brg W H n m F h p Z (j + 1) = none := by
  rw [brg, e]; simp [hb]
theorem brg_yes {W H n m : Nat} {F : Nat → Int} {h : Int} {p : Nat} {Z : Nat → Int} {j c : Nat} {Y : Nat → Int} (e : brg W H n m F h p Z j = some (c, Y)) (hb : stB W H n m F h p Y = false) :
    brg W H n m F h p Z (j + 1) = some (c + (stL W n h p Y).length, stX W h p Y) := by
  rw [brg, e]; simp [hb]
theorem at_back (W p : Nat) : p / (W + 1) * (W + 1) + p % (W + 1) = p := (at_split W p).symm
/-- A step that is done is a shift. -/
theorem step_ok {W H n m : Nat} {F : Nat → Int} {h : Int} {p : Nat} {Y : Nat → Int} (hg : Good W H n Y) (hp : p < n) (hh : 0 ≤ h ∧ h ≤ 15) (hne : Y p ≠ h) (hb : stB W H n m F h p Y = false) :
    SOk W H n Y (p % (W + 1)) (p / (W + 1)) (dirS (Y p) h) m F (Y p + dirS (Y p) h) (stL W n h p Y) (stX W h p Y) := by
  have h1 := Nat.mod_lt p (show 0 < W + 1 by omega)
  have h2 := hg.row_lt hp
  have h3 := hg.high p hp
  refine ⟨hg, by omega, by omega, dirS_or _ _, by rw [at_back], ?_, rfl, rfl, fun i hi => ?_⟩
  · unfold dirS; split <;> omega
  · unfold stB at hb
    rw [List.any_eq_false] at hb
    simpa using hb i hi
theorem step_in {n : Nat} {W H : Nat} {Y : Nat → Int} {h : Int} {p : Nat} (hg : Good W H n Y) (hp : p < n) (hh : 0 ≤ h ∧ h ≤ 15) (hne : Y p ≠ h) : 0 ≤ Y p + dirS (Y p) h ∧ Y p + dirS (Y p) h ≤ 15 := by
  have h3 := hg.high p hp
  unfold dirS; split <;> omega
structure Brg (W H n : Nat) (h : Int) (p : Nat) (Z : Nat → Int) (j c : Nat) (Y : Nat → Int) : Prop where
  good : Good W H n Y
  left : (h - Y p).natAbs + j = (h - Z p).natAbs
  cost : c ≤ j * n
  keep : ∀ q, q < n → Z q = h → Y q = h
theorem brg_inv {W H n m : Nat} {F : Nat → Int} {h : Int} {p : Nat} {Z : Nat → Int} (hg : Good W H n Z) (hp : p < n) (hh : 0 ≤ h ∧ h ≤ 15) :
    ∀ j c Y, j ≤ (h - Z p).natAbs → brg W H n m F h p Z j = some (c, Y) → Brg W H n h p Z j c Y := by
  intro j
  induction j with
  | zero =>
    intro c Y _ e
    simp only [brg, Option.some.injEq, Prod.mk.injEq] at e
    obtain ⟨rfl, rfl⟩ := e
    exact ⟨hg, by omega, by omega, fun q _ h => h⟩
  | succ j ih =>
    intro c Y hj e
    cases e0 : brg W H n m F h p Z j with
    | none => rw [brg, e0] at e; cases e
    | some s =>
      obtain ⟨c0, Y0⟩ := s
      have h0 := ih c0 Y0 (by omega) e0
      have hne : Y0 p ≠ h := by have := h0.left; omega
      cases hb : stB W H n m F h p Y0 with
      | true => rw [brg_no e0 hb] at e; cases e
      | false =>
        rw [brg_yes e0 hb] at e
        simp only [Option.some.injEq, Prod.mk.injEq] at e
        obtain ⟨rfl, rfl⟩ := e
        have hs := step_ok h0.good hp hh hne hb
        have hat := hs.at
        rw [at_back] at hat
        refine ⟨hs.keeps, ?_, ?_, fun q hq hz => ?_⟩
        · rw [hat]
          have := h0.left
          unfold dirS at *
          split <;> omega
        · have h1 : (stL W n h p Y0).length ≤ n := chs_le _ _ _ _ _ _ _
          have := h0.cost
          rw [Nat.succ_mul]; omega
        · have hy := h0.keep q hq hz
          rcases hs.one hq with ⟨hc, _⟩ | ⟨_, e⟩
          · exfalso
            have hf := far_nn W ((p % (W + 1) : Nat) : Int) ((p / (W + 1) : Nat) : Int) q
            have hd : dirS (Y0 p) h = if Y0 p < h then 1 else -1 := rfl
            by_cases hlt : Y0 p < h
            · rw [if_pos hlt] at hd
              rw [hd] at hc
              have := chg_up.1 hc
              omega
            · rw [if_neg hlt] at hd
              rw [hd] at hc
              have := chg_dn.1 hc
              omega
          · rw [e]; exact hy

/-- The outcome of bringing a corner to a height. -/
def brt (W H n m : Nat) (F : Nat → Int) (h : Int) (p : Nat) (Z : Nat → Int) : Option (Nat × (Nat → Int)) := brg W H n m F h p Z (h - Z p).natAbs
/-- Behind k corners of a list. -/
def lev (W H n m : Nat) (F : Nat → Int) (h : Int) (P : Nat → Nat) (Z : Nat → Int) : Nat → Option (Nat × (Nat → Int))
  | 0 => some (0, Z)
  | k + 1 => (lev W H n m F h P Z k).bind fun s => (brt W H n m F h (P k) s.2).map fun r => (s.1 + r.1, r.2)
theorem lev_none {W H n m : Nat} {F : Nat → Int} {h : Int} {P : Nat → Nat} {Z : Nat → Int} {k : Nat} (e : lev W H n m F h P Z k = none) (d : Nat) : lev W H n m F h P Z (k + d) = none := by
  induction d with
  | zero => exact e
  | succ d ih => rw [← Nat.add_assoc, lev, ih]; rfl
theorem lev_no {W H n m : Nat} {F : Nat → Int} {h : Int} {P : Nat → Nat} {Z : Nat → Int} {k C : Nat} {Y : Nat → Int} (e : lev W H n m F h P Z k = some (C, Y)) (hb : brt W H n m F h (P k) Y = none) : lev W H n m F h P Z (k + 1) = none := by
  rw [lev, e]; simp [hb]
theorem lev_yes {W H n m : Nat} {F : Nat → Int} {h : Int} {P : Nat → Nat} {Z : Nat → Int} {k C c : Nat} {Y X : Nat → Int} (e : lev W H n m F h P Z k = some (C, Y)) (hb : brt W H n m F h (P k) Y = some (c, X)) :
    lev W H n m F h P Z (k + 1) = some (C + c, X) := by
  rw [lev, e]; simp [hb]
structure Lev (W H n : Nat) (h : Int) (P : Nat → Nat) (Z : Nat → Int) (k C : Nat) (Y : Nat → Int) : Prop where
  good : Good W H n Y
  cost : C ≤ k * (15 * n)
  flat : ∀ i, i < k → Y (P i) = h
theorem lev_inv {W H n m : Nat} {F : Nat → Int} {h : Int} {P : Nat → Nat} {Z : Nat → Int} (hg : Good W H n Z) (hh : 0 ≤ h ∧ h ≤ 15) :
    ∀ k C Y, (∀ i, i < k → P i < n) → lev W H n m F h P Z k = some (C, Y) → Lev W H n h P Z k C Y := by
  intro k
  induction k with
  | zero =>
    intro C Y _ e
    simp only [lev, Option.some.injEq, Prod.mk.injEq] at e
    obtain ⟨rfl, rfl⟩ := e
    exact ⟨hg, by omega, fun i hi => absurd hi (Nat.not_lt_zero _)⟩
  | succ k ih =>
    intro C Y hP e
    cases e0 : lev W H n m F h P Z k with
    | none => rw [lev, e0] at e; cases e
    | some s =>
      obtain ⟨C0, Y0⟩ := s
      have h0 := ih C0 Y0 (fun i hi => hP i (by omega)) e0
      cases hb : brt W H n m F h (P k) Y0 with
      | none => rw [lev_no e0 hb] at e; cases e
      | some r =>
        obtain ⟨c, X⟩ := r
        rw [lev_yes e0 hb] at e
        simp only [Option.some.injEq, Prod.mk.injEq] at e
        obtain ⟨rfl, rfl⟩ := e
        have hpk := hP k (by omega)
        have hi := brg_inv h0.good hpk hh _ _ _ (Nat.le_refl _) hb
        have hh1 := h0.good.high _ hpk
        refine ⟨hi.good, ?_, fun i hi2 => ?_⟩
        · have h1 := hi.cost
          have h2 := h0.cost
          have h3 : (h - Y0 (P k)).natAbs * n ≤ 15 * n := Nat.mul_le_mul_right _ (by omega)
          rw [Nat.succ_mul]; omega
        · by_cases e1 : i = k
          · subst e1
            have := hi.left
            omega
          · exact hi.keep _ (hP i hi2) (h0.flat i (by omega))
end Go.Proofs.Ytngamphkehppfaa
