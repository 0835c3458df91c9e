/-
  A shift is the least right change: the facts behind the law LandShiftsLeast.
-/
import Derived.Test.YtngamphkehppfaaSettle
import Derived.Test.YtngamphkehppfaaKeeps
namespace Go.Proofs.Ytngamphkehppfaa

/-- Any right land that is turned the same way everywhere and at the corner at least as far is at least as far everywhere. -/
theorem SOk.least {W H n : Nat} {Z : Nat → Int} {x y : Nat} {s : Int} {m : Nat} {F : Nat → Int} {z : Int} {L : List Nat} {X : Nat → Int} (h : SOk W H n Z x y s m F z L X)
    {T : Nat → Int} (hT : Good W H n T) (h0 : 0 ≤ (T (y * (W + 1) + x) - z) * s) (h1 : ∀ i, i < n → 0 ≤ (T i - Z i) * s) : ∀ i, i < n → 0 ≤ (T i - X i) * s := by
  intro i hi
  have hl := dist_le.1 (lip hT h.hx h.hy hi)
  have a := h1 i hi
  rw [h.hX]
  rcases h.hs with rfl | rfl
  · rw [newZ_up]
    split <;> omega
  · rw [newZ_dn]
    split <;> omega
theorem far_self (W x y : Nat) (hx : x ≤ W) : far W x y (y * (W + 1) + x) = 0 := by
  rw [far_at (by omega)]
  unfold dist; simp
/-- The corner itself. -/
theorem SOk.at {W H n : Nat} {Z : Nat → Int} {x y : Nat} {s : Int} {m : Nat} {F : Nat → Int} {z : Int} {L : List Nat} {X : Nat → Int} (h : SOk W H n Z x y s m F z L X) : X (y * (W + 1) + x) = z := by
  have e := far_self W x y h.hx
  have ez := h.ez
  rw [h.hX]
  rcases h.hs with rfl | rfl
  · rw [newZ_up, e]; split <;> omega
  · rw [newZ_dn, e]; split <;> omega
/-- A corner is changed, and by one; or it stays. -/
theorem SOk.one {W H n : Nat} {Z : Nat → Int} {x y : Nat} {s : Int} {m : Nat} {F : Nat → Int} {z : Int} {L : List Nat} {X : Nat → Int} (h : SOk W H n Z x y s m F z L X) {i : Nat} (hi : i < n) :
    (chgB W x y z s Z i = true ∧ X i = Z i + s) ∨ (chgB W x y z s Z i = false ∧ X i = Z i) := by
  have hl := dist_le.1 (lip h.good h.hx h.hy hi)
  have ez := h.ez
  rw [h.hX]
  cases hc : chgB W x y z s Z i
  · right
    refine ⟨rfl, ?_⟩
    unfold newZ; rw [hc]; rfl
  · left
    refine ⟨rfl, ?_⟩
    rcases h.hs with rfl | rfl
    · rw [newZ_up]
      have := chg_up.1 hc
      rw [if_pos this]; omega
    · rw [newZ_dn]
      have := chg_dn.1 hc
      rw [if_pos this]; omega
/-- The changed corner p stands in the list behind those ahead of it. -/
theorem chs_nth {W : Nat} {x y z s : Int} {Z : Nat → Int} {p : Nat} (hc : chgB W x y z s Z p = true) : ∀ n, p < n → (chs W x y z s Z n)[(chs W x y z s Z p).length]? = some p := by
  intro n hn
  induction n with
  | zero => omega
  | succ k ih =>
    rcases Nat.lt_or_eq_of_le (Nat.le_of_lt_succ hn) with h | rfl
    · have hk := ih h
      have hlt := (List.getElem?_eq_some_iff.1 hk).1
      cases hck : chgB W x y z s Z k
      · rw [chs_no hck]; exact hk
      · rw [chs_yes hck, List.getElem?_append_left hlt]; exact hk
    · rw [chs_yes hc]
      simp
theorem chs_lt {W : Nat} {x y z s : Int} {Z : Nat → Int} {p n : Nat} (hc : chgB W x y z s Z p = true) (hn : p < n) : (chs W x y z s Z p).length < (chs W x y z s Z n).length :=
  (List.getElem?_eq_some_iff.1 (chs_nth hc n hn)).1
end Go.Proofs.Ytngamphkehppfaa
