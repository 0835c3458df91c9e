/-
  A river falls: the facts behind the law LandRiversFall.
-/
import Derived.Test.YtngamphkehppfaaLawRivers
import Derived.Test.YtngamphkehppfaaLawSlopes
namespace Go.Proofs.Ytngamphkehppfaa
open Go.RowKit

theorem low_mono (W H : Nat) (Z : Nat → Int) (u k : Nat) : (lowS W H Z u (k + 1)).2 ≤ (lowS W H Z u k).2 := by
  rw [lowS]
  split
  · rename_i h; show sumT W Z _ ≤ _; omega
  · exact Int.le_refl _
/-- One of the first k sides is lower. -/
def lwB (W H : Nat) (Z : Nat → Int) (u k : Nat) : Bool := decide ((lowS W H Z u k).2 < sumT W Z u)
theorem lwB_zero (W H : Nat) (Z : Nat → Int) (u : Nat) : lwB W H Z u 0 = false := by unfold lwB; simp [lowS]
theorem lwB_stays {W H : Nat} {Z : Nat → Int} {u k : Nat} (h : lwB W H Z u k = true) : lwB W H Z u (k + 1) = true := by
  unfold lwB at h ⊢
  have := low_mono W H Z u k
  simp only [decide_eq_true_eq] at h ⊢
  omega
theorem lwB_none {W H : Nat} {Z : Nat → Int} {u k : Nat} (hb : bsd W H u k = -1) : lwB W H Z u (k + 1) = lwB W H Z u k := by
  unfold lwB; rw [lowS_none hb]
theorem low_at {W H : Nat} {Z : Nat → Int} {u k : Nat} (hu : u < W * H) (h : lwB W H Z u k = false) : (lowS W H Z u k).2 = sumT W Z u := by
  unfold lwB at h
  rw [decide_eq_false_iff_not] at h
  obtain ⟨_, _, h3⟩ := lowS_inv (Z := Z) hu k
  omega
theorem lwB_yes {W H : Nat} {Z : Nat → Int} {u k v : Nat} (hu : u < W * H) (h : lwB W H Z u k = false) (hb : bsd W H u k = (v : Int)) (hl : sumT W Z v < sumT W Z u) : lwB W H Z u (k + 1) = true := by
  have := low_at hu h
  unfold lwB
  rw [lowS_yes hb (by omega)]
  simpa using hl
theorem lwB_no {W H : Nat} {Z : Nat → Int} {u k v : Nat} (hu : u < W * H) (h : lwB W H Z u k = false) (hb : bsd W H u k = (v : Int)) (hl : ¬ sumT W Z v < sumT W Z u) : lwB W H Z u (k + 1) = false := by
  have := low_at hu h
  rw [← h]
  unfold lwB
  rw [lowS_no hb (by omega)]
theorem lwB_end {W H : Nat} {Z : Nat → Int} {u : Nat} (hu : u < W * H) (h : stp W H Z u = u) : lwB W H Z u 4 = false := by
  unfold lwB
  rw [decide_eq_false_iff_not]
  obtain ⟨_, h2, _⟩ := lowS_inv (Z := Z) hu 4
  unfold stp at h
  rw [h] at h2
  omega
theorem side_of {W H : Nat} {Z : Nat → Int} {u : Nat} (k : Nat) : (lowS W H Z u k).1 = u ∨ ∃ j, j < k ∧ bsd W H u j = ((lowS W H Z u k).1 : Int) := by
  induction k with
  | zero => exact .inl rfl
  | succ k ih =>
    rw [lowS]
    split
    · rename_i h
      exact .inr ⟨k, by omega, by show _ = (((bsd W H u k).toNat : Nat) : Int); omega⟩
    · rcases ih with h | ⟨j, hj, h⟩
      · exact .inl h
      · exact .inr ⟨j, by omega, h⟩
theorem stp_side {W H : Nat} {Z : Nat → Int} {u : Nat} (h : stp W H Z u ≠ u) : ∃ j, j < 4 ∧ bsd W H u j = (stp W H Z u : Int) := by
  rcases side_of (W := W) (H := H) (Z := Z) (u := u) 4 with e | e
  · exact absurd e h
  · exact e

/-- Of the i-th tile t of a river whose last is the m-th: whether the next one was met among the first j sides. -/
def NxOk (W H : Nat) (Z : Nat → Int) (t i m j : Nat) (nb : Bool) : Prop := (i = m → nb = true) ∧ (nb = false → ∀ k, k < j → bsd W H t k ≠ (stp W H Z t : Int))
theorem NxOk.yes (W H : Nat) (Z : Nat → Int) (t i m j : Nat) : NxOk W H Z t i m j true := ⟨fun _ => rfl, fun h => by cases h⟩
theorem NxOk.step {W H : Nat} {Z : Nat → Int} {t i m j : Nat} {nb : Bool} (h : NxOk W H Z t i m j nb) (hb : bsd W H t j ≠ (stp W H Z t : Int)) : NxOk W H Z t i m (j + 1) nb :=
  ⟨h.1, fun hn k hk => by
    by_cases e : k = j
    · subst e; exact hb
    · exact h.2 hn k (by omega)⟩
theorem NxOk.lt {W H : Nat} {Z : Nat → Int} {t i m j : Nat} (h : NxOk W H Z t i m j false) (hi : i ≤ m) : i < m := by
  by_cases e : i = m
  · exact absurd (h.1 e) (by simp)
  · omega
theorem NxOk.start (W H : Nat) (Z : Nat → Int) (t i m : Nat) : NxOk W H Z t i m 0 ((i : Int) == (m : Int)) := ⟨fun h => by simp [h], fun _ k hk => absurd hk (Nat.not_lt_zero _)⟩
theorem NxOk.ends {W H : Nat} {Z : Nat → Int} {t i m : Nat} {nb : Bool} (h : NxOk W H Z t i m 4 nb) (hi : i ≤ m) (hst : i < m → stp W H Z t ≠ t) : nb = true := by
  cases nb with
  | true => rfl
  | false =>
    obtain ⟨j, hj, e⟩ := stp_side (hst (h.lt hi))
    exact absurd e (h.2 rfl j hj)

/-- The memory of the law: the land's box, and the river's list. -/
structure FS (W H : Nat) (ao : Option Addr) (n cap : Nat) (Z : Nat → Int) (g k : Nat) (X : Nat → Int) (w wr : World) : Prop where
  lb : LB W H ao n cap Z w wr
  xs : Ints wr (some ⟨g, 0, none⟩) k X
theorem FS.stays {W H : Nat} {ao : Option Addr} {n cap : Nat} {Z : Nat → Int} {g k : Nat} {X : Nat → Int} {w wr w' : World} (h : FS W H ao n cap Z g k X w wr) (hb : Below wr.heap.size wr w') : FS W H ao n cap Z g k X w w' :=
  ⟨h.lb.stays hb, h.xs.stays hb⟩
theorem FS.at {W H : Nat} {ao : Option Addr} {n cap : Nat} {Z : Nat → Int} {g k : Nat} {X : Nat → Int} {w wr : World} (h : FS W H ao n cap Z g k X w wr) {i : Nat} (hi : i < k) : wr.cell? ⟨g, i, none⟩ = some (.int .i64 (X i)) := by
  obtain ⟨b, off, e, _, hc⟩ := h.xs i hi
  cases e
  rwa [Nat.zero_add] at hc
theorem fs_keep {W H : Nat} {ao : Option Addr} {n cap : Nat} {Z : Nat → Int} {g k : Nat} {X : Nat → Int} {w a b : World} {B i : Nat} {x : Int} {P : Prop} (hB : B = w.heap.size) (hi : i < k ∧ X i = x)
    (h : FS W H ao n cap Z g k X w a ∧ P) (hb : Below a.heap.size a b) :
    FS W H ao n cap Z g k X w b ∧ b.cell? ⟨B, 0, none⟩ = some (.int .i64 W) ∧ b.cell? ⟨B, 1, none⟩ = some (.int .i64 H) ∧ b.cell? ⟨B, 2, none⟩ = some (.slice ao n cap) ∧ b.cell? ⟨g, i, none⟩ = some (.int .i64 x) := by
  subst hB
  have j := h.1.stays hb
  exact ⟨j, j.lb.c0, j.lb.c1, j.lb.c2, by rw [j.at hi.1, hi.2]⟩
theorem fs_ints {W H : Nat} {ao : Option Addr} {n cap : Nat} {Z : Nat → Int} {g k : Nat} {X : Nat → Int} {w a : World} {P : Prop} (h : FS W H ao n cap Z g k X w a ∧ P) : Ints a ao n Z := h.1.lb.ints
theorem fs_of {W H : Nat} {ao : Option Addr} {n cap : Nat} {Z : Nat → Int} {g k : Nat} {X : Nat → Int} {w a : World} {P : Prop} (h : FS W H ao n cap Z g k X w a ∧ P) : FS W H ao n cap Z g k X w a := h.1
end Go.Proofs.Ytngamphkehppfaa
