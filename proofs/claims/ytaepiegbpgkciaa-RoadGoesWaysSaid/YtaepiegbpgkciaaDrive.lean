/-
  Drives in plain numbers: the side that a turn takes, the tiles of a drive.
-/
import Derived.Test.YtaepiegbpgkciaaPart
namespace Go.Proofs.Ytaepiegbpgkciaa

/-- The element of a list that a turn takes. -/
def pk (L : List Int) (x : Int) : Int := L.getD (max x 0 % (L.length : Int)).toNat 0
theorem pk_at (L : List Int) (x : Int) (h : L ≠ []) : 0 ≤ max x 0 % (L.length : Int) ∧ max x 0 % (L.length : Int) < L.length := by
  have hl : 0 < L.length := List.length_pos_iff.2 h
  exact ⟨Int.emod_nonneg _ (by omega), Int.emod_lt_of_pos _ (by omega)⟩
theorem pk_mem (L : List Int) (x : Int) (h : L ≠ []) : pk L x ∈ L := by
  obtain ⟨a, b⟩ := pk_at L x h
  unfold pk
  have hl : (max x 0 % (L.length : Int)).toNat < L.length := by omega
  rw [List.getD_eq_getElem?_getD, List.getElem?_eq_getElem hl]
  exact List.getElem_mem _
/-- The tiles of the rest of a drive, r turns from the i-th on. -/
def rest (W H : Int) (Z Y T : Nat → Int) : Nat → Nat → Int → Int → List Int
  | 0, _, _, _ => []
  | r + 1, i, t, fr => if outl W H Z Y t fr = [] then [] else
      met W H Z t (pk (outl W H Z Y t fr) (T i)) :: rest W H Z Y T r (i + 1) (met W H Z t (pk (outl W H Z Y t fr) (T i))) ((pk (outl W H Z Y t fr) (T i) + 2) % 4)
theorem rest_end {W H : Int} {Z Y T : Nat → Int} {r i : Nat} {t fr : Int} (h : outl W H Z Y t fr = []) : rest W H Z Y T r i t fr = [] := by
  cases r with
  | zero => rfl
  | succ r => show (if _ then _ else _) = _; rw [if_pos h]
theorem rest_go {W H : Int} {Z Y T : Nat → Int} {r i : Nat} {t fr : Int} (h : outl W H Z Y t fr ≠ []) :
    rest W H Z Y T (r + 1) i t fr = met W H Z t (pk (outl W H Z Y t fr) (T i)) :: rest W H Z Y T r (i + 1) (met W H Z t (pk (outl W H Z Y t fr) (T i))) ((pk (outl W H Z Y t fr) (T i) + 2) % 4) := by
  show (if _ then _ else _) = _; rw [if_neg h]
theorem rest_len (W H : Int) (Z Y T : Nat → Int) (r i : Nat) (t fr : Int) : (rest W H Z Y T r i t fr).length ≤ r := by
  induction r generalizing i t fr with
  | zero => exact Nat.le_refl _
  | succ r ih =>
    by_cases h : outl W H Z Y t fr = []
    · rw [rest_end h]; simp
    · rw [rest_go h]; have := ih (i + 1) (met W H Z t (pk (outl W H Z Y t fr) (T i))) ((pk (outl W H Z Y t fr) (T i) + 2) % 4); simp; omega
/-- What a step of a drive gives. -/
theorem step_at {W H : Int} {n : Nat} {Z Y : Nat → Int} {t fr s : Int} (hs : Sized W H) (hn : (n : Int) = W * H) (ht : 0 ≤ t ∧ t < n) (hf : fr ≤ 3) (h : s ∈ outl W H Z Y t fr) :
    (0 ≤ s ∧ s ≤ 3) ∧ (0 ≤ met W H Z t s ∧ met W H Z t s < n) ∧ met W H Z t s = bey W H t s ∧ lets (Y t.toNat) s = true ∧ lets (Y (met W H Z t s).toNat) s = true := by
  obtain ⟨h0, h3, hl⟩ := outl_mem hf h
  unfold leave at hl
  simp at hl
  obtain ⟨⟨a, b⟩, c⟩ := hl
  exact ⟨⟨h0, h3⟩, ⟨a, by rw [hn]; exact met_in hs ht.1 (by omega) a⟩, (met_yes a).1, b, c⟩
end Go.Proofs.Ytaepiegbpgkciaa
