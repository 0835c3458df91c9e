/-
  What holds of the tiles of a drive.
-/
import Derived.Test.YtaepiegbpgkciaaDrive
import Derived.Test.YtaepiegbpgkciaaWalkParts
namespace Go.Proofs.Ytaepiegbpgkciaa

/-- Each two tiles that follow one another are joined, and both let one pass; all lie on the map. -/
def Linked (W H : Int) (n : Nat) (Z Y : Nat → Int) : List Int → Prop
  | [] => True
  | [a] => 0 ≤ a ∧ a < n
  | a :: b :: L => (0 ≤ a ∧ a < n) ∧ (∃ s : Nat, s ≤ 3 ∧ met W H Z a s = b ∧ lets (Y a.toNat) s = true ∧ lets (Y b.toNat) s = true) ∧ Linked W H n Z Y (b :: L)
theorem linked_rest {W H : Int} {n : Nat} {Z Y T : Nat → Int} (hs : Sized W H) (hn : (n : Int) = W * H) (r i : Nat) (t fr : Int) (ht : 0 ≤ t ∧ t < n) (hf : fr ≤ 3) : Linked W H n Z Y (t :: rest W H Z Y T r i t fr) := by
  induction r generalizing i t fr with
  | zero => exact ht
  | succ r ih =>
    by_cases h : outl W H Z Y t fr = []
    · rw [rest_end h]; exact ht
    · rw [rest_go h]
      obtain ⟨⟨s0, s3⟩, hm, _, l1, l2⟩ := step_at hs hn ht hf (pk_mem _ (T i) h)
      obtain ⟨s, hse⟩ := Int.eq_ofNat_of_zero_le s0
      refine ⟨ht, ⟨s, by omega, ?_, ?_, ?_⟩, ih (i + 1) _ _ hm (by omega)⟩
      · rw [hse]
      · rw [← hse]; exact l1
      · rw [← hse]; exact l2
theorem Linked.at {W H : Int} {n : Nat} {Z Y P : Nat → Int} (hs : Sized W H) (hn : (n : Int) = W * H) (hp : IsPart W H n Z P) {a : Int} {L : List Int} (h : Linked W H n Z Y (a :: L)) : ∀ i, i < L.length →
    (0 ≤ (a :: L).getD i 0 ∧ (a :: L).getD i 0 < n) ∧ (0 ≤ (a :: L).getD (i + 1) 0 ∧ (a :: L).getD (i + 1) 0 < n) ∧ P ((a :: L).getD (i + 1) 0).toNat = P a.toNat ∧
    ∃ s : Nat, s ≤ 3 ∧ met W H Z ((a :: L).getD i 0) s = (a :: L).getD (i + 1) 0 ∧ lets (Y ((a :: L).getD i 0).toNat) s = true ∧ lets (Y ((a :: L).getD (i + 1) 0).toNat) s = true := by
  induction L generalizing a with
  | nil => intro i hi; simp at hi
  | cons b L ih =>
    intro i hi
    obtain ⟨ha, ⟨s, h3, hm, l1, l2⟩, hl⟩ := h
    have hb : 0 ≤ b ∧ b < n := by
      cases L with
      | nil => exact hl
      | cons c L => exact hl.1
    have hsame : P b.toNat = P a.toNat := (hp.same hs hn (t := a.toNat) (u := b.toNat) (by omega) ⟨s, by omega, by omega, by
      rw [show ((a.toNat : Nat) : Int) = a by omega, hm]; omega⟩).symm
    cases i with
    | zero => exact ⟨ha, hb, hsame, s, h3, hm, l1, l2⟩
    | succ i =>
      obtain ⟨k1, k2, k3, k4⟩ := ih hl i (by simp at hi; omega)
      exact ⟨k1, k2, by rw [← hsame]; exact k3, k4⟩
end Go.Proofs.Ytaepiegbpgkciaa
