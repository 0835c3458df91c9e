/-
  Sort and Compact on a list of numbers of one's own.
-/
import Derived.Test.YtpohhcmkkjcelaaSHPure
import Derived.Sort.OwnSortedInts
import Derived.Lib.OwnBridge
namespace Go.Proofs.Ytpohhcmkkjcelaa
open Go.RowKit

theorem srt_len (X : List Int) : (X.mergeSort fun x y => decide (x ≤ y)).length = X.length := List.length_mergeSort X
theorem sort_own (B g c : Nat) (X : List Int) (w : World) (hrow : w.ownsRow B 3 1 (.slice (some ⟨g, 0, none⟩) X.length c) X.length (enI X)) (hl : X.length < 4611686018427387904) :
    Calls Try.prog 51 #[.slice (some ⟨g, 0, none⟩) X.length c] w fun e w' => e = .returned (.tuple #[]) ∧
      w'.ownsRow B 3 1 (.slice (some ⟨g, 0, none⟩) X.length c) X.length (enI (X.mergeSort fun x y => decide (x ≤ y))) ∧ Below B w w' := by
  obtain ⟨g', c', e, hBg, hgl, h1, h2, _, hH⟩ := Lib.holds_of_ownsRow (enc := Value.int .i64) hrow (by simp)
  cases e
  refine (Try.slices_Sort_int g 0 c X w hH hgl hl).mono ?_
  rintro e w' ⟨rfl, nn, os, rfl⟩
  refine ⟨rfl, ?_, (Below.refl B w).grown (grownBy_sortedI _) (by omega) (fun j hj => by cases hj; exact hBg)⟩
  rcases hrow.2 with ⟨e0, _⟩ | ⟨g', cap', cur, e0, hb, hg, hn, hm, hs, ht⟩
  · cases e0
  · cases e0
    exact ownsRow_sortedI (srt_len X) hb hg hn hm hs
theorem cmp_len (Y : List Int) : (Lib.compact Y).length ≤ Y.length := by
  unfold Lib.compact Lib.compactUpTo
  rw [List.length_map]
  exact Nat.le_trans (List.length_filter_le _ _) (by simp)
theorem compact_own (B g c : Nat) (Y : List Int) (w : World) (hrow : w.ownsRow B 3 1 (.slice (some ⟨g, 0, none⟩) Y.length c) Y.length (enI Y)) (hl : Y.length < 4611686018427387904) :
    Calls Try.prog 52 #[.slice (some ⟨g, 0, none⟩) Y.length c] w fun e w' => e = .returned (.slice (some ⟨g, 0, none⟩) (Lib.compact Y).length c) ∧
      w'.ownsRow B 3 1 (.slice (some ⟨g, 0, none⟩) (Lib.compact Y).length c) (Lib.compact Y).length (enI (Lib.compact Y)) ∧ Below B w w' := by
  obtain ⟨g', c', e, hBg, hgl, h1, h2, _, hH⟩ := Lib.holds_of_ownsRow (enc := Value.int .i64) hrow (by simp)
  cases e
  have hc := cmp_len Y
  refine (Try.slices_Compact_int g 0 c Y w hH (by omega) h1).mono ?_
  rintro e w' ⟨rfl, q, rfl⟩
  refine ⟨rfl, ?_, Lib.below_putRow (Below.refl B w) hBg⟩
  have h := Lib.ownsRow_putRow (enc := Value.int .i64) (q := q) (k := (Lib.compact Y).length) (ys := Lib.compact Y ++ List.replicate (Y.length - (Lib.compact Y).length) 0) hrow (by simp; omega) hc
  rw [List.take_left] at h
  exact h
end Go.Proofs.Ytpohhcmkkjcelaa
