/-
  The document's example: two tiles in a row, without and with a signal between them.
-/
import Derived.Test.YtbfpcolkbfljoaaDoorBBlo
namespace Go.Proofs.YtbfpcolkbfljoaaDoor
open Go.RowKit Go.Maps

def exZ : Nat → Int := fun j => if j ≤ 1 then 1 else 0
/-- The example's rails, without signals, with one. -/
abbrev ex0 (g k : Nat) : Rl := ⟨4, 4, 16, 16, 16, 16, 0, 0, some ⟨g, 0, none⟩, some ⟨k, 0, none⟩, none, exZ, fun _ => false, fun _ => ⟨0, 0, 0, 0⟩⟩
abbrev ex1 (g k a : Nat) : Rl := ⟨4, 4, 16, 16, 16, 16, 1, 1, some ⟨g, 0, none⟩, some ⟨k, 0, none⟩, some ⟨a, 0, none⟩, exZ, fun _ => false, fun _ => ⟨0, 0, 0, 0⟩⟩
theorem ex_right : Right 4 4 16 16 exZ (fun _ => false) := by
  refine ⟨⟨⟨by omega, by omega⟩, by omega, by omega⟩, by decide, by decide, fun i _ => ⟨?_, ?_, fun _ => rfl⟩⟩
  · unfold exZ; split <;> omega
  · unfold exZ; split <;> omega
theorem ex_spot : IsSpot 16 exZ 0 0 0 := by
  refine ⟨by decide, by decide⟩
theorem ex0_err (g k : Nat) : DErr (ex0 g k) 0 := .inr ⟨ex_right, .inr (.inr ⟨rfl, ⟨show (0 : Nat) ≤ 300 by omega, fun i hi => by simp at hi, fun i hi => by simp at hi⟩, fun i hi => by simp at hi⟩)⟩
theorem ex1_err (g k a : Nat) : DErr (ex1 g k a) 0 := .inr ⟨ex_right, .inr (.inr ⟨rfl, ⟨show (1 : Nat) ≤ 300 by omega, fun i hi => by simp at hi, fun i _ => ⟨show (0 : Int) ≤ 0 by omega, show (0 : Int) ≤ 5 by omega⟩⟩, fun i _ => ex_spot⟩)⟩
theorem ex_all : pcs 16 exZ 16 = [0, 8] := by decide +kernel
theorem ex0_all (g k : Nat) : allp (ex0 g k) = [0, 8] := ex_all
theorem ex1_all (g k a : Nat) : allp (ex1 g k a) = [0, 8] := ex_all
theorem ex0_rts (g k : Nat) : (rts (blk (ex0 g k) (cutB (ex0 g k))) (allp (ex0 g k))).length = 1 := by
  rw [ex0_all]
  have h0 : blk (ex0 g k) (cutB (ex0 g k)) 0 = 0 := by have := (blk_is (ex0 g k) (cutB (ex0 g k)) 0).le; omega
  have ha : Adj (ex0 g k) (cutB (ex0 g k)) 8 0 := ⟨by show Lie 16 exZ _ _ = true; decide, .inr ⟨2, by decide, by decide, by decide, rfl, by show bey 4 4 1 2 = 0; decide, by decide, rfl⟩⟩
  have h8 : blk (ex0 g k) (cutB (ex0 g k)) 8 = 0 := by have := (blk_is (ex0 g k) (cutB (ex0 g k)) 8).2 0 (.tail (.refl _) ha); omega
  simp [rts, h0, h8]
theorem ex1_rts (g k a : Nat) : (rts (blk (ex1 g k a) (cutB (ex1 g k a))) (allp (ex1 g k a))).length = 2 := by
  have hall := ex1_all g k a
  have h0 : blk (ex1 g k a) (cutB (ex1 g k a)) 0 = 0 := by have := (blk_is (ex1 g k a) (cutB (ex1 g k a)) 0).le; omega
  have h8 : blk (ex1 g k a) (cutB (ex1 g k a)) 8 = 8 := by
    have hb := (blk_is (ex1 g k a) (cutB (ex1 g k a)) 8).1
    refine hb.closed (S := fun z => z = 8) rfl fun t u ht hj => ?_
    subst ht
    obtain ⟨hp, h⟩ := hj
    have hm : u ∈ allp (ex1 g k a) := mem_allp.2 hp
    rw [hall] at hm
    simp at hm
    rcases hm with rfl | rfl
    · exfalso
      rcases h with ⟨h, _⟩ | ⟨s, s0, s3, _, _, hb, _, hc⟩
      · exact absurd h (by decide)
      · rcases (show s = 0 ∨ s = 1 ∨ s = 2 ∨ s = 3 by omega) with rfl | rfl | rfl | rfl
        · exact absurd hb (by show ¬ bey 4 4 1 0 = 0; decide)
        · exact absurd hb (by show ¬ bey 4 4 1 1 = 0; decide)
        · have : cutB (ex1 g k a) ((0 / 8 : Nat) : Int) ((0 % 8 : Nat) : Int) ((2 + 2) % 4) = true := (cutB_iff _ _ _ _).2 ⟨0, show (0 : Nat) < 1 by omega, rfl, rfl, rfl⟩
          rw [this] at hc
          cases hc
        · exact absurd hb (by show ¬ bey 4 4 1 3 = 0; decide)
    · rfl
  rw [hall]
  simp [rts, h0, h8]
end Go.Proofs.YtbfpcolkbfljoaaDoor
