/-
  Sorted and compacted lists of numbers (pure); lists of numbers of one's own told alike.
-/
import Derived.Test.YtpohhcmkkjcelaaSRHeld
import Derived.Test.YtpohhcmkkjcelaaSShelf
namespace Go.Proofs.Ytpohhcmkkjcelaa
open Go.RowKit

theorem asc_same : ∀ {L M : List Int}, L.Pairwise (· < ·) → M.Pairwise (· < ·) → (∀ x, x ∈ L ↔ x ∈ M) → L = M
  | [], [], _, _, _ => rfl
  | [], y :: M, _, _, h => by have := (h y).2 (by simp); simp at this
  | x :: L, [], _, _, h => by have := (h x).1 (by simp); simp at this
  | x :: L, y :: M, hL, hM, h => by
    rw [List.pairwise_cons] at hL hM
    have exy : x = y := by
      have h1 := (h x).1 (by simp)
      have h2 := (h y).2 (by simp)
      rcases List.mem_cons.1 h1 with e | h1
      · exact e
      · rcases List.mem_cons.1 h2 with e | h2
        · exact e.symm
        · have a := hL.1 y h2
          have b := hM.1 x h1
          omega
    subst exy
    rw [asc_same hL.2 hM.2 fun z => ?_]
    have hz := h z
    rw [List.mem_cons, List.mem_cons] at hz
    constructor
    · intro k
      rcases hz.1 (.inr k) with e | e
      · subst e; have := hL.1 z k; omega
      · exact e
    · intro k
      rcases hz.2 (.inr k) with e | e
      · subst e; have := hM.1 z k; omega
      · exact e
theorem compact_upTo (d : Array Int) (hs : ∀ j, j + 1 < d.size → d[j]! ≤ d[j + 1]!) : ∀ m, m ≤ d.size → (Lib.compactUpTo d m).Pairwise (· < ·) ∧ (∀ x, x ∈ Lib.compactUpTo d m ↔ ∃ j, j < m ∧ d[j]! = x) ∧ (∀ x, x ∈ Lib.compactUpTo d m → x ≤ d[m - 1]!) := by
  intro m
  induction m with
  | zero => intro _; simp [Lib.compactUpTo]
  | succ m ih =>
    intro hm
    obtain ⟨h1, h2, h3⟩ := ih (by omega)
    rw [Lib.compactUpTo_succ]
    by_cases hk : Lib.keeps d m = true
    · rw [if_pos hk]
      have hk' : m = 0 ∨ d[m]! ≠ d[m - 1]! := by simpa [Lib.keeps] using hk
      refine ⟨List.pairwise_append.2 ⟨h1, by simp, fun x hx y hy => ?_⟩, fun x => ?_, fun x hx => ?_⟩
      · simp at hy
        subst hy
        have hx3 := h3 x hx
        rcases hk' with e | hk'
        · subst e
          obtain ⟨j, hj, _⟩ := (h2 x).1 hx
          omega
        · have := hs (m - 1)
          by_cases h0 : m = 0
          · subst h0
            obtain ⟨j, hj, _⟩ := (h2 x).1 hx
            omega
          · have := this (by omega)
            rw [show m - 1 + 1 = m by omega] at this
            omega
      · rw [List.mem_append, h2]
        constructor
        · rintro (⟨j, hj, e⟩ | h)
          · exact ⟨j, by omega, e⟩
          · exact ⟨m, by omega, (List.mem_singleton.1 h).symm⟩
        · rintro ⟨j, hj, e⟩
          by_cases h : j < m
          · exact .inl ⟨j, h, e⟩
          · obtain rfl : j = m := by omega
            exact .inr (by simpa using e.symm)
      · rw [Nat.add_sub_cancel]
        rcases List.mem_append.1 hx with hx | hx
        · have := h3 x hx
          by_cases h0 : m = 0
          · subst h0
            obtain ⟨j, hj, _⟩ := (h2 x).1 hx
            omega
          · have q := hs (m - 1) (by omega)
            rw [show m - 1 + 1 = m by omega] at q
            omega
        · simp at hx
          omega
    · rw [if_neg hk, List.append_nil]
      have hk' : m ≠ 0 ∧ d[m]! = d[m - 1]! := by simpa [Lib.keeps, not_or] using hk
      refine ⟨h1, fun x => ?_, fun x hx => ?_⟩
      · rw [h2]
        constructor
        · rintro ⟨j, hj, e⟩; exact ⟨j, by omega, e⟩
        · rintro ⟨j, hj, e⟩
          by_cases h : j < m
          · exact ⟨j, h, e⟩
          · obtain rfl : j = m := by omega
            exact ⟨j - 1, by omega, by rw [← hk'.2]; exact e⟩
      · rw [Nat.add_sub_cancel, hk'.2]
        exact h3 x hx
theorem compact_sorted (X : List Int) (L : List Int) (hL : L.Pairwise (· < ·)) (hm : ∀ x, x ∈ X ↔ x ∈ L) : Lib.compact (X.mergeSort fun x y => decide (x ≤ y)) = L := by
  obtain ⟨Y, hY⟩ : ∃ Y, Y = X.mergeSort fun x y => decide (x ≤ y) := ⟨_, rfl⟩
  have hs : Y.Pairwise (fun x y => x ≤ y) := by
    rw [hY]
    have := List.pairwise_mergeSort (le := fun (x y : Int) => decide (x ≤ y)) (fun a b c h1 h2 => by simp at *; omega) (fun a b => by simp; omega) X
    exact this.imp (by intro a b h; simpa using h)
  have hmem : ∀ x, x ∈ Y ↔ x ∈ X := fun x => by rw [hY]; exact (List.mergeSort_perm X _).mem_iff
  rw [← hY]
  obtain ⟨h1, h2, _⟩ := compact_upTo Y.toArray (fun j hj => by
    have hj' : j + 1 < Y.length := by simpa using hj
    rw [getElem!_pos Y.toArray j (by simpa using by omega), getElem!_pos Y.toArray (j + 1) hj]
    have := List.pairwise_iff_getElem.1 hs j (j + 1) (by omega) hj' (by omega)
    simpa using this) Y.length (by simp)
  refine asc_same h1 hL fun x => ?_
  rw [show Lib.compactUpTo Y.toArray Y.length = Lib.compact Y from rfl] at h2
  show x ∈ Lib.compact Y ↔ x ∈ L
  rw [h2, ← hm, ← hmem]
  constructor
  · rintro ⟨j, hj, e⟩
    rw [getElem!_pos Y.toArray j (by simpa using hj)] at e
    rw [← e]
    simp
  · intro h
    obtain ⟨j, hj, e⟩ := List.getElem_of_mem h
    exact ⟨j, hj, by rw [getElem!_pos Y.toArray j (by simpa using hj)]; simpa using e⟩

theorem row_ints {w : World} {B n c : Nat} {ao : Option Addr} {L : List Int} (h : w.ownsRow B 3 1 (.slice ao n c) n (enI L)) : Ints w ao n (fun j => L.getD j 0) := fun j hj => by
  obtain ⟨g, c', e, hg1, hg2⟩ := h.form (by omega)
  cases e
  have hl : L.length = n := by have := h.1; simp [enI] at this; exact this
  have hx : (enI L)[j]? = some (.int .i64 (L.getD j 0)) := by simp [enI, List.getD, List.getElem?_eq_getElem (show j < L.length by omega)]
  have hc := h.cells rfl j _ hx
  rw [Addr.add_lit] at hc
  exact ⟨g, 0, rfl, World.block_lt_of_cell? w _ hc, hc⟩
set_option maxHeartbeats 1600000 in
theorem ints_same (ao bo : Option Addr) (n c1 c2 : Nat) (Z : Nat → Int) (hn : n ≤ 9223372036854775807) (w : World) (h : Ints w ao n Z) (h' : Ints w bo n Z) :
    Calls Try.prog 27 #[.slice ao n c1, .slice bo n c2] w fun e w' => e = .returned (.bool true) ∧ ∃ m, w' = w.drewN m := by
  have H := hid h
  have H' := hid h'
  clear h h'
  go_enter Try.func27, Try.ntmps27
  go_wp2
  go_loopw [5] (fun iv wr => ∃ (j k : Nat), j ≤ n ∧ iv = .int .i64 j ∧ wr = w.drewN k) (fun iv _ => n - (intOf iv).toNat)
  case atStart => exact ⟨0, 0, Nat.zero_le _, rfl, rfl⟩
  case round =>
    obtain ⟨j, k, hj, rfl, rfl⟩ := hrel
    by_cases hlt : j < n
    · obtain ⟨g, o, rfl, hz, hc⟩ := H.out j hlt
      obtain ⟨g', o', rfl, hz', hc'⟩ := H'.out j hlt
      obtain ⟨x, hx⟩ : ∃ x, x = Z j := ⟨_, rfl⟩
      rw [← hx] at hc hc'
      have b1 : (j : Int) < (n : Int) := by omega
      have b2 : (0 : Int) ≤ (j : Int) := by omega
      clear hx
      go_wp2
      go_quiet (fail)
      go_wp2
      go_roundw
      case rel => exact ⟨j + 1, _, by omega, by go_num, rfl⟩
      case measure => simp [intOf]; omega
    · go_wp2
      go_ret
      exact ⟨rfl, _, rfl⟩
end Go.Proofs.Ytpohhcmkkjcelaa
