/-
  What Mark answers; BinarySearch in a row of buoys; the memory of Mark.
-/
import Derived.Test.YtkpnngpnjimogaaWIns
import Derived.Test.YtkpnngpnjimogaaWLawBck
namespace Go.Proofs.Ytkpnngpnjimogaa
open Go.RowKit

theorem asc_lt {q : Nat} {Y : Nat → Int} (h : Asc q Y) : ∀ (j i : Nat), i < j → j < q → Y i < Y j
  | j + 1, i, hi, hj => by
    have h1 := h (j + 1) (by omega) hj
    rw [Nat.add_sub_cancel] at h1
    by_cases e : i = j
    · subst e; exact h1
    · have := asc_lt h j i (by omega) (by omega)
      omega
/-- Where a number stands, or would, in an ascending row. -/
def LowAt (q : Nat) (Y : Nat → Int) (t : Int) (p : Nat) : Prop := p ≤ q ∧ ∀ j, j < q → (j < p ↔ Y j < t)
theorem low_count (q : Nat) (Y : Nat → Int) (t : Int) (h : Asc q Y) : LowAt q Y t (((List.range q).map Y).countP (· < t)) := by
  induction q with
  | zero => exact ⟨by simp, fun j hj => absurd hj (Nat.not_lt_zero j)⟩
  | succ q ih =>
    obtain ⟨h1, h2⟩ := ih (fun i h0 hi => h i h0 (by omega))
    rw [List.range_succ, List.map_append, List.countP_append]
    by_cases hq : Y q < t
    · have e : ([q].map Y).countP (· < t) = 1 := by simp [hq]
      have hall : ((List.range q).map Y).countP (· < t) = q := by
        rcases Nat.lt_or_ge (((List.range q).map Y).countP (· < t)) q with hlt | hge
        · have := (h2 _ hlt).2 (by have := asc_lt h q _ hlt (by omega); omega)
          omega
        · omega
      rw [e, hall]
      refine ⟨by omega, fun j hj => ⟨fun _ => ?_, fun _ => hj⟩⟩
      by_cases e : j = q
      · subst e; exact hq
      · have := asc_lt h q j (by omega) (by omega); omega
    · have e : ([q].map Y).countP (· < t) = 0 := by simp [hq]
      rw [e, Nat.add_zero]
      refine ⟨by omega, fun j hj => ?_⟩
      by_cases e : j = q
      · subst e; exact ⟨fun h => absurd h (by omega), fun h => absurd h hq⟩
      · exact h2 j (by omega)
theorem LowAt.uniq {q p p' : Nat} {Y : Nat → Int} {t : Int} (h : LowAt q Y t p) (h' : LowAt q Y t p') : p = p' := by
  rcases Nat.lt_trichotomy p p' with hl | hl | hl
  · have := (h.2 p (by have := h'.1; omega)).2 ((h'.2 p (by have := h'.1; omega)).1 hl); omega
  · exact hl
  · have := (h'.2 p' (by have := h.1; omega)).2 ((h.2 p' (by have := h.1; omega)).1 hl); omega
theorem mem_low {q p : Nat} {Y : Nat → Int} {t : Int} (ha : Asc q Y) (h : LowAt q Y t p) (hm : memK q Y t = true) : p < q ∧ Y p = t := by
  unfold memK at hm
  rw [List.any_eq_true] at hm
  obtain ⟨i, hi, hy⟩ := hm
  have hi := List.mem_range.1 hi
  have hy : Y i = t := by simpa using hy
  have h1 : ¬ i < p := fun hl => by have := (h.2 i hi).1 hl; omega
  have h2 : ¬ p < i := fun hl => by
    have h3 : ¬ Y p < t := fun hlt => by have := (h.2 p (by omega)).2 hlt; omega
    have := asc_lt ha i p hl hi
    omega
  obtain rfl : i = p := by omega
  exact ⟨hi, hy⟩
theorem notmem {q : Nat} {Y : Nat → Int} {t : Int} (hm : memK q Y t = false) {i : Nat} (hi : i < q) : Y i ≠ t := fun h => by rw [memK_yes hi h] at hm; cases hm
/-- Buoys with one more or one fewer. -/
def MarkIs (q : Nat) (Y : Nat → Int) (t : Int) (q' : Nat) (Y' : Nat → Int) : Prop :=
  ∃ p, LowAt q Y t p ∧ ((memK q Y t = true ∧ q' = q - 1 ∧ Y' = delY Y p) ∨ (memK q Y t = false ∧ q' = q + 1 ∧ Y' = insY Y p t))
theorem MarkIs.ex {q : Nat} {Y : Nat → Int} (t : Int) (ha : Asc q Y) : ∃ q' Y', MarkIs q Y t q' Y' := by
  have h := low_count q Y t ha
  cases hm : memK q Y t
  · exact ⟨_, _, _, h, .inr ⟨hm, rfl, rfl⟩⟩
  · exact ⟨_, _, _, h, .inl ⟨hm, rfl, rfl⟩⟩
theorem MarkIs.low {q : Nat} {Y : Nat → Int} {t : Int} {q' : Nat} {Y' : Nat → Int} (ha : Asc q Y) (h : MarkIs q Y t q' Y') :
    Asc q' Y' ∧ ∀ i, i < q' → Y' i = t ∨ ∃ j, j < q ∧ Y' i = Y j := by
  obtain ⟨p, hp, ⟨hm, rfl, rfl⟩ | ⟨hm, rfl, rfl⟩⟩ := h
  · obtain ⟨h1, h2⟩ := mem_low ha hp hm
    refine ⟨fun i h0 hi => ?_, fun i hi => .inr ?_⟩
    · unfold delY
      (repeat' split) <;> first | omega | exact asc_lt ha _ _ (by omega) (by omega)
    · unfold delY
      split
      · exact ⟨i, by omega, rfl⟩
      · exact ⟨i + 1, by omega, rfl⟩
  · have hpq := hp.1
    refine ⟨fun i h0 hi => ?_, fun i hi => ?_⟩
    · unfold insY
      (repeat' split) <;> first
        | omega
        | exact asc_lt ha _ _ (by omega) (by omega)
        | exact (hp.2 _ (by omega)).1 (by omega)
        | (have h1 := notmem hm (i := i - 1) (by have := hp.1; omega)
           have h2 : ¬ Y (i - 1) < t := fun h => by have := (hp.2 (i - 1) (by have := hp.1; omega)).2 h; omega
           omega)
    · unfold insY
      split
      · exact .inr ⟨i, by have := hp.1; omega, rfl⟩
      · split
        · exact .inl rfl
        · exact .inr ⟨i - 1, by omega, rfl⟩
/-- Marking twice changes nothing. -/
theorem MarkIs.back {q : Nat} {Y : Nat → Int} {t : Int} {q' : Nat} {Y' : Nat → Int} (ha : Asc q Y) (h : MarkIs q Y t q' Y') : MarkIs q' Y' t q Y := by
  obtain ⟨p, hp, ⟨hm, rfl, rfl⟩ | ⟨hm, rfl, rfl⟩⟩ := h
  · obtain ⟨h1, h2⟩ := mem_low ha hp hm
    have hlow : ∀ j, j < q - 1 → delY Y p j ≠ t ∧ (j < p ↔ delY Y p j < t) := fun j hj => by
      unfold delY
      by_cases h : j < p
      · rw [if_pos h]; have := (hp.2 j (by omega)).1 h; exact ⟨by omega, ⟨fun _ => this, fun _ => h⟩⟩
      · rw [if_neg h]; have := asc_lt ha (j + 1) p (by omega) (by omega); exact ⟨by omega, ⟨fun h' => absurd h' h, fun h' => by omega⟩⟩
    refine ⟨p, ⟨by omega, fun j hj => (hlow j hj).2⟩, .inr ⟨memK_no fun i hi => (hlow i hi).1, by omega, ?_⟩⟩
    funext j
    unfold insY delY
    by_cases h : j < p
    · rw [if_pos h, if_pos h]
    · rw [if_neg h]
      by_cases e : j = p
      · subst e; rw [if_pos rfl]; exact h2
      · rw [if_neg e, if_neg (by omega), show j - 1 + 1 = j by omega]
  · have hlow : ∀ j, j < q + 1 → (j < p ↔ insY Y p t j < t) := fun j hj => by
      unfold insY
      by_cases h : j < p
      · rw [if_pos h]; exact ⟨fun _ => (hp.2 j (by have := hp.1; omega)).1 h, fun _ => h⟩
      · rw [if_neg h]
        by_cases e : j = p
        · rw [if_pos e]; exact ⟨fun h' => absurd h' h, fun h' => by omega⟩
        · rw [if_neg e]
          refine ⟨fun h' => absurd h' h, fun h' => ?_⟩
          have := (hp.2 (j - 1) (by omega)).2 h'
          omega
    refine ⟨p, ⟨by have := hp.1; omega, hlow⟩, .inl ⟨memK_yes (i := p) (by have := hp.1; omega) (by unfold insY; simp), by omega, ?_⟩⟩
    funext j
    unfold delY insY
    by_cases h : j < p
    · rw [if_pos h, if_pos h]
    · rw [if_neg h, if_neg (by omega), if_neg (by omega), Nat.add_sub_cancel]
theorem fine_mark {W H m q : Nat} {Z K Y : Nat → Int} {u q' : Nat} {Y' : Nat → Int} (hf : Fine W H m q Z K Y) (hu : u < W * H) (hw : wt W Z K u = true) (h : MarkIs q Y u q' Y') : Fine W H m q' Z K Y' := by
  obtain ⟨ha, hm⟩ := h.low hf.asc
  refine ⟨hf.len, hf.kinds, ha, fun i hi => ?_, hf.fits, fun i hi => ?_⟩
  · rcases hm i hi with h | ⟨j, hj, h⟩
    · rw [h]; exact tile_yes hu
    · rw [h]; exact hf.inn j hj
  · rcases hm i hi with h | ⟨j, hj, h⟩
    · rw [h, Int.toNat_natCast]; exact hw
    · rw [h]; exact hf.wet j hj
/-- What Mark answers: waters and the error. -/
def MOut (W H : Int) (n m q : Nat) (Z K Y : Nat → Int) (t : Int) (m' q' : Nat) (K' Y' : Nat → Int) (e : Int) : Prop :=
  (e ≠ 0 ∧ (m' = 0 ∧ q' = 0 ∧ K' = (fun _ => 0) ∧ Y' = (fun _ => 0)) ∧ (PErr W H n m q Z K Y t e ∨ (e = 9 ∧ ∃ W' H' u : Nat, W = W' ∧ H = H' ∧ Good W' H' n Z ∧ Fine W' H' m q Z K Y ∧ t = u ∧ u < W' * H' ∧ wt W' Z K u = false))) ∨
  (e = 0 ∧ ∃ W' H' u : Nat, W = W' ∧ H = H' ∧ Good W' H' n Z ∧ Fine W' H' m q Z K Y ∧ t = u ∧ u < W' * H' ∧ wt W' Z K u = true ∧ m' = m ∧ K' = K ∧ MarkIs q Y u q' Y')
theorem MOut.ex (W H : Int) (n m q : Nat) (Z K Y : Nat → Int) (t : Int) : ∃ m' q' K' Y' e, MOut W H n m q Z K Y t m' q' K' Y' e := by
  obtain ⟨e, he⟩ := WErr.ex W H n m q Z K Y
  by_cases h0 : e = 0
  · subst h0
    obtain ⟨W', H', rfl, rfl, hg, hf⟩ := he.fine
    cases ht : tileB W' H' t
    · exact ⟨_, _, _, _, 2, .inl ⟨by decide, ⟨rfl, rfl, rfl, rfl⟩, .inl (.inr ⟨W', H', rfl, rfl, hg, hf, .inl ⟨rfl, ht⟩⟩)⟩⟩
    · obtain ⟨u, rfl, hu⟩ := tile_ex ht
      cases hw : wt W' Z K u
      · exact ⟨_, _, _, _, 9, .inl ⟨by decide, ⟨rfl, rfl, rfl, rfl⟩, .inr ⟨rfl, W', H', u, rfl, rfl, hg, hf, rfl, hu, hw⟩⟩⟩
      · obtain ⟨q', Y', h⟩ := MarkIs.ex (u : Int) hf.asc
        exact ⟨_, _, _, _, 0, .inr ⟨rfl, W', H', u, rfl, rfl, hg, hf, rfl, hu, hw, rfl, rfl, h⟩⟩
  · exact ⟨_, _, _, _, e, .inl ⟨h0, ⟨rfl, rfl, rfl, rfl⟩, .inl (.inl ⟨h0, he⟩)⟩⟩
theorem MOut.back {W H : Int} {n m q : Nat} {Z K Y : Nat → Int} {t : Int} {m' q' : Nat} {K' Y' : Nat → Int} (h : MOut W H n m q Z K Y t m' q' K' Y' 0) : m' = m ∧ K' = K ∧ q' ≤ q + 1 ∧ MOut W H n m' q' Z K' Y' t m q K Y 0 := by
  rcases h with ⟨h, _⟩ | ⟨_, W', H', u, rfl, rfl, hg, hf, rfl, hu, hw, rfl, rfl, h⟩
  · exact absurd rfl h
  · refine ⟨rfl, rfl, ?_, .inr ⟨rfl, W', H', u, rfl, rfl, hg, fine_mark hf hu hw h, rfl, hu, hw, rfl, rfl, h.back hf.asc⟩⟩
    obtain ⟨p, hp, ⟨_, rfl, _⟩ | ⟨_, rfl, _⟩⟩ := h <;> omega
/-- Waters and an error, handed back. -/
def WtM (m q : Nat) (K Y : Nat → Int) (e : Int) (w : World) (r : Ending) (w' : World) : Prop :=
  ∃ ko kc bo bc, r = .returned (.tuple #[.agg #[.slice ko m kc, .slice bo q bc], .int .i64 e]) ∧ Ints w' ko m K ∧ Ints w' bo q Y ∧ Below w.heap.size w w'
theorem wtm_zero {e : Int} {w w' : World} (h : Below w.heap.size w w') : WtM 0 0 (fun _ => 0) (fun _ => 0) e w (.returned (.tuple #[.agg #[.slice none 0 0, .slice none 0 0], .int .i64 e])) w' :=
  ⟨none, 0, none, 0, rfl, fun j hj => absurd hj (Nat.not_lt_zero j), fun j hj => absurd hj (Nat.not_lt_zero j), h⟩
set_option maxHeartbeats 800000 in
theorem bs_nil (ao : Option Addr) (c : Nat) (t : Int) (w : World) : Calls Try.prog 61 #[.slice ao 0 c, .int .i64 t] w fun e w' => e = .returned (.tuple #[.int .i64 0, .bool false]) ∧ ∃ k, w' = w.drewN k := by
  go_enter Try.func61, Try.ntmps61
  go_wp2
  go_loopw [7, 8] (fun iv jv wr => iv = .int .i64 0 ∧ jv = .int .i64 0 ∧ wr = w) (fun _ _ _ => 0)
  case atStart => exact ⟨rfl, rfl, rfl⟩
  case round =>
    obtain ⟨rfl, rfl, rfl⟩ := hrel
    go_wp2
    go_ret2
    exact ⟨rfl, 0, rfl⟩
theorem bs_any (bo : Option Addr) (q bc : Nat) (Y : Nat → Int) (hq : q ≤ 4001) (ha : Asc q Y) (t : Int) (p : Nat) (hp : LowAt q Y t p) (r : Bool) (hr : memK q Y t = r) (w : World) (hY : Ints w bo q Y) :
    Calls Try.prog 61 #[.slice bo q bc, .int .i64 t] w fun e w' => e = .returned (.tuple #[.int .i64 p, .bool r]) ∧ Below w.heap.size w w' := by
  subst hr
  by_cases h0 : q = 0
  · subst h0
    obtain rfl : p = 0 := by have := hp.1; omega
    exact (bs_nil bo bc t w).mono fun e w' ⟨he, k, hk⟩ => ⟨by rw [he]; rfl, by rw [hk]; exact Joins.below_draws _ _ _⟩
  · obtain ⟨b, off, rfl, hz, hc⟩ := hY.one (by omega)
    have et : ((List.range q).map Y).take q = (List.range q).map Y := List.take_of_length_le (by simp)
    have h := Try.slices_BinarySearch_int b off q bc ((List.range q).map Y) t w (by simp) (by omega) (fun j hj => by
      have hj : j < q := by simpa using hj
      rw [hc j hj]; simp [List.getD, hj]) (by
      rw [et, List.pairwise_iff_getElem]
      intro i j hi hj hij
      simp at hi hj
      simp only [List.getElem_map, List.getElem_range]
      exact Int.le_of_lt (asc_lt ha j i hij hj))
    rw [et] at h
    refine h.mono fun e w' ⟨he, k, hk⟩ => ⟨?_, by rw [hk]; exact Joins.below_draws _ _ _⟩
    rw [he, ← hp.uniq (low_count q Y t ha)]
    have e : ((List.range q).map Y).contains t = memK q Y t := by
      cases hm : memK q Y t
      · rw [Bool.eq_false_iff]
        intro hcn
        rw [List.contains_iff_mem] at hcn
        obtain ⟨i, hi, hy⟩ := List.mem_map.1 hcn
        exact notmem hm (List.mem_range.1 hi) hy
      · unfold memK at hm
        rw [List.any_eq_true] at hm
        obtain ⟨i, hi, hy⟩ := hm
        rw [List.contains_iff_mem]
        exact List.mem_map.2 ⟨i, hi, by simpa using hy⟩
    rw [e]
end Go.Proofs.Ytkpnngpnjimogaa
