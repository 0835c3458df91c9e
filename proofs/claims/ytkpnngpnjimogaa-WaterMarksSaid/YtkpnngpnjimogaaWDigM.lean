/-
  What Dig and Fill answer; the memory of their walks.
-/
import Derived.Test.YtkpnngpnjimogaaWWth
import Derived.Test.YtkpnngpnjimogaaWRJnd
namespace Go.Proofs.Ytkpnngpnjimogaa
open Go.RowKit

/-- Waters, a price and an error, handed back. -/
def WtO (m q : Nat) (K Y : Nat → Int) (c e : Int) (w : World) (r : Ending) (w' : World) : Prop :=
  ∃ ko kc bo bc, r = .returned (.tuple #[.agg #[.slice ko m kc, .slice bo q bc], .int .i64 c, .int .i64 e]) ∧ Ints w' ko m K ∧ Ints w' bo q Y ∧ Below w.heap.size w w'
theorem wto_zero {e : Int} {w w' : World} (h : Below w.heap.size w w') : WtO 0 0 (fun _ => 0) (fun _ => 0) 0 e w (.returned (.tuple #[.agg #[.slice none 0 0, .slice none 0 0], .int .i64 0, .int .i64 e])) w' :=
  ⟨none, 0, none, 0, rfl, fun j hj => absurd hj (Nat.not_lt_zero j), fun j hj => absurd hj (Nat.not_lt_zero j), h⟩
/-- The error of Dig on right waters. -/
def DErr (W H : Nat) (Z K : Nat → Int) (t k e : Int) : Prop :=
  (e = 2 ∧ tileB W H t = false) ∨ (e = 1 ∧ tileB W H t = true ∧ ¬ (1 ≤ k ∧ k ≤ 3)) ∨ ∃ u : Nat, t = u ∧ u < W * H ∧ (1 ≤ k ∧ k ≤ 3) ∧ ((e = 7 ∧ K u ≠ 0) ∨ (K u = 0 ∧ e = flt (sea W Z u) (gsl W Z u) k))
theorem DErr.ex (W H : Nat) (Z K : Nat → Int) (t k : Int) : ∃ e, DErr W H Z K t k e := by
  cases ht : tileB W H t
  · exact ⟨2, .inl ⟨rfl, ht⟩⟩
  · by_cases hk : 1 ≤ k ∧ k ≤ 3
    · obtain ⟨u, rfl, hu⟩ := tile_ex ht
      by_cases h0 : K u = 0
      · exact ⟨_, .inr (.inr ⟨u, rfl, hu, hk, .inr ⟨h0, rfl⟩⟩)⟩
      · exact ⟨7, .inr (.inr ⟨u, rfl, hu, hk, .inl ⟨rfl, h0⟩⟩)⟩
    · exact ⟨1, .inr (.inl ⟨rfl, ht, hk⟩)⟩
theorem DErr.ok {W H : Nat} {Z K : Nat → Int} {t k : Int} (h : DErr W H Z K t k 0) : ∃ u : Nat, t = u ∧ u < W * H ∧ (1 ≤ k ∧ k ≤ 3) ∧ K u = 0 ∧ flt (sea W Z u) (gsl W Z u) k = 0 := by
  rcases h with ⟨h, _⟩ | ⟨h, _⟩ | ⟨u, rfl, hu, hk, ⟨h, _⟩ | ⟨h0, h⟩⟩
  · cases h
  · cases h
  · cases h
  · exact ⟨u, rfl, hu, hk, h0, h.symm⟩
/-- The error of Fill on right waters. -/
def FErr (W H q : Nat) (Z K Y : Nat → Int) (t e : Int) : Prop :=
  (e = 2 ∧ tileB W H t = false) ∨ ∃ u : Nat, t = u ∧ u < W * H ∧ ((e = 2 ∧ K u = 0) ∨ (e = 7 ∧ K u ≠ 0 ∧ memK q Y u = true ∧ sea W Z u = false) ∨ (e = 0 ∧ K u ≠ 0 ∧ ¬ (memK q Y u = true ∧ sea W Z u = false)))
theorem FErr.ex (W H q : Nat) (Z K Y : Nat → Int) (t : Int) : ∃ e, FErr W H q Z K Y t e := by
  cases ht : tileB W H t
  · exact ⟨2, .inl ⟨rfl, ht⟩⟩
  · obtain ⟨u, rfl, hu⟩ := tile_ex ht
    by_cases h0 : K u = 0
    · exact ⟨2, .inr ⟨u, rfl, hu, .inl ⟨rfl, h0⟩⟩⟩
    · by_cases hb : memK q Y u = true ∧ sea W Z u = false
      · exact ⟨7, .inr ⟨u, rfl, hu, .inr (.inl ⟨rfl, h0, hb⟩)⟩⟩
      · exact ⟨0, .inr ⟨u, rfl, hu, .inr (.inr ⟨rfl, h0, hb⟩)⟩⟩
theorem FErr.ok {W H q : Nat} {Z K Y : Nat → Int} {t : Int} (h : FErr W H q Z K Y t 0) : ∃ u : Nat, t = u ∧ u < W * H ∧ K u ≠ 0 ∧ ¬ (memK q Y u = true ∧ sea W Z u = false) := by
  rcases h with ⟨h, _⟩ | ⟨u, rfl, hu, ⟨h, _⟩ | ⟨h, _⟩ | ⟨_, h0, h⟩⟩
  · cases h
  · cases h
  · cases h
  · exact ⟨u, rfl, hu, h0, h⟩
/-- What Dig answers: waters, the price, the error. -/
def DOut (W H : Int) (n m q : Nat) (Z K Y : Nat → Int) (t k : Int) (m' q' : Nat) (K' Y' : Nat → Int) (c e : Int) : Prop :=
  (e ≠ 0 ∧ (m' = 0 ∧ q' = 0 ∧ K' = (fun _ => 0) ∧ Y' = (fun _ => 0) ∧ c = 0) ∧ (WErr W H n m q Z K Y e ∨ ∃ W' H' : Nat, W = W' ∧ H = H' ∧ Good W' H' n Z ∧ Fine W' H' m q Z K Y ∧ DErr W' H' Z K t k e)) ∨
  (e = 0 ∧ ∃ W' H' u : Nat, W = W' ∧ H = H' ∧ Good W' H' n Z ∧ Fine W' H' m q Z K Y ∧ t = u ∧ DErr W' H' Z K u k 0 ∧ m' = m ∧ q' = q ∧ K' = upK K u k ∧ Y' = Y ∧ c = costK k)
theorem DOut.ex (W H : Int) (n m q : Nat) (Z K Y : Nat → Int) (t k : Int) : ∃ m' q' K' Y' c e, DOut W H n m q Z K Y t k m' q' K' Y' c e := by
  obtain ⟨e, he⟩ := WErr.ex W H n m q Z K Y
  by_cases h0 : e = 0
  · subst h0
    obtain ⟨W', H', rfl, rfl, hg, hf⟩ := he.fine
    obtain ⟨e, h⟩ := DErr.ex W' H' Z K t k
    by_cases h0 : e = 0
    · subst h0
      obtain ⟨u, rfl, hu⟩ := h.ok
      exact ⟨_, _, _, _, _, _, .inr ⟨rfl, W', H', u, rfl, rfl, hg, hf, rfl, h, rfl, rfl, rfl, rfl, rfl⟩⟩
    · exact ⟨_, _, _, _, _, _, .inl ⟨h0, ⟨rfl, rfl, rfl, rfl, rfl⟩, .inr ⟨W', H', rfl, rfl, hg, hf, h⟩⟩⟩
  · exact ⟨_, _, _, _, _, _, .inl ⟨h0, ⟨rfl, rfl, rfl, rfl, rfl⟩, .inl he⟩⟩
/-- What Fill answers. -/
def LOut (W H : Int) (n m q : Nat) (Z K Y : Nat → Int) (t : Int) (m' q' : Nat) (K' Y' : Nat → Int) (c e : Int) : Prop :=
  (e ≠ 0 ∧ (m' = 0 ∧ q' = 0 ∧ K' = (fun _ => 0) ∧ Y' = (fun _ => 0) ∧ c = 0) ∧ (WErr W H n m q Z K Y e ∨ ∃ W' H' : Nat, W = W' ∧ H = H' ∧ Good W' H' n Z ∧ Fine W' H' m q Z K Y ∧ FErr W' H' q Z K Y t e)) ∨
  (e = 0 ∧ ∃ W' H' u : Nat, W = W' ∧ H = H' ∧ Good W' H' n Z ∧ Fine W' H' m q Z K Y ∧ t = u ∧ FErr W' H' q Z K Y u 0 ∧ m' = m ∧ q' = q ∧ K' = upK K u 0 ∧ Y' = Y ∧ c = 250)
theorem LOut.ex (W H : Int) (n m q : Nat) (Z K Y : Nat → Int) (t : Int) : ∃ m' q' K' Y' c e, LOut W H n m q Z K Y t m' q' K' Y' c e := by
  obtain ⟨e, he⟩ := WErr.ex W H n m q Z K Y
  by_cases h0 : e = 0
  · subst h0
    obtain ⟨W', H', rfl, rfl, hg, hf⟩ := he.fine
    obtain ⟨e, h⟩ := FErr.ex W' H' q Z K Y t
    by_cases h0 : e = 0
    · subst h0
      obtain ⟨u, rfl, hu⟩ := h.ok
      exact ⟨_, _, _, _, _, _, .inr ⟨rfl, W', H', u, rfl, rfl, hg, hf, rfl, h, rfl, rfl, rfl, rfl, rfl⟩⟩
    · exact ⟨_, _, _, _, _, _, .inl ⟨h0, ⟨rfl, rfl, rfl, rfl, rfl⟩, .inr ⟨W', H', rfl, rfl, hg, hf, h⟩⟩⟩
  · exact ⟨_, _, _, _, _, _, .inl ⟨h0, ⟨rfl, rfl, rfl, rfl, rfl⟩, .inl he⟩⟩
/-- Land, waters and the box of what is handed back. -/
structure LR (W H : Int) (ao ko bo : Option Addr) (n cap m kcap q bcap : Nat) (Z K Y : Nat → Int) (w wr : World) : Prop where
  lw : LW W H ao ko bo n cap m kcap q bcap Z K Y w wr
  res : wr.heap[w.heap.size + 2]? = some (.cells #[.slice none 0 0, .slice none 0 0] 26 (0, 0))
section
variable {W H : Int} {ao ko bo : Option Addr} {n cap m kcap q bcap : Nat} {Z K Y : Nat → Int} {w wr w' w1 : World} {d : Wat} {M : Nat}
theorem LR.stays (h : LR W H ao ko bo n cap m kcap q bcap Z K Y w wr) (k : Below wr.heap.size wr w') : LR W H ao ko bo n cap m kcap q bcap Z K Y w w' :=
  ⟨h.lw.stays k, (k.block _ (heap_lt h.res)).trans h.res⟩
theorem LR.start (hI : Ints w ao n Z) (hK : Ints w ko m K) (hY : Ints w bo q Y) :
    LR W H ao ko bo n cap m kcap q bcap Z K Y w (((w.alloc (.cells #[.int .i64 W, .int .i64 H, .slice ao n cap] 24)).alloc (.cells #[.slice ko m kcap, .slice bo q bcap] 26)).alloc (.cells #[.slice none 0 0, .slice none 0 0] 26)) := by
  refine ⟨(LW.start hI hK hY).stays (Joins.below_alloc1 _ _), ?_⟩
  show (((w.heap.push _).push _).push _)[_]? = _
  rw [Array.getElem?_push, if_pos (by simp)]
/-- And the chart's box. -/
structure DG (d : Wat) (M : Nat) (w w1 wr : World) : Prop where
  tb : TB d M w w1 wr
  res : wr.heap[w.heap.size + 2]? = some (.cells #[.slice none 0 0, .slice none 0 0] 26 (0, 0))
  rM : w.heap.size + 2 < M
theorem DG.on (h : DG d M w w1 wr) (k : Nx d M wr w') : DG d M w w1 w' :=
  ⟨h.tb.on k, (k.kp.block _ (heap_lt h.res) (by have := h.rM; omega)).trans h.res, h.rM⟩
theorem DG.go (h : DG d M w w1 wr) (k : Below wr.heap.size wr w') : DG d M w w1 w' := h.on (h.tb.cb.cx.go k)
theorem DG.start (h : LR d.W d.H (some ⟨d.ab, d.aoff, none⟩) (some ⟨d.kb, d.koff, none⟩) d.bo d.n d.cap d.m d.kcap d.q d.bcap d.Z d.K d.Y w wr) (hb : Below wr.heap.size wr w1) (hM : wr.heap.size ≤ M) (hC : Cx d M w1) :
    DG d M w w1 (w1.alloc (.cells #[.int .i64 d.W, .int .i64 d.H, d.as, d.ks, d.bs, .map (some M)] 52)) := by
  have hz := heap_lt h.res
  have hz1 := hb.size
  refine ⟨TB.start h.lw hb hM hC, ?_, by omega⟩
  show (w1.heap.push _)[_]? = _
  rw [Array.getElem?_push, if_neg (by omega)]
  exact (hb.block _ hz).trans h.res
end
theorem cisTile_to (d : Wat) (hW : d.W ≤ 32) (hH : d.H ≤ 32) (t : Int) (r : Bool) (hr : tileB d.W d.H t = r) (M : Nat) (w : World) : Calls Try.prog 44 #[d.cht M, .int .i64 t] w fun e w' => e = .returned (.bool r) ∧ Below w.heap.size w w' := by
  subst hr
  exact cisTile_any d hW hH M t w
/-- Contains, of any slice of numbers. -/
theorem contains_any (bo : Option Addr) (q bcap : Nat) (Y : Nat → Int) (hq : q ≤ 4000) (t : Int) (r : Bool) (hr : r = memK q Y t) (w : World) (hY : Ints w bo q Y) :
    Calls Try.prog 50 #[.slice bo q bcap, .int .i64 t] w fun e w' => e = .returned (.bool r) ∧ w' = w := by
  subst hr
  by_cases h0 : q = 0
  · subst h0
    exact Try.slices_Contains_int_empty bo bcap t w
  · obtain ⟨b, off, rfl, hz, hc⟩ := hY.one (by omega)
    have h := Try.slices_Contains_int b off q bcap ((List.range q).map Y) t w (by simp) (by omega) (fun j hj => by
      have hj : j < q := by simpa using hj
      rw [hc j hj]; simp [List.getD, hj])
    have e : (((List.range q).map Y).take q).contains t = memK q Y t := by
      rw [List.take_of_length_le (by simp)]
      cases hm : memK q Y t
      · have hf : ∀ i, i < q → Y i ≠ t := fun i hi hy => by rw [memK_yes hi hy] at hm; cases hm
        rw [Bool.eq_false_iff]
        intro hc
        rw [List.contains_iff_mem] at hc
        obtain ⟨i, hi, hy⟩ := List.mem_map.1 hc
        exact hf i (List.mem_range.1 hi) hy
      · unfold memK at hm
        rw [List.any_eq_true] at hm
        obtain ⟨i, hi, hy⟩ := hm
        rw [List.contains_iff_mem]
        exact List.mem_map.2 ⟨i, hi, by simpa using hy⟩
    rw [e] at h
    exact h
end Go.Proofs.Ytkpnngpnjimogaa
