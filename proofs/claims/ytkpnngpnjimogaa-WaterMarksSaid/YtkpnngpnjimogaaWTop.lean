/-
  The memory of what asks survey first; rows turned round; the way back through a search.
-/
import Derived.Test.YtkpnngpnjimogaaWSrch
import Derived.Test.YtkpnngpnjimogaaWShelf
import Derived.Lib.OwnBridge
namespace Go.Proofs.Ytkpnngpnjimogaa
open Go.RowKit

theorem encN_ints (L : List Nat) : encN L = (L.map fun x : Nat => (x : Int)).map (Value.int .i64) := by simp [encN]
theorem reverse_own (B g c : Nat) (L : List Nat) (w : World) (hrow : w.ownsRow B 3 1 (.slice (some ⟨g, 0, none⟩) L.length c) L.length (encN L)) (hl : L.length ≤ 100000) :
    Calls Try.prog 68 #[.slice (some ⟨g, 0, none⟩) L.length c] w fun e w' => e = .returned (.tuple #[]) ∧
      w'.ownsRow B 3 1 (.slice (some ⟨g, 0, none⟩) L.length c) L.length (encN L.reverse) ∧ Below B w w' := by
  rw [encN_ints] at hrow
  obtain ⟨g', c', e, hBg, hgl, h1, h2, h3, hH⟩ := Lib.holds_of_ownsRow (enc := Value.int .i64) hrow (by simp)
  cases e
  have h := Try.slices_Reverse_int g 0 c (L.map fun x : Nat => (x : Int)) w hH (by simp; omega)
  rw [List.length_map] at h
  refine h.mono ?_
  rintro e w' ⟨rfl, q, rfl⟩
  refine ⟨rfl, ?_, Lib.below_putRow (Below.refl B w) hBg⟩
  have h := Lib.ownsRow_putRow (enc := Value.int .i64) (q := q) (k := L.length) (ys := (L.map fun x : Nat => (x : Int)).reverse) hrow (by simp) (Nat.le_refl _)
  rw [List.take_of_length_le (by simp)] at h
  rw [encN_ints, List.map_reverse]
  exact h

/-- The boxes of what asks survey first: the land's, the waters', and behind the call (in w1) the chart's. -/
structure TB (d : Wat) (M : Nat) (w w1 wr : World) : Prop where
  below : Below w.heap.size w wr
  size : w.heap.size + 1 < w1.heap.size
  hM : w.heap.size + 1 < M
  a0 : wr.cell? ⟨w.heap.size, 0, none⟩ = some (.int .i64 d.W)
  a1 : wr.cell? ⟨w.heap.size, 1, none⟩ = some (.int .i64 d.H)
  a2 : wr.cell? ⟨w.heap.size, 2, none⟩ = some d.as
  a3 : wr.cell? ⟨w.heap.size + 1, 0, none⟩ = some d.ks
  a4 : wr.cell? ⟨w.heap.size + 1, 1, none⟩ = some d.bs
  cb : CB d M w1 wr
section
variable {d : Wat} {M : Nat} {w w1 wr w' : World}
theorem TB.ge (h : TB d M w w1 wr) : w1.heap.size < wr.heap.size := h.cb.size
theorem TB.on (h : TB d M w w1 wr) (k : Nx d M wr w') : TB d M w w1 w' := by
  have h1 := h.size
  have h2 := h.hM
  have h3 := h.cb.size
  have e : ∀ (a i : Nat), a ≤ w.heap.size + 1 → w'.cell? ⟨a, i, none⟩ = wr.cell? ⟨a, i, none⟩ := fun a i ha => k.kp.cell (p := ⟨a, i, none⟩) (show a < wr.heap.size by omega) (show a ≠ M by omega)
  exact ⟨h.below.trans (k.kp.below (by omega) (by omega)), h1, h2, (e _ 0 (by omega)).trans h.a0, (e _ 1 (by omega)).trans h.a1, (e _ 2 (by omega)).trans h.a2, (e _ 0 (by omega)).trans h.a3, (e _ 1 (by omega)).trans h.a4, h.cb.on k⟩
theorem TB.go (h : TB d M w w1 wr) (k : Below wr.heap.size wr w') : TB d M w w1 w' := h.on (h.cb.cx.go k)
theorem TB.lift {B : Nat} (h : TB d M w w1 wr) (k : Below B wr w') (hB : w1.heap.size < B) : TB d M w w1 w' := by
  have h1 := h.size
  have h2 := h.hM
  have e : ∀ (a i : Nat), a ≤ w.heap.size + 1 → w'.cell? ⟨a, i, none⟩ = wr.cell? ⟨a, i, none⟩ := fun a i ha => k.cell (p := ⟨a, i, none⟩) (show a < B by omega)
  exact ⟨h.below.trans (k.mono (by omega)), h1, h2, (e _ 0 (by omega)).trans h.a0, (e _ 1 (by omega)).trans h.a1, (e _ 2 (by omega)).trans h.a2, (e _ 0 (by omega)).trans h.a3, (e _ 1 (by omega)).trans h.a4, h.cb.lift k hB⟩
theorem TB.start (h : LW d.W d.H (some ⟨d.ab, d.aoff, none⟩) (some ⟨d.kb, d.koff, none⟩) d.bo d.n d.cap d.m d.kcap d.q d.bcap d.Z d.K d.Y w wr) (hb : Below wr.heap.size wr w1) (hM : wr.heap.size ≤ M) (hC : Cx d M w1) :
    TB d M w w1 (w1.alloc (.cells #[.int .i64 d.W, .int .i64 d.H, d.as, d.ks, d.bs, .map (some M)] 52)) := by
  have h1 := h.size
  have h' := (h.stays hb).stays (Joins.below_alloc1 w1 (.cells #[.int .i64 d.W, .int .i64 d.H, d.as, d.ks, d.bs, .map (some M)] 52))
  exact ⟨h'.below, by have := hb.size; omega, by omega, h'.c0, h'.c1, h'.c2, h'.c3, h'.c4, CB.start hC⟩
end

/-- The way to a number through what a search has written down. -/
inductive Chain (b : Nat → Option Nat) (fr : Nat) : Nat → List Nat → Prop
  | base : Chain b fr fr [fr]
  | step {u p l} : b u = some p → u ≠ fr → Chain b fr p l → Chain b fr u (l ++ [u])
theorem Chain.mono {b : Nat → Option Nat} {fr n v : Nat} (hn : b n = none) {u : Nat} {l : List Nat} (h : Chain b fr u l) : Chain (upd b n v) fr u l := by
  induction h with
  | base => exact .base
  | @step u p l hu hf _ ih =>
    refine .step ?_ hf ih
    rw [upd_other]
    · exact hu
    · intro e; subst e; rw [hn] at hu; cases hu
theorem Chain.last {b : Nat → Option Nat} {fr u : Nat} {l : List Nat} (h : Chain b fr u l) : ∃ l', l = l' ++ [u] := by
  cases h with
  | base => exact ⟨[], rfl⟩
  | step _ _ _ => exact ⟨_, rfl⟩
/-- What a search has found has a way, as long as the list at most. -/
def HasWays (fr : Nat) (L : List Nat) (b : Nat → Option Nat) : Prop := ∀ x, (b x).isSome = true → ∃ l, Chain b fr x l ∧ l.length ≤ L.length
theorem hasWays_upd {adj : Nat → List Nat} {fr S i : Nat} {L : List Nat} {b : Nat → Option Nat} (hi : Inv adj fr S i L b) (h : HasWays fr L b) {n p : Nat} (hn : b n = none) (hp : p ∈ L) : HasWays fr (L ++ [n]) (upd b n p) := by
  intro x hx
  by_cases e : x = n
  · subst e
    obtain ⟨l, hl, hle⟩ := h p ((hi.mem p).2 hp)
    refine ⟨l ++ [x], .step (upd_same _ _ _) ?_ (hl.mono hn), by simp; exact hle⟩
    intro e; subst e; rw [hi.from'] at hn; cases hn
  · rw [upd_other _ _ e] at hx
    obtain ⟨l, hl, hle⟩ := h x hx
    exact ⟨l, hl.mono hn, by simp; omega⟩
def WaysS (fr S : Nat) : BS → Prop
  | .st _ L b => HasWays fr L b
  | .inn _ L b _ => HasWays fr L b
  | .fin b => ∀ x, (b x).isSome = true → ∃ l, Chain b fr x l ∧ l.length ≤ S + 1
theorem getD_mem {L : List Nat} {i : Nat} (h : i < L.length) : L.getD i 0 ∈ L := by
  rw [List.getD_eq_getElem?_getD, List.getElem?_eq_getElem h]; exact List.getElem_mem h
theorem Bf.ways {adj : Nat → List Nat} {fr tg S : Nat} (hf : fr < S) (ha : ∀ t, t < S → ∀ n ∈ adj t, n < S) {s : BS} (h : Bf adj fr tg s) : WaysS fr S s := by
  induction h with
  | start =>
    intro x hx
    by_cases e : x = fr
    · subst e; exact ⟨_, .base, by simp⟩
    · rw [upd_other _ _ e] at hx; cases hx
  | opn _ _ ih => exact ih
  | skip _ _ ih => exact ih
  | add h hb _ ih => exact hasWays_upd (h.inv hf ha).1 ih hb (getD_mem (h.inv hf ha).2.1)
  | @hit i L b n rest h hb _ ih =>
    intro x hx
    have hv := h.inv hf ha
    obtain ⟨l, hl, hle⟩ := hasWays_upd hv.1 ih hb (getD_mem hv.2.1) x hx
    refine ⟨l, hl, ?_⟩
    have := hv.1.len
    simp at hle; omega
  | close _ ih => exact ih
  | done h _ ih =>
    intro x hx
    obtain ⟨l, hl, hle⟩ := ih x hx
    have := (h.inv hf ha).len
    exact ⟨l, hl, by omega⟩
theorem Chain.one {b : Nat → Option Nat} {fr : Nat} {l : List Nat} (h : Chain b fr fr l) : l = [fr] := by
  cases h with
  | base => rfl
  | step _ hf _ => exact absurd rfl hf
end Go.Proofs.Ytkpnngpnjimogaa
