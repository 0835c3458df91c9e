/-
  The walk of known: Least on the document's example.
-/
import Derived.Test.YtokpdjdpeaccbaaGLe2
namespace Go.Proofs.Ytokpdjdpeaccbaa
open Go.RowKit

def kF : Nat → Nat | 0 => 1 | 1 => 2 | _ => 2
def kT : Nat → Nat | 0 => 0 | 1 => 1 | _ => 0
def kC : Nat → Nat | 0 => 3 | 1 => 1 | _ => 4
def kG : Gr := ⟨3, kF, kT, kC⟩
theorem kG_wk {v c k : Nat} (h : Wk kG (fun v => ∃ j, j < 1 ∧ (fun _ => 2) j = v) v c k) : (v = 2 ∧ c = 0 ∧ k = 0) ∨ (v = 1 ∧ c = 1 ∧ k = 1) ∨ (v = 0 ∧ c = 4 ∧ (k = 1 ∨ k = 2)) := by
  induction h with
  | nil h => obtain ⟨_, _, rfl⟩ := h; exact .inl ⟨rfl, rfl, rfl⟩
  | @step u c k i _ hi hf ih =>
    have hi3 : i < 3 := hi
    have h3 : i = 0 ∨ i = 1 ∨ i = 2 := by omega
    rcases h3 with rfl | rfl | rfl
    · have h1 : (1 : Nat) = u := hf
      show ((0 : Nat) = 2 ∧ c + 3 = 0 ∧ k + 1 = 0) ∨ ((0 : Nat) = 1 ∧ c + 3 = 1 ∧ k + 1 = 1) ∨ ((0 : Nat) = 0 ∧ c + 3 = 4 ∧ (k + 1 = 1 ∨ k + 1 = 2))
      omega
    · have h1 : (2 : Nat) = u := hf
      show ((1 : Nat) = 2 ∧ c + 1 = 0 ∧ k + 1 = 0) ∨ ((1 : Nat) = 1 ∧ c + 1 = 1 ∧ k + 1 = 1) ∨ ((1 : Nat) = 0 ∧ c + 1 = 4 ∧ (k + 1 = 1 ∨ k + 1 = 2))
      omega
    · have h1 : (2 : Nat) = u := hf
      show ((0 : Nat) = 2 ∧ c + 4 = 0 ∧ k + 1 = 0) ∨ ((0 : Nat) = 1 ∧ c + 4 = 1 ∧ k + 1 = 1) ∨ ((0 : Nat) = 0 ∧ c + 4 = 4 ∧ (k + 1 = 1 ∨ k + 1 = 2))
      omega
theorem kG_opt2 : Opt kG (fun v => ∃ j, j < 1 ∧ (fun _ => 2) j = v) 2 0 0 := opt_src ⟨0, by omega, rfl⟩
theorem kG_opt0 : Opt kG (fun v => ∃ j, j < 1 ∧ (fun _ => 2) j = v) 0 4 1 :=
  ⟨Wk.step (G := kG) 2 (.nil ⟨0, by omega, rfl⟩) (by show 2 < 3; omega) rfl, fun c k h => by have := kG_wk h; omega⟩
theorem kG_is {xs : List Wy} (hr : (ledBy kG 1 (fun _ => 2)).Run xs) (hf : (ledBy kG 1 (fun _ => 2)).Fin xs) :
    bestOf (tbl xs) 1 (fun _ => 0) = ⟨0, 4, 2, 0⟩ ∧ ∀ l, Tr (tbl xs) 0 l → l = [0, 2] := by
  obtain ⟨_, a1, a2, aF⟩ := tbl_found hr hf kG_opt0
  obtain ⟨b0, _, _, bF⟩ := tbl_found hr hf kG_opt2
  refine ⟨?_, fun l hl => ?_⟩
  · show stepB (tbl xs) nilW 0 = _
    unfold stepB
    rw [if_pos ⟨by omega, .inl rfl⟩]
    simp only [cw, a1, a2]
    rfl
  · have h2 : (tbl xs 2).nx = -1 := by rw [bF.one ⟨0, by omega, b0.symm⟩]; rfl
    have h0 : (tbl xs 0).nx = ((2 : Nat) : Int) := by
      obtain ⟨i, c, k, hi, ht, hx, ho, hc, hk⟩ := aF.next (by omega)
      have := kG_wk ho.1
      have : kG.f i = 2 := by omega
      rw [hx, this]
    match l, hl with
    | [], hl => exact absurd hl.nil' (by decide)
    | u :: l, hl =>
      obtain ⟨hu, hl⟩ := hl.cons'
      obtain rfl : u = 0 := by omega
      rw [h0] at hl
      match l, hl with
      | [], hl => exact absurd hl.nil' (by decide)
      | u :: l, hl =>
        obtain ⟨hu, hl⟩ := hl.cons'
        obtain rfl : u = 2 := by omega
        rw [h2] at hl
        match l, hl with
        | [], hl => rfl
        | u :: l, hl => exact absurd hl.cons'.1 (by omega)
def kE (i : Nat) : Ed := ⟨kT i, kF i, kC i⟩
theorem k_err : NErr ((3 : Nat) : Int) 3 kE (1 + 1) (fun j => if j < 1 then (((fun _ => 0 : Nat → Nat) j : Nat) : Int) else (((fun _ => 2 : Nat → Nat) (j - 1) : Nat) : Int)) = 0 := by decide
theorem lay3 (w : World) (x y z : Array Value) (s t u : TypeId) (W : World) (hW : ((w.alloc (.cells x s)).alloc (.cells y t)).alloc (.cells z u) = W) :
    W.heap[w.heap.size]? = some (.cells x s (0, 0)) ∧ W.heap[w.heap.size + 1]? = some (.cells y t (0, 0)) ∧ W.heap[w.heap.size + 1 + 1]? = some (.cells z u (0, 0)) ∧ Below w.heap.size w W ∧ W.heap.size = w.heap.size + 3 := by
  subst hW
  refine ⟨?_, ?_, ?_, (Joins.below_alloc2 _ _ _).alloc (by simp; omega) _, by simp⟩
  · exact (Below.heap_alloc _ _ _ (by simp; omega)).trans ((Below.heap_alloc _ _ _ (by simp)).trans (heap_new _ _))
  · have := heap_new (w.alloc (.cells x s)) (.cells y t)
    rw [World.size_alloc] at this
    exact (Below.heap_alloc _ _ _ (by simp)).trans this
  · have := heap_new ((w.alloc (.cells x s)).alloc (.cells y t)) (.cells z u)
    rw [World.size_alloc, World.size_alloc] at this
    exact this
theorem k_eds {w : World} {b : Nat} (h : w.heap[b]? = some (.cells #[.int .i64 0, .int .i64 1, .int .i64 3, .int .i64 1, .int .i64 2, .int .i64 1, .int .i64 0, .int .i64 2, .int .i64 4] 41 (0, 0))) : Eds w (some ⟨b, 0, none⟩) kG.m kE := fun j hj => by
  have hj3 : j < 3 := hj
  have h3 : j = 0 ∨ j = 1 ∨ j = 2 := by omega
  refine ⟨b, 0, rfl, heap_lt h, ?_⟩
  rcases h3 with rfl | rfl | rfl
  · exact ⟨cell_of_row _ _ 0 _ _ _ h, cell_of_row _ _ 1 _ _ _ h, cell_of_row _ _ 2 _ _ _ h⟩
  · exact ⟨cell_of_row _ _ 3 _ _ _ h, cell_of_row _ _ 4 _ _ _ h, cell_of_row _ _ 5 _ _ _ h⟩
  · exact ⟨cell_of_row _ _ 6 _ _ _ h, cell_of_row _ _ 7 _ _ _ h, cell_of_row _ _ 8 _ _ _ h⟩
theorem k_int {w : World} {b : Nat} {x : Nat} (h : w.heap[b]? = some (.cells #[.int .i64 (x : Int)] 3 (0, 0))) : Ints w (some ⟨b, 0, none⟩) 1 (fun j => (((fun _ => x : Nat → Nat) j : Nat) : Int)) := fun j hj => by
  obtain rfl : j = 0 := by omega
  exact ⟨b, 0, rfl, heap_lt h, cell_of_row _ _ 0 _ _ _ h⟩
set_option maxRecDepth 100000 in
set_option maxHeartbeats 3200000 in
theorem known_any (w : World) : Calls Try.prog 17 #[] w fun e w' => e = .returned (.bool true) ∧ Below w.heap.size w w' := by
  go_enter Try.func17, Try.ntmps17
  go_wp2_with fail
  obtain ⟨W, hW⟩ : ∃ W, ((w.alloc (.cells #[.int .i64 0, .int .i64 1, .int .i64 3, .int .i64 1, .int .i64 2, .int .i64 1, .int .i64 0, .int .i64 2, .int .i64 4] 41)).alloc (.cells #[.int .i64 0] 3)).alloc (.cells #[.int .i64 2] 3) = W := ⟨_, rfl⟩
  obtain ⟨h1, h2, h3, hb, hz⟩ := lay3 _ _ _ _ _ _ _ _ hW
  rw [hW]
  refine (least_ok 3 3 1 1 1 1 kG kE _ _ _ (fun _ => 2) (fun _ => 0) (by omega) (by show 3 ≤ 10000; omega) (by omega) (by omega) (fun i _ => rfl) (fun i hi => ?_) (fun _ _ => by omega) (fun _ _ => by omega) k_err W (k_eds h1) (k_int h2) (k_int h3)).mono ?_
  · have hi3 : i < 3 := hi
    have h3 : i = 0 ∨ i = 1 ∨ i = 2 := by omega
    rcases h3 with rfl | rfl | rfl <;> decide
  · rintro e w2 ⟨xs, hr, hf, hb2, hc⟩
    obtain ⟨k1, k2⟩ := kG_is hr hf
    rw [k1] at hc
    have HB := hid (hb.trans (hb2.mono (by omega)))
    rcases hc with ⟨h, _⟩ | ⟨_, l, v, hl, rfl, hrow⟩
    · exact absurd h (by decide)
    · obtain rfl := k2 l hl
      obtain ⟨vo, vc, rfl⟩ := row_slice hrow
      obtain ⟨g, c, e, _, hgl⟩ := hrow.form (by decide)
      cases e
      have c0 : w2.cell? ⟨g, 0, none⟩ = some (.int .i64 0) := (hrow.cellAt 0 (by decide)).trans rfl
      have c1 : w2.cell? ⟨g, 1, none⟩ = some (.int .i64 2) := (hrow.cellAt 1 (by decide)).trans rfl
      clear hr hf hb2 hl hrow k1 k2 hb h1 h2 h3 hz hW hgl
      go_wp2_with fail
      go_ret
      exact ⟨rfl, HB.out⟩
end Go.Proofs.Ytokpdjdpeaccbaa
