/-
  A range over an iterator that keeps a state of its own in cells: what the iterator owes, what the caller owes.
-/
import Derived.Test.YtokpdjdpeaccbaaGLead
import Derived.RangeFuncNested
import Derived.RangeFuncBound
import Derived.RangeFuncCalls
import Derived.RangeFuncLeaves
import Derived.Shelf.Abstract
import Derived.Shelf.RegionOpen
import Derived.OwnWalkIn
import Derived.TacticsInMore
import Derived.LoopNIn
import Derived.LoopIn
namespace Go.Proofs.Ytokpdjdpeaccbaa
open Go.RowKit

/-- The blocks of Bd apart, and what is new, all lies as it lay. -/
structure KeepB (Bd : Nat → Prop) (w w' : World) : Prop where
  os : w'.os = w.os
  tape : w'.tape = w.tape
  output : w'.output = w.output
  size : w.heap.size ≤ w'.heap.size
  block : ∀ k, k < w.heap.size → ¬ Bd k → w'.heap[k]? = w.heap[k]?
theorem KeepB.refl (Bd : Nat → Prop) (w : World) : KeepB Bd w w := ⟨rfl, rfl, rfl, Nat.le_refl _, fun _ _ _ => rfl⟩
theorem KeepB.trans {Bd : Nat → Prop} {a b c : World} (h : KeepB Bd a b) (k : KeepB Bd b c) : KeepB Bd a c :=
  ⟨k.os.trans h.os, k.tape.trans h.tape, k.output.trans h.output, Nat.le_trans h.size k.size, fun i hi hn => (k.block i (Nat.lt_of_lt_of_le hi h.size) hn).trans (h.block i hi hn)⟩
theorem KeepB.mono {Bd Bd' : Nat → Prop} {a b : World} (h : KeepB Bd a b) (hs : ∀ k, Bd k → Bd' k) : KeepB Bd' a b := ⟨h.os, h.tape, h.output, h.size, fun k hk hn => h.block k hk (fun hb => hn (hs k hb))⟩
theorem KeepB.of_below {Bd : Nat → Prop} {w w' : World} (h : Below w.heap.size w w') : KeepB Bd w w' := ⟨h.os, h.tape, h.output, h.size, fun k hk _ => h.block k hk⟩
theorem KeepB.below {Bd : Nat → Prop} {n : Nat} {w w' : World} (h : KeepB Bd w w') (hn : n ≤ w.heap.size) (hb : ∀ k, k < n → ¬ Bd k) : Below n w w' := ⟨h.os, h.tape, h.output, h.size, fun k hk => h.block k (by omega) (hb k hk)⟩
theorem keepB_putObj (w : World) (l : Nat) (o : Obj) : KeepB (fun k => k = l) w (w.putObj l o) := by
  have g := grownBy_putObj' w l o
  exact ⟨g.os, g.tape, g.output, g.size, fun k hk hn => g.block k hk (fun e => hn (by cases e; rfl))⟩
theorem putObj_size (w : World) (l : Nat) (o : Obj) : (w.putObj l o).heap.size = w.heap.size := by simp [World.putObj]

section
variable {α : Type} {P : Program}
/-- What an iterator owes: it hands over what is a run, bit by bit, whatever is done in between to the blocks of Bd. -/
def SeqW (n : Nat) (P : Program) (g : Nat) (lb : Array Value) (encs : α → Array Value) (Bd : Nat → Prop) (Run S Sp : List α → Prop) (w0 : World) : Prop :=
  ∀ (l : Nat) (J Jx : List α → World → Prop) (W : World), Below w0.heap.size w0 W → (∀ k, Bd k → k < W.heap.size) →
    (∀ s A A', J s A → W.heap.size ≤ A.heap.size → Below W.heap.size A A' → J s A') →
    (∀ s A A', Jx s A → W.heap.size ≤ A.heap.size → Below W.heap.size A A' → Jx s A') →
    (∀ pre x W1, J pre W1 → W.heap.size ≤ W1.heap.size → Run (pre ++ [x]) → YieldAt Fence.wide (n - 1) P l (encs x) W1 fun e W' =>
      (e = .returned (.bool true) ∧ J (pre ++ [x]) W' ∧ KeepB Bd W1 W') ∨ (e = .returned (.bool false) ∧ Jx (pre ++ [x]) W' ∧ KeepB Bd W1 W')) →
    J [] W → CallsIn Fence.wide n P g (#[.func (.yield l) #[] #[]] ++ lb) W fun e W' => (∃ v, e = .returned v) ∧ ((∃ xs, S xs ∧ J xs W') ∨ (∃ pre, Sp pre ∧ Jx pre W'))
/-- How the body of a round may be left. -/
def roundEnd (Bd : Nat → Prop) (I : List α → World → Prop) (Ix : Code → List α → World → Prop) (xs : List α) (W : World) : Exit → Act → World → Prop
  | .normal, _, W' => KeepB Bd W W' ∧ I xs W'
  | .ret, _, W' => KeepB Bd W W' ∧ Ix .ret xs W'
  | .exit id, _, W' => KeepB Bd W W' ∧ Ix (.exit id) xs W'
  | .goto t, _, W' => KeepB Bd W W' ∧ Ix (.goto t) xs W'
  | .panic _, _, _ => False
  | .outgrown, _, _ => False
/-- The law for the caller. -/
theorem range_law {n : Nat} {g : Operand} {ps : Array Tmp} {assign body : Code} {Q : Exit → Act → World → Prop} {a : Act} {w : World}
    {gf : Nat} {lb : Array Value} (hg : a.eval g = .func (.func gf) #[] lb) (eg : ∀ args w, (callFunc gf args).run P w = .ok (.enter gf args) w)
    {encs : α → Array Value} {Bd : Nat → Prop} {Run S Sp : List α → Prop} (hseq : SeqW (n - 1) P gf lb encs (fun k => k = w.heap.size + 1 ∨ Bd k) Run S Sp w)
    (hBd : ∀ k, Bd k → k < w.heap.size) (hps : ∀ x, (encs x).size = ps.size)
    (I : List α → World → Prop) (Ix : Code → List α → World → Prop)
    (hI : ∀ s A A', I s A → w.heap.size ≤ A.heap.size → Below w.heap.size A A' → I s A') (hIx : ∀ c s A A', Ix c s A → w.heap.size ≤ A.heap.size → Below w.heap.size A A' → Ix c s A') (h0 : I [] w)
    (hround : ∀ (pre : List α) (x : α) (W : World), I pre W → w.heap.size + 2 ≤ W.heap.size → Run (pre ++ [x]) →
      assign.wpIn (Fence.wide.inRound (w.heap.size + 1)) (n - 1 - 1) P (Exit.then (fun a₁ w₁ => KeepB Bd W w₁ ∧ ∀ w₂, KeepB (fun k => k = w.heap.size + 1) w₁ w₂ → w₂.heap.size = w₁.heap.size →
        body.wpIn (Fence.wide.inRound (w.heap.size + 1)) (n - 1 - 1) P (roundEnd Bd I Ix (pre ++ [x]) w₂) a₁ w₂) (fun _ _ _ => False))
      { tmps := (ps.zip (encs x)).foldl (fun t (p, v) => t.setIfInBounds p v) a.tmps, defers := [] } W)
    (hdone : ∀ (xs : List α) (W : World), S xs → I xs W → w.heap.size ≤ W.heap.size → W.heap[w.heap.size]? = some (.deferred (some [])) → Q .normal { a with defers := { target := .collected w.heap.size, args := #[] } :: a.defers } W)
    (hstop : ∀ (c : Code) (pre : List α) (W : World), Sp pre → Ix c pre W → w.heap.size ≤ W.heap.size → W.heap[w.heap.size]? = some (.deferred (some [])) → c.wpIn Fence.wide n P Q { a with defers := { target := .collected w.heap.size, args := #[] } :: a.defers } W) :
    (Code.rangeFunc g ps assign body).wpIn Fence.wide n P Q a w := by
  obtain ⟨D, hD⟩ : ∃ D, w.heap.size = D := ⟨_, rfl⟩
  obtain ⟨l, hl⟩ : ∃ l, D + 1 = l := ⟨_, rfl⟩
  have hlD : w.heap.size + 1 = l := by omega
  rw [hlD] at hround hseq
  refine wpIn_rangeFunc (fun fn _ => ?_)
  obtain ⟨R, hR⟩ : ∃ R : LoopState → Option Code → Loop, R = fun st pe => { state := st, pending := pe, fn, tmps := a.tmps, params := ps, assign, body, defers := w.heap.size } := ⟨_, rfl⟩
  obtain ⟨W1, hW1⟩ : ∃ W1, (w.alloc (.deferred (some []))).alloc (.loop (R .ready none)) = W1 := ⟨_, rfl⟩
  have hz1 : W1.heap.size = l + 1 := by rw [← hW1]; simp; omega
  have hb1 : Below w.heap.size w W1 := by rw [← hW1]; exact Joins.below_alloc2 _ _ _
  have hl1 : W1.heap[l]? = some (.loop (R .ready none)) := by
    rw [← hW1, ← hlD]
    have := heap_new (w.alloc (.deferred (some []))) (.loop (R .ready none))
    rwa [World.size_alloc] at this
  have hd1 : W1.heap[D]? = some (.deferred (some [])) := by
    rw [← hW1, ← hD]
    exact (Below.heap_alloc _ _ _ (by simp)).trans (heap_new w _)
  refine ⟨w.heap.size + 1, [{ target := .collected w.heap.size, args := #[] }], W1, { target := .fn (.func gf) lb, args := #[.func (.yield l) #[] #[]] }, W1, gf,
    #[.func (.yield l) #[] #[]] ++ lb, W1, ?_, ?_, fun _ _ => trivial, ?_, (fun h => by cases h), ?_⟩
  · rw [← hW1, hR]; exact run_enterLoop_outer fn a.tmps ps assign body
  · rw [hlD]
    simp only [resolve, hg]
    simp [go_sem]
  · simp [invoke, go_sem, eg]
  · rw [hlD]
    have hIb : ∀ s A A', I s A → W1.heap.size ≤ A.heap.size → Below W1.heap.size A A' → I s A' := fun s A A' h hs hb => hI s A A' h (by omega) (hb.mono (by omega))
    have hput : ∀ {s} {A : World} (o : Obj), I s A → W1.heap.size ≤ A.heap.size → I s (A.putObj l o) := fun o h hs => hI _ _ _ h (by omega) ((keepB_putObj _ l o).below (by omega) (fun k hk e => by omega))
    have hputx : ∀ {c s} {A : World} (o : Obj), Ix c s A → W1.heap.size ≤ A.heap.size → Ix c s (A.putObj l o) := fun o h hs => hIx _ _ _ _ h (by omega) ((keepB_putObj _ l o).below (by omega) (fun k hk e => by omega))
    refine (hseq l (fun pre W => I pre W ∧ W.heap[l]? = some (.loop (R .ready none)) ∧ W.heap[D]? = some (.deferred (some [])) ∧ W1.heap.size ≤ W.heap.size)
      (fun pre W => ∃ c, Ix c pre W ∧ W.heap[l]? = some (.loop (R .done (some c))) ∧ W.heap[D]? = some (.deferred (some [])) ∧ W1.heap.size ≤ W.heap.size) W1 hb1
      (fun k hk => hk.elim (fun h => by omega) (fun h => by have := hBd k h; omega))
      (fun s A A' h hs hb => ⟨hIb s A A' h.1 hs hb, (hb.block l (by omega)).trans h.2.1, (hb.block D (by omega)).trans h.2.2.1, Nat.le_trans hs hb.size⟩)
      (fun s A A' h hs hb => by
        obtain ⟨c, hc, h2, h3, h4⟩ := h
        exact ⟨c, hIx c s A A' hc (by omega) (hb.mono (by omega)), (hb.block l (by omega)).trans h2, (hb.block D (by omega)).trans h3, Nat.le_trans hs hb.size⟩)
      ?_ ⟨by rw [← hW1]; exact hI _ _ _ h0 (Nat.le_refl _) (Joins.below_alloc2 _ _ _), hl1, hd1, Nat.le_refl _⟩).mono ?_
    · -- one round
      rintro pre x W ⟨hi, hlr, hdr, hsz⟩ _ hrun
      have hy := run_yield (P := P) (args := encs x) hlr (by rw [hR]; exact hps x)
      rw [hR] at hy
      refine ⟨fn, _, assign, body, hy, roundIn_of_wpIn trivial ?_⟩
      refine wpIn_mono (hround pre x W hi (by omega) hrun) ?_
      intro e a₁ w₁ hp
      cases e with
      | normal =>
        obtain ⟨hk1, hbody⟩ := hp
        have hl2 : w₁.heap[l]? = some (.loop (R .ready none)) := (hk1.block l (by omega) (fun h => by have := hBd l h; omega)).trans hlr
        have hd2 : w₁.heap[D]? = some (.deferred (some [])) := (hk1.block D (by omega) (fun h => by have := hBd D h; omega)).trans hdr
        refine ⟨_, run_beginRound hl2 (by rw [hR]), ?_⟩
        have hl3 : (w₁.putObj l (.loop { R .ready none with state := .busy })).heap[l]? = some (.loop { R .ready none with state := .busy }) := World.putObj_heap_same (heap_lt hl2)
        have hd3 : (w₁.putObj l (.loop { R .ready none with state := .busy })).heap[D]? = some (.deferred (some [])) := (World.putObj_heap_other (by omega)).trans hd2
        have hk2 := keepB_putObj w₁ l (.loop { R .ready none with state := .busy })
        have hz2 := putObj_size w₁ l (.loop { R .ready none with state := .busy })
        have hk1s := hk1.size
        have fin : ∀ (jump : Option Code) (W3 : World), KeepB Bd (w₁.putObj l (.loop { R .ready none with state := .busy })) W3 →
            (Instr.endRound l jump).run P W3 = .ok (.bool jump.isNone) (W3.putObj l (.loop (R (if jump.isNone then .ready else .done) jump))) ∧
            (W3.putObj l (.loop (R (if jump.isNone then .ready else .done) jump))).heap[l]? = some (.loop (R (if jump.isNone then .ready else .done) jump)) ∧
            (W3.putObj l (.loop (R (if jump.isNone then .ready else .done) jump))).heap[D]? = some (.deferred (some [])) ∧ W1.heap.size ≤ W3.heap.size ∧
            KeepB (fun k => k = l ∨ Bd k) W (W3.putObj l (.loop (R (if jump.isNone then .ready else .done) jump))) := fun jump W3 hk3 => by
          have hl4 := (hk3.block l (by omega) (fun h => by have := hBd l h; omega)).trans hl3
          have hd4 := (hk3.block D (by omega) (fun h => by have := hBd D h; omega)).trans hd3
          have he := run_endRound (P := P) jump hl4
          have hs3 := hk3.size
          refine ⟨?_, World.putObj_heap_same (heap_lt hl4), (World.putObj_heap_other (by omega)).trans hd4, by omega, ?_⟩
          · rw [hR] at he ⊢; exact he
          · exact ((hk1.mono (fun k h => .inr h)).trans (hk2.mono (fun k h => .inl h))).trans ((hk3.mono (fun k h => .inr h)).trans ((keepB_putObj W3 l _).mono (fun k h => .inl h)))
        refine wpIn_mono (hbody _ hk2 hz2) ?_
        intro e a3 W3 hp
        cases e with
        | normal =>
          obtain ⟨hr, h1, h2, h3, h4⟩ := fin none W3 hp.1
          exact ⟨_, _, hr, .inl ⟨rfl, ⟨hput _ hp.2 h3, h1, h2, by rw [putObj_size]; exact h3⟩, h4⟩⟩
        | ret =>
          obtain ⟨hr, h1, h2, h3, h4⟩ := fin (some .ret) W3 hp.1
          exact ⟨_, _, hr, .inr ⟨rfl, ⟨.ret, hputx _ hp.2 h3, h1, h2, by rw [putObj_size]; exact h3⟩, h4⟩⟩
        | exit id =>
          obtain ⟨hr, h1, h2, h3, h4⟩ := fin (some (.exit id)) W3 hp.1
          exact ⟨_, _, hr, .inr ⟨rfl, ⟨.exit id, hputx _ hp.2 h3, h1, h2, by rw [putObj_size]; exact h3⟩, h4⟩⟩
        | goto t =>
          obtain ⟨hr, h1, h2, h3, h4⟩ := fin (some (.goto t)) W3 hp.1
          exact ⟨_, _, hr, .inr ⟨rfl, ⟨.goto t, hputx _ hp.2 h3, h1, h2, by rw [putObj_size]; exact h3⟩, h4⟩⟩
        | panic ch => exact hp.elim
        | outgrown => exact hp.elim
      | ret => exact hp.elim
      | exit id => exact hp.elim
      | goto t => exact hp.elim
      | panic ch => exact hp.elim
      | outgrown => exact hp.elim
    · -- behind the iterator
      rintro e W2 ⟨⟨v, rfl⟩, (⟨xs, hS, hi, hlr, hdr, hsz⟩ | ⟨pre, hSp, c, hi, hlr, hdr, hsz⟩)⟩
      · have hr := run_endLoop (P := P) hlr (by rw [hR]; simp)
        have hp : (R .ready none).pending = none := by rw [hR]
        rw [hp] at hr
        obtain ⟨o, hr⟩ : ∃ o, (Instr.endLoop l).run P W2 = .ok none (W2.putObj l o) := ⟨_, hr⟩
        exact ⟨none, _, hr, hdone xs (W2.putObj l o) hS (hput _ hi hsz) (by rw [putObj_size]; omega) (by rw [hD]; exact (World.putObj_heap_other (by omega)).trans hdr)⟩
      · have hr := run_endLoop (P := P) hlr (by rw [hR]; simp)
        have hp : (R .done (some c)).pending = some c := by rw [hR]
        rw [hp] at hr
        obtain ⟨o, hr⟩ : ∃ o, (Instr.endLoop l).run P W2 = .ok (some c) (W2.putObj l o) := ⟨_, hr⟩
        exact ⟨some c, _, hr, hstop c pre (W2.putObj l o) hSp (hputx _ hi hsz) (by rw [putObj_size]; omega) (by rw [hD]; exact (World.putObj_heap_other (by omega)).trans hdr)⟩
end
end Go.Proofs.Ytokpdjdpeaccbaa
