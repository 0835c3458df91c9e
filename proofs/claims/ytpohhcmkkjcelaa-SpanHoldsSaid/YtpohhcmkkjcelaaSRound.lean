/-
  A region that draws, in a round of a range over a function: walked as anywhere.
-/
import Derived.Test.YtpohhcmkkjcelaaSIter
import Derived.Deep.RegionHeld3
namespace Go.Proofs.Ytpohhcmkkjcelaa
open Go.RowKit

/-- No statement of these defers a call. -/
def noDefer (o : Oper) : Bool := match o.op with
  | .defer _ => false
  | _ => true
theorem rows_in {n : Nat} {P : Program} {row : String} {args : Array Value} {w : World} {R : Value → World → Prop} {l : Nat} (h : Rows P row args w R) : RowsIn (Fence.wide.inRound l) n P row args w R := fun c cs _ => by
  obtain ⟨v, w', r, s⟩ := h c cs
  exact ⟨v, w', r, stepsIn_wide.2 s⟩
theorem ops_in_round {l n : Nat} {P : Program} {ops : Array Oper} {Q : Exit → Act → World → Prop} (hnd : ops.all noDefer = true) (hlo : ¬ LetsOut Q) :
    ∀ (L : List Nat) (a : Act) (w : World), wpOps P ops Q L a w → wpOpsIn (Fence.wide.inRound l) n P ops Q L a w
  | [], _, _, h => h
  | i :: rest, a, w, h => by
    have ih := ops_in_round (l := l) (n := n) (P := P) hnd hlo rest
    unfold wpOps at h
    unfold wpOpsIn
    cases ho : ops[i]? with
    | none => rw [ho] at h; exact ih _ _ h
    | some o =>
      rw [ho] at h
      simp only at h ⊢
      have hd : ∀ c, o.op ≠ .defer c := by
        intro c hc
        have hm : o ∈ ops := Array.mem_of_getElem? ho
        have := Array.all_eq_true_iff_forall_mem.1 hnd o hm
        unfold noDefer at this
        rw [hc] at this
        simp at this
      by_cases hw : Region.wanted o (yielded ops a.tmps) = true
      · rw [if_pos hw] at h ⊢
        have h' : o.wp P a w (wpOps P ops Q rest) Q := h.resolve_right fun k => hlo k.2
        refine ⟨fun _ _ => trivial, ?_⟩
        rw [show (Fence.wide.inRound l).round = some l from rfl, Oper.semAt_eq _ _ _ hd]
        unfold Oper.wp at h'
        generalize (execOp a.eval o).run P w = r at h'
        cases r with
        | ok nx w' =>
          cases nx with
          | value v => exact ih _ _ h'
          | skip => exact ih _ _ h'
          | defer d => exact ih _ _ h'
          | enter f args =>
            refine ⟨fun h => (by cases h), ?_⟩
            refine CallsIn.inRound l (callsIn_wide.2 (Calls.mono h' fun e w'' he => ?_))
            cases e with
            | returned v => exact ih _ _ he
            | panicked c => exact he
            | outgrown => exact he
          | row row args =>
            refine ⟨fun h => (by cases h), ?_⟩
            exact rows_in (Rows.mono h' fun v w'' he => ih _ _ he)
          | round l f tmps assign body => exact (h' : False).elim
          | _ => exact (h' : False).elim
        | halt x w' =>
          cases x with
          | panic v => exact h'
          | _ => exact (h' : False).elim
      · rw [if_neg hw] at h ⊢
        exact ⟨fun _ _ => trivial, ih _ _ h⟩
/-- A region that draws, in a round. -/
theorem wpIn_region_round {l n : Nat} {P : Program} {ops : Array Oper} {Q : Exit → Act → World → Prop} {id : Nat} {a : Act} {w : World} {S : World → Prop} (hm : P.follows .mixedOrders = true) (hnd : ops.all noDefer = true) (hlo : ¬ LetsOut Q) (hS : S w.drew)
    (h : S w.drew → wpAnyH P .any ops (NoPanic Q) S ops.size (Array.replicate ops.size false) a w.drew) : (Code.region id ops true).wpIn (Fence.wide.inRound l) n P Q a w := by
  refine wpIn_mono ?_ NoPanic.imp
  refine wpIn_region_draw fun t => ?_
  refine ops_in_round hnd (fun ⟨a, w, k⟩ => hlo ⟨a, w, NoPanic.imp _ _ _ k⟩) _ _ _ ?_
  simp only [Region.schedule, hm, Bool.true_or, if_true]
  exact wpAny_sound ops.size t _ a _ (wpAny_of_held _ _ _ _ (h hS))
end Go.Proofs.Ytpohhcmkkjcelaa
