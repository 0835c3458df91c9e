/-
  append of a list of parcels onto an empty one.
-/
import Derived.Test.YtnfcibcpmaehoaaQRow
namespace Go.Proofs.Ytnfcibcpmaehoaa
open Go.RowKit

/-- append of any list of parcels onto an empty one that has just been made. -/
theorem wpList_append_fresh {ops : Array Oper} {rest : List Oper} {o : Oper} {a : Act} {Q : Exit → Act → World → Prop} (w : World) (hgd : o.guard = none) (s x : Operand)
    (ho : o.op = .call { callee := .builtin .append, args := #[s, x], argTypes := #[22, 22] }) (hty : o.type = 22) (hs : a.eval s = .slice (some ⟨w.heap.size, 0, none⟩) 0 0) (po : Option Addr) (n cc : Nat) (P : Nat → Par) (hx : a.eval x = .slice po n cc) (hP : Pars w po n P) (hn : n ≤ 100000)
    (h : ∀ vo c w', RowP w' w.heap.size (.slice vo n c) n P → Below w.heap.size w w' → wpList Try.prog ops Q rest (a.put o.dst (.slice vo n c)) w') : wpList Try.prog ops Q (o :: rest) a (w.alloc (.cells #[] 36)) := by
  obtain ⟨i0, hi0, hi1, hi2, hi3⟩ := info_parts infoP
  have hmade : (w.alloc (.cells #[] 36)).ownsRow w.heap.size 36 6 (.slice (some ⟨w.heap.size, 0, none⟩) 0 0) 0 [] := World.ownsRow_made w #[] 0 (Nat.le_refl _) (Nat.zero_le _) rfl
  have hbw : Below w.heap.size w (w.alloc (.cells #[] 36)) := (Below.refl _ w).alloc (Nat.le_refl _) _
  by_cases h0 : n = 0
  · subst h0
    refine wpList_zeroP _ hgd s x ho hty w.heap.size hs po cc hx ?_
    exact h _ _ _ hmade hbw
  · obtain ⟨b, off, rfl, hz, hc⟩ := hP.one (by omega)
    refine wpList_append_own _ hgd s x 22 ho w.heap.size 36 i0 (.agg #[.int .i64 0, .int .i64 0, .int .i64 0, .int .i64 0, .int .i64 0, .int .i64 0]) 6 48 Try.underlying22 hi0 hi1 hi2 hi3 rfl (by decide) _ _ _ hs hmade ⟨b, off, none⟩ n cc (encP n P) hx (encP_length _ _) (fun j u hj => ?_) (fun u hu => ?_) (by unfold maxLen; omega) (by omega) (by simp) (fun v' w1 hown hgrow _ => ?_)
    · rw [Addr.add_lit]
      exact Lib.cell?_alloc_some _ (hc j u hj)
    · obtain ⟨i, _, hi⟩ := List.mem_flatMap.1 hu
      simp [pc] at hi
      rcases hi with rfl | rfl | rfl | rfl | rfl | rfl <;> rfl
    · have hrow : w1.ownsRow w.heap.size 36 6 v' n (encP n P) := by simpa using hown
      obtain ⟨so, sc, rfl⟩ := row_slice hrow
      have hbel : Below w.heap.size w w1 := hbw.grown hgrow (by simp) (by intro k hk; simp [Value.ownBlock] at hk; omega)
      have := h so sc w1 hrow hbel
      simpa using this
end Go.Proofs.Ytnfcibcpmaehoaa
