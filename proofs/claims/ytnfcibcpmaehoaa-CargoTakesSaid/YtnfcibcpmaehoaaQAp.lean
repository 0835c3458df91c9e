/-
  append of any list of parcels onto a row of them.
-/
import Derived.Test.YtnfcibcpmaehoaaQRl
import Derived.Deep.Upon
import Derived.Deep.AppendSrc
namespace Go.Proofs.Ytnfcibcpmaehoaa
open Go.RowKit

theorem lf_left (l x : List Par) {i : Nat} (h : i < l.length) : lf (l ++ x) i = lf l i := by
  rw [lf_at _ h, lf_at _ (by simp; omega), List.getElem_append_left h]
theorem lf_right (l x : List Par) {i : Nat} (h : i < x.length) : lf (l ++ x) (l.length + i) = lf x i := by
  rw [lf_at _ h, lf_at _ (by simp; omega), List.getElem_append_right (by omega)]
  congr 1; omega
theorem encP_app (l x : List Par) : encP (l.length + x.length) (lf (l ++ x)) = encP l.length (lf l) ++ encP x.length (lf x) := by
  have h : ∀ m, m ≤ x.length → encP (l.length + m) (lf (l ++ x)) = encP l.length (lf l) ++ encP m (lf x) := by
    intro m
    induction m with
    | zero =>
      intro _
      rw [Nat.add_zero, encP_congr fun i hi => lf_left l x hi]
      simp [encP]
    | succ m ih =>
      intro hm
      rw [← Nat.add_assoc, encP_succ, ih (by omega), encP_succ, lf_right l x (by omega), List.append_assoc]
  exact h _ (Nat.le_refl _)
/-- A part of the parcels at an address. -/
theorem Pars.left {w : World} {po : Option Addr} {l x : List Par} (h : Pars w po (l ++ x).length (lf (l ++ x))) : Pars w po l.length (lf l) := fun j hj => by
  have := h j (by simp; omega)
  rw [lf_left l x hj] at this
  exact this
theorem Pars.right {w : World} {b off : Nat} {l x : List Par} (h : Pars w (some ⟨b, off, none⟩) (l ++ x).length (lf (l ++ x))) : Pars w (some ⟨b, off + l.length * 6, none⟩) x.length (lf x) := fun j hj => by
  obtain ⟨b', o', e, hb, h0, h1, h2, h3, h4, h5⟩ := h (l.length + j) (by simp; omega)
  cases e
  rw [lf_right l x hj] at h0 h1 h2 h3 h4 h5
  refine ⟨b, _, rfl, hb, ?_, ?_, ?_, ?_, ?_, ?_⟩
  · rw [show off + l.length * 6 + j * 6 = off + (l.length + j) * 6 by omega]; exact h0
  · rw [show off + l.length * 6 + j * 6 = off + (l.length + j) * 6 by omega]; exact h1
  · rw [show off + l.length * 6 + j * 6 = off + (l.length + j) * 6 by omega]; exact h2
  · rw [show off + l.length * 6 + j * 6 = off + (l.length + j) * 6 by omega]; exact h3
  · rw [show off + l.length * 6 + j * 6 = off + (l.length + j) * 6 by omega]; exact h4
  · rw [show off + l.length * 6 + j * 6 = off + (l.length + j) * 6 by omega]; exact h5
theorem encP_one (l : List Par) : ∀ u ∈ encP l.length (lf l), u.oneCell' = true := fun u hu => by
  obtain ⟨i, _, hi⟩ := List.mem_flatMap.1 hu
  exact pc_one _ u hi
theorem row_cap {w : World} {B : Nat} {ao : Option Addr} {n c q : Nat} {L : Nat → Par} (h : RowP w B (.slice ao n c) q L) : n ≤ c := by
  rcases h.2 with ⟨e, _⟩ | ⟨g, cap, cur, e, _, _, hc, _⟩
  · cases e; exact Nat.le_refl _
  · cases e; exact hc
/-- append onto a row: what was there, and behind it the others; maybe none. -/
theorem wpList_append_list {ops : Array Oper} {rest : List Oper} {o : Oper} {a : Act} {Q : Exit → Act → World → Prop} (w : World) (hgd : o.guard = none) (s x : Operand)
    (ho : o.op = .call { callee := .builtin .append, args := #[s, x], argTypes := #[22, 22] }) (hty : o.type = 22) (B : Nat) (l xl : List Par) (so : Option Addr) (sc : Nat) (hs : a.eval s = .slice so l.length sc) (hrow : RowL w B (.slice so l.length sc) l) (po : Option Addr) (cc : Nat) (hx : a.eval x = .slice po xl.length cc) (hP : Pars w po xl.length (lf xl)) (hn : l.length + xl.length ≤ 100000) (hB : B ≤ w.heap.size)
    (h : ∀ vo c w', RowL w' B (.slice vo (l ++ xl).length c) (l ++ xl) → w.grownBy w' (Value.slice so l.length sc).ownBlock → wpList Try.prog ops Q rest (a.put o.dst (.slice vo (l ++ xl).length c)) w') : wpList Try.prog ops Q (o :: rest) a w := by
  obtain ⟨i0, hi0, hi1, hi2, hi3⟩ := info_parts infoP
  cases hxl : xl with
  | nil =>
    subst hxl
    refine wpList_plain hgd fun _ hK => ?_
    have hsrc : Src Try.prog i0.size 22 (.slice po 0 cc) 0 [] w := by
      cases po with
      | none => exact Src.ofNil w Try.underlying22 cc
      | some ad => exact Src.ofSlice w Try.underlying22 ad 0 cc [] (by simp) (fun j u hu => by simp at hu) (fun _ h => by cases h)
    have hrun := run_append_nothing (P := Try.prog) w 22 22 22 36 i0 Try.underlying22 hi0 so l.length sc (row_cap hrow) (.slice po 0 cc) hsrc
    unfold Oper.wp execOp
    simp only [ho, hty, resolve, invoke, builtin, Sem.run_bind, Sem.run_pure, Result.andThen_ok, List.map_toArray, List.map_cons, List.map_nil, hs, hx, List.length_nil, hrun]
    have := h so sc w (by rw [List.append_nil]; exact hrow) ⟨rfl, rfl, rfl, Nat.le_refl _, fun _ _ _ => rfl⟩
    rw [List.append_nil] at this
    exact hK _ _ this
  | cons y ys =>
    obtain ⟨b, off, rfl, hz, hc⟩ := hP.one (by rw [hxl]; simp)
    refine wpList_append_lies w hgd s x 22 ho B 36 i0 (.agg #[.int .i64 0, .int .i64 0, .int .i64 0, .int .i64 0, .int .i64 0, .int .i64 0]) 6 48 Try.underlying22 hi0 hi1 hi2 hi3 rfl (by decide) _ l.length (encP l.length (lf l)) hs hrow ⟨b, off, none⟩ xl.length cc (encP xl.length (lf xl)) hx (encP_length _ _) (fun j u hj => ?_) (encP_one xl) (by rw [hxl]; simp) (by unfold maxLen; omega) (by omega) hB _ rfl (fun g cap w' hr hg hat hlt => ?_)
    · rw [Addr.add_lit]; exact hc j u hj
    · have := h (some ⟨g, 0, none⟩) cap w' (by
        show RowP w' B _ (l ++ xl).length _
        rw [List.length_append]
        show w'.ownsRow B _ 6 _ _ (encP _ _)
        rw [encP_app]; exact hr) hg
      rw [List.length_append] at this
      exact this
/-- .. with the lengths as they come. -/
theorem wpList_append_list' {ops : Array Oper} {rest : List Oper} {o : Oper} {a : Act} {Q : Exit → Act → World → Prop} (w : World) (hgd : o.guard = none) (s x : Operand)
    (ho : o.op = .call { callee := .builtin .append, args := #[s, x], argTypes := #[22, 22] }) (hty : o.type = 22) (B : Nat) (l xl : List Par) (n m : Nat) (e0 : l.length = n) (e1 : xl.length = m) (so : Option Addr) (sc : Nat) (hs : a.eval s = .slice so n sc) (hrow : RowL w B (.slice so n sc) l) (po : Option Addr) (cc : Nat) (hx : a.eval x = .slice po m cc) (hP : Pars w po m (lf xl)) (hn : n + m ≤ 100000) (hB : B ≤ w.heap.size)
    (h : ∀ vo c w', RowL w' B (.slice vo (n + m) c) (l ++ xl) → w.grownBy w' (Value.slice so n sc).ownBlock → wpList Try.prog ops Q rest (a.put o.dst (.slice vo (n + m) c)) w') : wpList Try.prog ops Q (o :: rest) a w := by
  subst e0 e1
  refine wpList_append_list w hgd s x ho hty B l xl so sc hs hrow po cc hx hP hn hB (fun vo c w' h1 h2 => ?_)
  have := h vo c w'
  rw [List.length_append] at h1
  rw [List.length_append]
  exact this h1 h2
end Go.Proofs.Ytnfcibcpmaehoaa
