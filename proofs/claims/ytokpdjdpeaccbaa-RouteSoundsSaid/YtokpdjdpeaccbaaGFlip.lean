/-
  The walks of Clone of edges and of flip.
-/
import Derived.Test.YtokpdjdpeaccbaaGVal
namespace Go.Proofs.Ytokpdjdpeaccbaa
open Go.RowKit

def ec (e : Ed) : List Value := [.int .i64 e.f, .int .i64 e.t, .int .i64 e.c]
/-- Edges as cells, q of them. -/
def encE (q : Nat) (L : Nat → Ed) : List Value := (List.range q).flatMap fun i => ec (L i)
theorem encE_length (q : Nat) (L : Nat → Ed) : (encE q L).length = q * 3 := by
  induction q with
  | zero => rfl
  | succ q ih => unfold encE at *; rw [List.range_succ, List.flatMap_append, List.length_append, ih]; simp [ec]; omega
theorem encE_succ (q : Nat) (L : Nat → Ed) : encE (q + 1) L = encE q L ++ ec (L q) := by simp [encE, List.range_succ]
theorem encE_congr {q : Nat} {L M : Nat → Ed} (h : ∀ i, i < q → L i = M i) : encE q L = encE q M := by
  induction q with
  | zero => rfl
  | succ q ih => rw [encE_succ, encE_succ, ih (fun i hi => h i (by omega)), h q (by omega)]
def fle (w : Ed) : Nat → Int | 0 => w.f | 1 => w.t | _ => w.c
theorem encE_get {q : Nat} (L : Nat → Ed) {i t : Nat} (hi : i < q) (ht : t < 3) : (encE q L)[i * 3 + t]? = some (.int .i64 (fle (L i) t)) := by
  induction q with
  | zero => omega
  | succ q ih =>
    rw [encE_succ]
    by_cases h : i < q
    · rw [List.getElem?_append_left (by rw [encE_length]; omega)]; exact ih h
    · obtain rfl : i = q := by omega
      rw [List.getElem?_append_right (by rw [encE_length]; omega), encE_length, show i * 3 + t - i * 3 = t by omega]
      have : t = 0 ∨ t = 1 ∨ t = 2 := by omega
      rcases this with rfl | rfl | rfl <;> rfl
/-- A list whose cells are those. -/
theorem encE_ext {q : Nat} {L : Nat → Ed} {l : List Value} (hl : l.length = q * 3) (h : ∀ i t, i < q → t < 3 → l[i * 3 + t]? = some (.int .i64 (fle (L i) t))) : l = encE q L := by
  apply List.ext_getElem?
  intro j
  by_cases hj : j < q * 3
  · have e : j = j / 3 * 3 + j % 3 := by omega
    rw [e, h (j / 3) (j % 3) (by omega) (by omega), encE_get L (by omega) (by omega)]
  · rw [List.getElem?_eq_none (by omega), List.getElem?_eq_none (by rw [encE_length]; omega)]
theorem infoE : (Try.prog.info? 41).map (fun i => (i.zero, i.size, i.bytes)) = some (some (.agg #[.int .i64 0, .int .i64 0, .int .i64 0]), 3, 24) := by kernel_rfl
/-- A row of edges that the call has made. -/
abbrev RowE (w : World) (B : Nat) (v : Value) (q : Nat) (L : Nat → Ed) : Prop := w.ownsRow B 41 3 v q (encE q L)
theorem RowE.cell {w : World} {B g q c : Nat} {L : Nat → Ed} (h : RowE w B (.slice (some ⟨g, 0, none⟩) q c) q L) {i : Nat} (hi : i < q) :
    w.cell? ⟨g, i * 3, none⟩ = some (.int .i64 (L i).f) ∧ w.cell? ⟨g, i * 3 + 1, none⟩ = some (.int .i64 (L i).t) ∧ w.cell? ⟨g, i * 3 + 2, none⟩ = some (.int .i64 (L i).c) :=
  ⟨(h.cellAt (i * 3) (by omega)).trans (encE_get L hi (t := 0) (by omega)), (h.cellAt (i * 3 + 1) (by omega)).trans (encE_get L hi (by omega)), (h.cellAt (i * 3 + 2) (by omega)).trans (encE_get L hi (by omega))⟩
theorem RowE.eds {w : World} {B q c : Nat} {vo : Option Addr} {L : Nat → Ed} (h : RowE w B (.slice vo q c) q L) : Eds w vo q L := fun j hj => by
  obtain ⟨g, cap, e, _, hl⟩ := h.form (by omega)
  cases e
  have hc := RowE.cell h hj
  exact ⟨g, 0, rfl, hl, by rw [Nat.zero_add]; exact hc.1, by rw [Nat.zero_add]; exact hc.2.1, by rw [Nat.zero_add]; exact hc.2.2⟩
theorem Eds.one {w : World} {eo : Option Addr} {m : Nat} {E : Nat → Ed} (h : Eds w eo m E) (hm : 0 < m) : ∃ b off : Nat, eo = some ⟨b, off, none⟩ ∧ b < w.heap.size ∧ ∀ j u, (encE m E)[j]? = some u → w.cell? ⟨b, off + j, none⟩ = some u := by
  obtain ⟨b, off, e, hz, _⟩ := h 0 hm
  refine ⟨b, off, e, hz, fun j u hu => ?_⟩
  have hj : j < m * 3 := by have := (List.getElem?_eq_some_iff.1 hu).1; rwa [encE_length] at this
  obtain ⟨b', off', e', _, h0, h1, h2⟩ := h (j / 3) (by omega)
  rw [e] at e'
  cases e'
  have ht : j % 3 = 0 ∨ j % 3 = 1 ∨ j % 3 = 2 := by omega
  rw [show j = j / 3 * 3 + j % 3 by omega, encE_get E (by omega) (by omega)] at hu
  cases hu
  rcases ht with ht | ht | ht
  · rw [ht, show off + j = off + j / 3 * 3 by omega]; exact h0
  · rw [ht, show off + j = off + j / 3 * 3 + 1 by omega]; exact h1
  · rw [ht, show off + j = off + j / 3 * 3 + 2 by omega]; exact h2
/-- What Clone leaves. -/
def Clnd (m : Nat) (E : Nat → Ed) (w : World) (e : Ending) (w' : World) : Prop := ∃ vo c, e = .returned (.slice vo m c) ∧ RowE w' w.heap.size (.slice vo m c) m E ∧ Below w.heap.size w w'
theorem run_append_zeroE (g : Nat) (ao : Option Addr) (c : Nat) (w : World) :
    (Builtin.append_ #[22, 22] 22 #[.slice (some ⟨g, 0, none⟩) 0 0, .slice ao 0 c]).run Try.prog w = .ok (.slice (some ⟨g, 0, none⟩) 0 0) w := by
  obtain ⟨i0, hi0, hi1, hi2, hi3⟩ := info_parts infoE
  cases ao <;> simp [Builtin.append_, run_underlying Try.underlying22, sizeOf, typeInfo, zeroValue, hi0, hi1, Builtin.lenOf, go_sem, Builtin.firstCells, storeCells]
theorem wpList_zeroE {ops : Array Oper} {rest : List Oper} {o : Oper} {a : Act} {Q : Exit → Act → World → Prop} (w : World) (hgd : o.guard = none) (s x : Operand)
    (ho : o.op = .call { callee := .builtin .append, args := #[s, x], argTypes := #[22, 22] }) (hty : o.type = 22) (g : Nat) (hs : a.eval s = .slice (some ⟨g, 0, none⟩) 0 0) (ao : Option Addr) (c : Nat) (hx : a.eval x = .slice ao 0 c)
    (h : wpList Try.prog ops Q rest (a.put o.dst (.slice (some ⟨g, 0, none⟩) 0 0)) w) : wpList Try.prog ops Q (o :: rest) a w := by
  refine wpList_plain hgd fun _ hK => ?_
  unfold Oper.wp execOp
  simp only [ho, hty, resolve, invoke, builtin, Sem.run_bind, Sem.run_pure, Result.andThen_ok, List.map_toArray, List.map_cons, List.map_nil, hs, hx, run_append_zeroE g ao c w]
  exact hK _ _ h
set_option maxRecDepth 100000 in
set_option maxHeartbeats 1600000 in
theorem cloneE_any (eo : Option Addr) (m c : Nat) (E : Nat → Ed) (hm : m ≤ 100000) (w : World) (hE : Eds w eo m E) :
    Calls Try.prog 66 #[.slice eo m c] w (Clnd m E w) := by
  have q22 : ∀ (w : World) (a : Option Addr) (n c n' c' : Nat), (binOp .eql 22 (.slice a n c) (.slice none n' c')).run Try.prog w = .ok (.bool a.isNone) w := fun w a n c n' c' => Lib.run_eql_slice_nil w _ _ a n c n' c' Try.underlying22
  obtain ⟨i0, hi0, hi1, hi2, hi3⟩ := info_parts infoE
  by_cases h0 : m = 0
  · subst h0
    cases eo with
    | none =>
      go_enter Try.func66, Try.ntmps66
      go_wp2
      go_ret
      exact ⟨none, 0, rfl, World.ownsRow_nil _ _ _ _, Below.refl _ _⟩
    | some ad =>
      have hrow : (w.alloc (.cells #[] 41)).ownsRow w.heap.size 41 3 (.slice (some ⟨w.heap.size, 0, none⟩) 0 0) 0 [] := World.ownsRow_made w #[] 0 (Nat.le_refl _) (Nat.zero_le _) rfl
      have HR := hid hrow
      go_enter Try.func66, Try.ntmps66
      go_wp2_with (at_builtin; refine wpList_zeroE _ rfl _ _ rfl rfl w.heap.size rfl (some ad) c rfl ?_)
      go_ret
      exact ⟨some ⟨w.heap.size, 0, none⟩, 0, rfl, HR.out, (Below.refl _ w).alloc (Nat.le_refl _) _⟩
  · obtain ⟨b, off, rfl, hz, hc⟩ := hE.one (by omega)
    have HC := hid hc
    clear hc hE
    go_enter Try.func66, Try.ntmps66
    go_wp2_with (at_builtin; refine wpList_append_own _ rfl _ _ 22 rfl w.heap.size 41 i0 (.agg #[.int .i64 0, .int .i64 0, .int .i64 0]) 3 24 Try.underlying22 hi0 hi1 hi2 hi3 rfl (by decide) _ _ _ rfl (World.ownsRow_made w #[] 0 (Nat.le_refl _) (Nat.zero_le _) rfl) ⟨b, off, none⟩ m c (encE m E) rfl (encE_length _ _) ?q2 ?q3 ?q4 ?q5 ?q6 ?_)
    case q2 =>
      intro j u hj
      rw [Addr.add_lit]
      exact Lib.cell?_alloc_some _ (HC.out j u hj)
    case q3 =>
      intro u hu
      obtain ⟨i, _, hi⟩ := List.mem_flatMap.1 hu
      simp [ec] at hi
      rcases hi with rfl | rfl | rfl <;> rfl
    case q4 => unfold maxLen; omega
    case q5 => omega
    case q6 => simp
    intro v' w1 hown hgrow hnil'
    obtain ⟨so, sc, rfl⟩ := row_slice hown
    have hbel : Below w.heap.size w w1 := ((Below.refl _ w).alloc (Nat.le_refl _) _).grown hgrow (by simp) (by intro k hk; simp [Value.ownBlock] at hk; omega)
    have hrow : RowE w1 w.heap.size (.slice so m sc) m E := by simpa using hown
    have HRW := hid hrow
    clear hown hgrow hnil' hrow
    go_wp2
    go_ret
    exact ⟨so, sc, by simp, HRW.out, hbel⟩
end Go.Proofs.Ytokpdjdpeaccbaa
