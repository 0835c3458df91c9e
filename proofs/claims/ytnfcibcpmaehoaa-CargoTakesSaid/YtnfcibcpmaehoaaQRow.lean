/-
  Rows of parcels in memory of the call's own, and the walk of Clone of parcels.
-/
import Derived.Test.YtnfcibcpmaehoaaQPar
namespace Go.Proofs.Ytnfcibcpmaehoaa
open Go.RowKit

theorem row_slice {w : World} {B : Nat} {e : TypeId} {size n : Nat} {v : Value} {xs : List Value} (h : w.ownsRow B e size v n xs) : ∃ ao cap, v = .slice ao n cap := by
  rcases h.2 with ⟨rfl, rfl⟩ | ⟨g, cap, _, rfl, _⟩
  · exact ⟨none, 0, rfl⟩
  · exact ⟨_, _, rfl⟩
def pc (p : Par) : List Value := [.int .i64 p.k, .int .i64 p.f, .int .i64 p.t, .int .i64 p.a, .int .i64 p.c, .int .i64 p.s]
/-- Edges as cells, q of them. -/
def encP (q : Nat) (L : Nat → Par) : List Value := (List.range q).flatMap fun i => pc (L i)
theorem encP_length (q : Nat) (L : Nat → Par) : (encP q L).length = q * 6 := by
  induction q with
  | zero => rfl
  | succ q ih => unfold encP at *; rw [List.range_succ, List.flatMap_append, List.length_append, ih]; simp [pc]; omega
theorem encP_succ (q : Nat) (L : Nat → Par) : encP (q + 1) L = encP q L ++ pc (L q) := by simp [encP, List.range_succ]
theorem encP_congr {q : Nat} {L M : Nat → Par} (h : ∀ i, i < q → L i = M i) : encP q L = encP q M := by
  induction q with
  | zero => rfl
  | succ q ih => rw [encP_succ, encP_succ, ih (fun i hi => h i (by omega)), h q (by omega)]
def flp (w : Par) : Nat → Int | 0 => w.k | 1 => w.f | 2 => w.t | 3 => w.a | 4 => w.c | _ => w.s
theorem encP_get {q : Nat} (L : Nat → Par) {i t : Nat} (hi : i < q) (ht : t < 6) : (encP q L)[i * 6 + t]? = some (.int .i64 (flp (L i) t)) := by
  induction q with
  | zero => omega
  | succ q ih =>
    rw [encP_succ]
    by_cases h : i < q
    · rw [List.getElem?_append_left (by rw [encP_length]; omega)]; exact ih h
    · obtain rfl : i = q := by omega
      rw [List.getElem?_append_right (by rw [encP_length]; omega), encP_length, show i * 6 + t - i * 6 = t by omega]
      have : t = 0 ∨ t = 1 ∨ t = 2 ∨ t = 3 ∨ t = 4 ∨ t = 5 := by omega
      rcases this with rfl | rfl | rfl | rfl | rfl | rfl <;> rfl
/-- A list whose cells are those. -/
theorem encP_ext {q : Nat} {L : Nat → Par} {l : List Value} (hl : l.length = q * 6) (h : ∀ i t, i < q → t < 6 → l[i * 6 + t]? = some (.int .i64 (flp (L i) t))) : l = encP q L := by
  apply List.ext_getElem?
  intro j
  by_cases hj : j < q * 6
  · have e : j = j / 6 * 6 + j % 6 := by omega
    rw [e, h (j / 6) (j % 6) (by omega) (by omega), encP_get L (by omega) (by omega)]
  · rw [List.getElem?_eq_none (by omega), List.getElem?_eq_none (by rw [encP_length]; omega)]
theorem infoP : (Try.prog.info? 36).map (fun i => (i.zero, i.size, i.bytes)) = some (some (.agg #[.int .i64 0, .int .i64 0, .int .i64 0, .int .i64 0, .int .i64 0, .int .i64 0]), 6, 48) := by kernel_rfl
/-- A row of edges that the call has made. -/
abbrev RowP (w : World) (B : Nat) (v : Value) (q : Nat) (L : Nat → Par) : Prop := w.ownsRow B 36 6 v q (encP q L)
theorem RowP.cell {w : World} {B g q c : Nat} {L : Nat → Par} (h : RowP w B (.slice (some ⟨g, 0, none⟩) q c) q L) {i : Nat} (hi : i < q) :
    w.cell? ⟨g, i * 6, none⟩ = some (.int .i64 (L i).k) ∧ w.cell? ⟨g, i * 6 + 1, none⟩ = some (.int .i64 (L i).f) ∧ w.cell? ⟨g, i * 6 + 2, none⟩ = some (.int .i64 (L i).t) ∧ w.cell? ⟨g, i * 6 + 3, none⟩ = some (.int .i64 (L i).a) ∧ w.cell? ⟨g, i * 6 + 4, none⟩ = some (.int .i64 (L i).c) ∧ w.cell? ⟨g, i * 6 + 5, none⟩ = some (.int .i64 (L i).s) :=
  ⟨(h.cellAt (i * 6) (by omega)).trans (encP_get L hi (t := 0) (by omega)), (h.cellAt (i * 6 + 1) (by omega)).trans (encP_get L hi (by omega)), (h.cellAt (i * 6 + 2) (by omega)).trans (encP_get L hi (by omega)), (h.cellAt (i * 6 + 3) (by omega)).trans (encP_get L hi (by omega)), (h.cellAt (i * 6 + 4) (by omega)).trans (encP_get L hi (by omega)), (h.cellAt (i * 6 + 5) (by omega)).trans (encP_get L hi (by omega))⟩
theorem RowP.pars {w : World} {B q c : Nat} {vo : Option Addr} {L : Nat → Par} (h : RowP w B (.slice vo q c) q L) : Pars w vo q L := fun j hj => by
  obtain ⟨g, cap, e, _, hl⟩ := h.form (by omega)
  cases e
  have hc := RowP.cell h hj
  exact ⟨g, 0, rfl, hl, by rw [Nat.zero_add]; exact hc.1, by rw [Nat.zero_add]; exact hc.2.1, by rw [Nat.zero_add]; exact hc.2.2.1, by rw [Nat.zero_add]; exact hc.2.2.2.1, by rw [Nat.zero_add]; exact hc.2.2.2.2.1, by rw [Nat.zero_add]; exact hc.2.2.2.2.2⟩
theorem Pars.one {w : World} {eo : Option Addr} {m : Nat} {P : Nat → Par} (h : Pars w eo m P) (hm : 0 < m) : ∃ b off : Nat, eo = some ⟨b, off, none⟩ ∧ b < w.heap.size ∧ ∀ j u, (encP m P)[j]? = some u → w.cell? ⟨b, off + j, none⟩ = some u := by
  obtain ⟨b, off, e, hz, _⟩ := h 0 hm
  refine ⟨b, off, e, hz, fun j u hu => ?_⟩
  have hj : j < m * 6 := by have := (List.getElem?_eq_some_iff.1 hu).1; rwa [encP_length] at this
  obtain ⟨b', off', e', _, h0, h1, h2, h3, h4, h5⟩ := h (j / 6) (by omega)
  rw [e] at e'
  cases e'
  have ht : j % 6 = 0 ∨ j % 6 = 1 ∨ j % 6 = 2 ∨ j % 6 = 3 ∨ j % 6 = 4 ∨ j % 6 = 5 := by omega
  rw [show j = j / 6 * 6 + j % 6 by omega, encP_get P (by omega) (by omega)] at hu
  cases hu
  rcases ht with ht | ht | ht | ht | ht | ht
  · rw [ht, show off + j = off + j / 6 * 6 by omega]; exact h0
  · rw [ht, show off + j = off + j / 6 * 6 + 1 by omega]; exact h1
  · rw [ht, show off + j = off + j / 6 * 6 + 2 by omega]; exact h2
  · rw [ht, show off + j = off + j / 6 * 6 + 3 by omega]; exact h3
  · rw [ht, show off + j = off + j / 6 * 6 + 4 by omega]; exact h4
  · rw [ht, show off + j = off + j / 6 * 6 + 5 by omega]; exact h5
/-- What Clone leaves. -/
def Clnd (m : Nat) (E : Nat → Par) (w : World) (e : Ending) (w' : World) : Prop := ∃ vo c, e = .returned (.slice vo m c) ∧ RowP w' w.heap.size (.slice vo m c) m E ∧ Below w.heap.size w w'
theorem run_append_zeroP (g : Nat) (ao : Option Addr) (c : Nat) (w : World) :
    (Builtin.append_ #[22, 22] 22 #[.slice (some ⟨g, 0, none⟩) 0 0, .slice ao 0 c]).run Try.prog w = .ok (.slice (some ⟨g, 0, none⟩) 0 0) w := by
  obtain ⟨i0, hi0, hi1, hi2, hi3⟩ := info_parts infoP
  cases ao <;> simp [Builtin.append_, run_underlying Try.underlying22, sizeOf, typeInfo, zeroValue, hi0, hi1, Builtin.lenOf, go_sem, Builtin.firstCells, storeCells]
theorem wpList_zeroP {ops : Array Oper} {rest : List Oper} {o : Oper} {a : Act} {Q : Exit → Act → World → Prop} (w : World) (hgd : o.guard = none) (s x : Operand)
    (ho : o.op = .call { callee := .builtin .append, args := #[s, x], argTypes := #[22, 22] }) (hty : o.type = 22) (g : Nat) (hs : a.eval s = .slice (some ⟨g, 0, none⟩) 0 0) (ao : Option Addr) (c : Nat) (hx : a.eval x = .slice ao 0 c)
    (h : wpList Try.prog ops Q rest (a.put o.dst (.slice (some ⟨g, 0, none⟩) 0 0)) w) : wpList Try.prog ops Q (o :: rest) a w := by
  refine wpList_plain hgd fun _ hK => ?_
  unfold Oper.wp execOp
  simp only [ho, hty, resolve, invoke, builtin, Sem.run_bind, Sem.run_pure, Result.andThen_ok, List.map_toArray, List.map_cons, List.map_nil, hs, hx, run_append_zeroP g ao c w]
  exact hK _ _ h
set_option maxRecDepth 100000 in
set_option maxHeartbeats 1600000 in
theorem cloneP_any (eo : Option Addr) (m c : Nat) (E : Nat → Par) (hm : m ≤ 100000) (w : World) (hE : Pars w eo m E) :
    Calls Try.prog 61 #[.slice eo m c] w (Clnd m E w) := by
  have q22 : ∀ (w : World) (a : Option Addr) (n c n' c' : Nat), (binOp .eql 22 (.slice a n c) (.slice none n' c')).run Try.prog w = .ok (.bool a.isNone) w := fun w a n c n' c' => Lib.run_eql_slice_nil w _ _ a n c n' c' Try.underlying22
  obtain ⟨i0, hi0, hi1, hi2, hi3⟩ := info_parts infoP
  by_cases h0 : m = 0
  · subst h0
    cases eo with
    | none =>
      go_enter Try.func61, Try.ntmps61
      go_wp2
      go_ret
      exact ⟨none, 0, rfl, World.ownsRow_nil _ _ _ _, Below.refl _ _⟩
    | some ad =>
      have hrow : (w.alloc (.cells #[] 36)).ownsRow w.heap.size 36 6 (.slice (some ⟨w.heap.size, 0, none⟩) 0 0) 0 [] := World.ownsRow_made w #[] 0 (Nat.le_refl _) (Nat.zero_le _) rfl
      have HR := hid hrow
      go_enter Try.func61, Try.ntmps61
      go_wp2_with (at_builtin; refine wpList_zeroP _ rfl _ _ rfl rfl w.heap.size rfl (some ad) c rfl ?_)
      go_ret
      exact ⟨some ⟨w.heap.size, 0, none⟩, 0, rfl, HR.out, (Below.refl _ w).alloc (Nat.le_refl _) _⟩
  · obtain ⟨b, off, rfl, hz, hc⟩ := hE.one (by omega)
    have HC := hid hc
    clear hc hE
    go_enter Try.func61, Try.ntmps61
    go_wp2_with (at_builtin; refine wpList_append_own _ rfl _ _ 22 rfl w.heap.size 36 i0 (.agg #[.int .i64 0, .int .i64 0, .int .i64 0, .int .i64 0, .int .i64 0, .int .i64 0]) 6 48 Try.underlying22 hi0 hi1 hi2 hi3 rfl (by decide) _ _ _ rfl (World.ownsRow_made w #[] 0 (Nat.le_refl _) (Nat.zero_le _) rfl) ⟨b, off, none⟩ m c (encP m E) rfl (encP_length _ _) ?q2 ?q3 ?q4 ?q5 ?q6 ?_)
    case q2 =>
      intro j u hj
      rw [Addr.add_lit]
      exact Lib.cell?_alloc_some _ (HC.out j u hj)
    case q3 =>
      intro u hu
      obtain ⟨i, _, hi⟩ := List.mem_flatMap.1 hu
      simp [pc] at hi
      rcases hi with rfl | rfl | rfl | rfl | rfl | rfl <;> rfl
    case q4 => unfold maxLen; omega
    case q5 => omega
    case q6 => simp
    intro v' w1 hown hgrow hnil'
    obtain ⟨so, sc, rfl⟩ := row_slice hown
    have hbel : Below w.heap.size w w1 := ((Below.refl _ w).alloc (Nat.le_refl _) _).grown hgrow (by simp) (by intro k hk; simp [Value.ownBlock] at hk; omega)
    have hrow : RowP w1 w.heap.size (.slice so m sc) m E := by simpa using hown
    have HRW := hid hrow
    clear hown hgrow hnil' hrow
    go_wp2
    go_ret
    exact ⟨so, sc, by simp, HRW.out, hbel⟩
/-- One parcel is put in the place of another. -/
def updP (L : Nat → Par) (j : Nat) (x : Par) : Nat → Par := fun i => if i = j then x else L i
theorem updP_same (L : Nat → Par) (j : Nat) (x : Par) : updP L j x j = x := by simp [updP]
theorem updP_ne (L : Nat → Par) {i j : Nat} (x : Par) (h : i ≠ j) : updP L j x i = L i := by simp [updP, h]
def setS (x : Par) (s : Int) : Par := ⟨x.k, x.f, x.t, x.a, x.c, s⟩
theorem encP_setS (q : Nat) (L : Nat → Par) (j : Nat) (s : Int) : (encP q L).set (j * 6 + 5) (.int .i64 s) = encP q (updP L j (setS (L j) s)) := by
  refine encP_ext (by simp [encP_length]) fun i t hi ht => ?_
  have ht6 : t = 0 ∨ t = 1 ∨ t = 2 ∨ t = 3 ∨ t = 4 ∨ t = 5 := by omega
  by_cases e : i = j
  · subst e
    rw [updP_same]
    have h0 := encP_length q L
    rcases ht6 with rfl | rfl | rfl | rfl | rfl | rfl
    · rw [List.getElem?_set_ne (by omega)]; exact encP_get L hi (by omega)
    · rw [List.getElem?_set_ne (by omega)]; exact encP_get L hi (by omega)
    · rw [List.getElem?_set_ne (by omega)]; exact encP_get L hi (by omega)
    · rw [List.getElem?_set_ne (by omega)]; exact encP_get L hi (by omega)
    · rw [List.getElem?_set_ne (by omega)]; exact encP_get L hi (by omega)
    · rw [List.getElem?_set_self (by omega)]; rfl
  · rw [updP_ne _ _ e, ← encP_get L hi ht]
    rw [List.getElem?_set_ne (by omega)]
theorem RowP.putS {w : World} {B g q c : Nat} {L : Nat → Par} (h : RowP w B (.slice (some ⟨g, 0, none⟩) q c) q L) (j : Nat) (s : Int) :
    RowP (w.setCell ⟨g, j * 6 + 5, none⟩ (.int .i64 s)) B (.slice (some ⟨g, 0, none⟩) q c) q (updP L j (setS (L j) s)) := by
  have := h.stored (j * 6 + 5) (.int .i64 s)
  rw [encP_setS] at this
  exact this.1
theorem RowP.congr {w : World} {B : Nat} {v : Value} {q : Nat} {L M : Nat → Par} (h : RowP w B v q L) (e : ∀ i, i < q → L i = M i) : RowP w B v q M := by
  show w.ownsRow B 36 6 v q (encP q M)
  rw [← encP_congr e]; exact h
end Go.Proofs.Ytnfcibcpmaehoaa
