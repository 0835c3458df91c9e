/-
  Walks for Drop: isHead, the search, the copy of a list.
-/
import Derived.Test.YtpohhcmkkjcelaaSOver
namespace Go.Proofs.Ytpohhcmkkjcelaa
open Go.RowKit

def hdP (t : Int) (s : Sp) : Bool := t == s.a || t == s.b
set_option maxHeartbeats 1600000 in
theorem isHead_any (k a b u t : Int) (r : Bool) (hr : r = (t == a || t == b)) (w : World) :
    Calls Try.prog 39 #[sv k a b u, .int .i64 t] w fun e w' => e = .returned (.bool r) ∧ Below w.heap.size w w' := by
  have HB := hid (Joins.below_alloc1 w (.cells #[.int .i64 k, .int .i64 a, .int .i64 b, .int .i64 u] 26))
  by_cases h1 : t = a
  · subst h1
    have hrt : r = true := by rw [hr]; simp
    subst hrt
    clear hr
    have g1 : (t == t) = true := by simp
    go_enter Try.func39, Try.ntmps39
    go_wp2_with fail
    go_ret
    exact ⟨rfl, HB.out⟩
  · have g1 : (t == a) = false := by rw [beq_eq_false_iff_ne]; exact h1
    by_cases h2 : t = b
    · subst h2
      have hrt : r = true := by rw [hr]; simp
      subst hrt
      have g2 : (t == t) = true := by simp
      clear hr h1
      go_enter Try.func39, Try.ntmps39
      go_wp2_with fail
      go_ret
      exact ⟨rfl, HB.out⟩
    · have g2 : (t == b) = false := by rw [beq_eq_false_iff_ne]; exact h2
      have hrf : r = false := by rw [hr, g1, g2]; rfl
      subst hrf
      clear hr h1 h2
      go_enter Try.func39, Try.ntmps39
      go_wp2_with fail
      go_ret
      exact ⟨rfl, HB.out⟩

set_option maxHeartbeats 1600000 in
theorem headC_any (k a b u t : Int) (X : Nat) (r : Bool) (hr : r = (t == a || t == b)) (w : World) (hX : w.cell? ⟨X, 0, none⟩ = some (.int .i64 t)) :
    Calls Try.prog 38 #[sv k a b u, .pointer (some ⟨X, 0, none⟩)] w fun e w' => e = .returned (.bool r) ∧ Below w.heap.size w w' := by
  have HB := hid (Joins.below_alloc1 w (.cells #[.int .i64 k, .int .i64 a, .int .i64 b, .int .i64 u] 26))
  have HR := hid hr
  have hXz : X < w.heap.size := World.block_lt_of_cell? w _ hX
  clear hr
  go_enter Try.func38, Try.ntmps38
  go_wp2_with (go_at_call 39; refine (isHead_any k a b u t r HR.out _).mono ?_; rintro e w1 ⟨rfl, hb⟩)
  go_ret
  exact ⟨rfl, HB.out.trans (hb.mono HB.out.size)⟩

set_option maxRecDepth 20000 in
set_option maxHeartbeats 3200000 in
theorem index_head (lo : Option Addr) (m lcap : Nat) (S : Nat → Sp) (hm : m ≤ 300) (X : Nat) (P : Nat → Bool) (w : World) (hS : SpansAt w lo m S)
    (hP : ∀ j, j < m → ∀ wr, Below w.heap.size w wr → Calls Try.prog 38 #[svp (S j), .pointer (some ⟨X, 0, none⟩)] wr fun e w' => e = .returned (.bool (P j)) ∧ Below wr.heap.size wr w') (v : Int) (hv : (v = -1 ∧ ∀ j, j < m → P j = false) ∨ ∃ i : Nat, v = i ∧ i < m ∧ P i = true ∧ ∀ j, j < i → P j = false) :
    Calls Try.prog 37 #[.slice lo m lcap, .func (.func 38) #[] #[.pointer (some ⟨X, 0, none⟩)]] w fun e w' => e = .returned (.int .i64 v) ∧ Below w.heap.size w w' := by
  have HV := hid hv
  have HS := hid hS
  have HP := hid hP
  clear hv hS hP
  go_enter Try.func37, Try.ntmps37
  go_wp2_with fail
  go_loopw [8] (fun iv wr => ∃ i : Nat, i ≤ m ∧ iv = .int .i64 i ∧ Hid (∀ j, j < i → P j = false) ∧ Hid (Below w.heap.size w wr)) (fun iv _ => m - (intOf iv).toNat)
  case atStart => exact ⟨0, Nat.zero_le _, rfl, hid (fun j hj => by omega), hid (Below.refl _ _)⟩
  case round =>
    obtain ⟨i, hi, rfl, hk, hB⟩ := hrel
    by_cases hlt : i < m
    · obtain ⟨bl, off, rfl, hbz, c0, c1, c2, c3⟩ := (HS.out.stays hB.out) i hlt
      have HC := hid (HP.out i hlt wr hB.out)
      obtain ⟨p, hp⟩ : ∃ p, p = P i := ⟨_, rfl⟩
      rw [← hp] at HC
      have HPP := hid hp
      clear hp
      cases p
      · go_wp2_with (go_at_call 38; refine HC.out.mono ?_; rintro e w1 ⟨rfl, hb⟩; have HB1 := hid (hB.out.trans (hb.mono hB.out.size)); clear hb)
        go_roundw
        case rel =>
          refine ⟨i + 1, by omega, by go_num, hid (fun j hj => ?_), HB1⟩
          by_cases h : j < i
          · exact hk.out j h
          · obtain rfl : j = i := by omega
            exact HPP.out.symm
        case measure => simp [intOf]; omega
      · have hvi : Hid (v = i) := hid (by
          rcases HV.out with ⟨_, h⟩ | ⟨q, rfl, hq, h1, h2⟩
          · exact absurd (h i hlt) (by rw [← HPP.out]; simp)
          · by_cases h : q < i
            · rw [hk.out q h] at h1; cases h1
            · by_cases h' : i < q
              · exact absurd (h2 i h') (by rw [← HPP.out]; simp)
              · omega)
        go_wp2_with (go_at_call 38; refine HC.out.mono ?_; rintro e w1 ⟨rfl, hb⟩; have HB1 := hid (hB.out.trans (hb.mono hB.out.size)); clear hb)
        go_ret
        exact ⟨ret_int hvi.out.symm, HB1.out⟩
    · obtain rfl : i = m := by omega
      have hvi : Hid (v = -1) := hid (by
        rcases HV.out with ⟨h, _⟩ | ⟨q, rfl, hq, h1, h2⟩
        · exact h
        · rw [hk.out q hq] at h1; cases h1)
      go_wp2_with fail
      go_ret
      exact ⟨ret_int hvi.out.symm, hB.out⟩

/-- Spans in memory as one run of cells. -/
theorem SpansAt.cells {w : World} {b off m : Nat} {S : Nat → Sp} (h : SpansAt w (some ⟨b, off, none⟩) m S) (q : Nat) : ∀ (c : Nat), q + c ≤ m → ∀ j u, (encL ((List.range' q c).map S))[j]? = some u → w.cell? ⟨b, off + q * 4 + j, none⟩ = some u := by
  intro c hc j u hj
  induction c generalizing q j with
  | zero => simp [encL] at hj
  | succ c ih =>
    rw [List.range'_succ, List.map_cons, encL, List.flatMap_cons] at hj
    by_cases h4 : j < 4
    · obtain ⟨b', off', e, hz, c0, c1, c2, c3⟩ := h q (by omega)
      cases e
      rw [List.getElem?_append_left (by simpa [sc4] using h4)] at hj
      match j, h4, hj with
      | 0, _, hj => simp [sc4] at hj; subst hj; exact c0
      | 1, _, hj => simp [sc4] at hj; subst hj; exact c1
      | 2, _, hj => simp [sc4] at hj; subst hj; exact c2
      | 3, _, hj => simp [sc4] at hj; subst hj; exact c3
    · rw [List.getElem?_append_right (by simp [sc4]; omega)] at hj
      have := ih (q + 1) (by omega) (j - 4) (by simpa [sc4, encL] using hj)
      rwa [show off + (q + 1) * 4 + (j - 4) = off + q * 4 + j by omega] at this
theorem encL_len (L : List Sp) : (encL L).length = L.length * 4 := by
  induction L with
  | nil => rfl
  | cons x L ih => rw [encL, List.flatMap_cons, List.length_append]; rw [encL] at ih; rw [ih]; simp [sc4]; omega
theorem encL_one {L : List Sp} : ∀ u ∈ encL L, u.oneCell' = true := by
  intro u hu
  obtain ⟨x, _, hx⟩ := List.mem_flatMap.1 hu
  simp [sc4] at hx
  rcases hx with rfl | rfl | rfl | rfl <;> rfl
/-- The spans of a list from one on. -/
def rng (S : Nat → Sp) (q c : Nat) : List Sp := (List.range' q c).map S
theorem rng_len (S : Nat → Sp) (q c : Nat) : (rng S q c).length = c := by simp [rng]

set_option maxHeartbeats 1600000 in
theorem cloneS_any (lo : Option Addr) (m lcap : Nat) (S : Nat → Sp) (hm1 : 0 < m) (hm : m ≤ 300) (w : World) (hS : SpansAt w lo m S) : Calls Try.prog 41 #[.slice lo m lcap] w fun r w' =>
    ∃ g c, r = .returned (.slice (some ⟨g, 0, none⟩) m c) ∧ w'.ownsRow w.heap.size 26 4 (.slice (some ⟨g, 0, none⟩) m c) m (encL (rng S 0 m)) ∧ Below w.heap.size w w' := by
  obtain ⟨i0, hi, hz0, hz1, hz2⟩ := info_parts infoS
  have HIN := hid (And.intro hi (And.intro hz0 (And.intro hz1 hz2)))
  clear hi hz0 hz1 hz2
  obtain ⟨b, off, rfl, hbz, _⟩ := hS.one hm1
  have HC := hid (hS.cells 0 m (by omega))
  clear hS
  have q22 : ∀ (w : World) (a : Option Addr) (n c n' c' : Nat), (binOp .eql 34 (.slice a n c) (.slice none n' c')).run Try.prog w = .ok (.bool a.isNone) w := fun w a n c n' c' => Lib.run_eql_slice_nil w _ _ a n c n' c' Try.underlying34
  have u22 : ∀ w, Sem.run Try.prog (underlying 34) w = .ok (TypeDesc.slice 26) w := run_underlying Try.underlying34
  go_enter Try.func41, Try.ntmps41
  go_wp2_with (at_builtin; refine wpList_append_own _ rfl _ _ 34 rfl w.heap.size 26 i0 (.agg #[.int .i64 0, .int .i64 0, .int .i64 0, .int .i64 0]) 4 32 Try.underlying34 HIN.out.1 HIN.out.2.1 HIN.out.2.2.1 HIN.out.2.2.2 rfl (by decide) _ _ _ rfl (World.ownsRow_made w #[] 0 (Nat.le_refl _) (Nat.zero_le _) rfl) ⟨b, off, none⟩ m lcap (encL (rng S 0 m)) rfl ?qc1 ?qc2 ?qc3 ?qc4 ?qc5 ?qc6 ?_)
  case qc1 => rw [encL_len, rng_len]
  case qc2 =>
    intro j u hj
    rw [Addr.add_lit, World.cell?_alloc_past _ _ _ hbz]
    have := HC.out j u hj
    rwa [show off + 0 * 4 + j = off + j by omega] at this
  case qc3 => exact encL_one
  case qc4 => unfold maxLen; omega
  case qc5 => omega
  case qc6 => simp
  intro v' w1 hown hgrow hnil
  have hown' : w1.ownsRow w.heap.size 26 4 v' m (encL (rng S 0 m)) := by simpa using hown
  obtain ⟨g, c, rfl, _, _⟩ := hown'.form (by omega)
  have HO := hid hown'
  have HG := hid hgrow
  clear hown hown' hgrow hnil
  go_wp2
  go_ret
  refine ⟨g, c, rfl, HO.out, ?_⟩
  exact ((Below.refl _ w).alloc (Nat.le_refl _) _).grown HG.out (by simp) (by intro k hk; simp [Value.ownBlock] at hk; omega)
end Go.Proofs.Ytpohhcmkkjcelaa
