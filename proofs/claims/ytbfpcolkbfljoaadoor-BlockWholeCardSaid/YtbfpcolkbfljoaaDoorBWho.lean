/-
  Each piece that lies is in one block: numbers, orders and counts of parts.
-/
import Derived.Test.YtbfpcolkbfljoaaDoorBOf
import Derived.Test.YtbfpcolkbfljoaaDoorBLVal
namespace Go.Proofs.YtbfpcolkbfljoaaDoor
open Go.RowKit Go.Maps

theorem filt_len (p : Nat → Bool) : ∀ Q : List Nat, (Q.filter p).length + (Q.filter fun q => !p q).length = Q.length
  | [] => rfl
  | q :: Q => by
    have h := filt_len p Q
    cases e : p q <;> simp [e] <;> omega
theorem tot_all (β : Nat → Nat) : ∀ (R Q : List Nat), R.Pairwise (· < ·) → (∀ q, q ∈ Q → β q ∈ R) → (R.map fun r => (pof β Q r).length).sum = Q.length
  | [], Q, _, h => by
    cases Q with
    | nil => rfl
    | cons q Q => exact absurd (h q (by simp)) (by simp)
  | r :: R, Q, ha, h => by
    rw [List.pairwise_cons] at ha
    have h1 := filt_len (fun q => β q == r) Q
    have h2 := tot_all β R (Q.filter fun q => !(β q == r)) ha.2 (fun q hq => by
      rw [List.mem_filter] at hq
      have h3 := h q hq.1
      have h4 : β q ≠ r := by simpa using hq.2
      simp at h3
      rcases h3 with e | e
      · exact absurd e h4
      · exact e)
    have h3 : (R.map fun r' => (pof β (Q.filter fun q => !(β q == r)) r').length) = R.map fun r' => (pof β Q r').length := by
      apply List.map_congr_left
      intro r' hr'
      have hlt := ha.1 r' hr'
      unfold pof
      rw [List.filter_filter]
      congr 1
      apply List.filter_congr
      intro q _
      by_cases e : β q = r'
      · have : β q ≠ r := by omega
        simp [e]
        omega
      · simp [e]
    rw [List.map_cons, List.sum_cons, ← h3, h2]
    unfold pof
    exact h1
theorem getD_lt {L : List Nat} (h : L.Pairwise (· < ·)) {i j : Nat} (hij : i < j) (hj : j < L.length) : L.getD i 0 < L.getD j 0 := by
  have := (List.pairwise_iff_getElem.1 h) i j (by omega) hj hij
  rw [List.getD_eq_getElem?_getD, List.getD_eq_getElem?_getD, List.getElem?_eq_getElem (by omega), List.getElem?_eq_getElem hj]
  exact this

/-- What is known of parts: numbers, pieces, counts. -/
structure WF (d : Rl) (K : Nat) (ns : Nat → Nat) (ps : Nat → List Nat) (tt : Nat → Nat) : Prop where
  ne : ∀ i, i < K → 0 < (ps i).length
  first : ∀ i, i < K → (ps i).getD 0 0 = ns i
  asc : ∀ i, i + 1 < K → ns i < ns (i + 1)
  pcs : ∀ i, i < K → ∀ k, k < (ps i).length → Pl d ((ps i).getD k 0) ∧ ns i = blk d (cutB d) ((ps i).getD k 0)
  pasc : ∀ i, i < K → ∀ k, k + 1 < (ps i).length → (ps i).getD k 0 < (ps i).getD (k + 1) 0
  t0 : tt 0 = 0
  ts : ∀ i, i < K → tt (i + 1) = tt i + (ps i).length
  tk : tt K = (allp d).length
  sl : ∀ i, i < K → (ps i).length ≤ 10000
  sk : K ≤ 10000
theorem wf_ex (d : Rl) (hg : Gd d) : ∃ tt, WF d (rts (blk d (cutB d)) (allp d)).length (fun k => (rts (blk d (cutB d)) (allp d)).getD k 0) (fun k => pof (blk d (cutB d)) (allp d) ((rts (blk d (cutB d)) (allp d)).getD k 0)) tt := by
  obtain ⟨β, hβ⟩ : ∃ β, β = blk d (cutB d) := ⟨_, rfl⟩
  have HBT : ∀ x, Pl d x → β x ≤ x ∧ β (β x) = β x ∧ Pl d (β x) := fun x hx => by
    subst hβ
    have h := blk_is d (cutB d) x
    exact ⟨h.le, (h.self hg hx).eq.symm, h.pl hx⟩
  have hQA : (allp d).Pairwise (· < ·) := pcs_asc _ _ _
  have hQM : ∀ y, y ∈ allp d ↔ Pl d y := fun y => mem_allp
  have hQL : (allp d).length ≤ 10000 := by have := allp_len d; have := hg.small; omega
  obtain ⟨Q, hQ⟩ : ∃ Q, Q = allp d := ⟨_, rfl⟩
  rw [← hQ] at hQA hQM hQL ⊢
  rw [← hβ]
  have hRA : (rts β Q).Pairwise (· < ·) := rts_asc hQA
  have hRM : ∀ r, r ∈ rts β Q ↔ r ∈ Q ∧ β r = r := fun r => mem_rts
  have hRL : (rts β Q).length ≤ 10000 := Nat.le_trans rts_len hQL
  obtain ⟨R, hR⟩ : ∃ R, R = rts β Q := ⟨_, rfl⟩
  rw [← hR] at hRA hRM hRL ⊢
  have hin : ∀ i, i < R.length → R.getD i 0 ∈ Q ∧ β (R.getD i 0) = R.getD i 0 := fun i hi => (hRM _).1 (getD_memN hi)
  have hpa : ∀ r, (pof β Q r).Pairwise (· < ·) := fun r => hQA.filter _
  have hpm : ∀ r q, q ∈ pof β Q r ↔ q ∈ Q ∧ β q = r := fun r q => by unfold pof; simp
  have hself : ∀ i, i < R.length → R.getD i 0 ∈ pof β Q (R.getD i 0) := fun i hi => (hpm _ _).2 (hin i hi)
  refine ⟨fun i => ((R.take i).map fun r => (pof β Q r).length).sum, fun i hi => ?_, fun i hi => ?_, fun i hi => getD_lt hRA (by omega) hi, fun i hi k hk => ?_, fun i hi k hk => getD_lt (hpa _) (by omega) hk, by simp, fun i hi => ?_, ?_, fun i hi => Nat.le_trans pof_len hQL, hRL⟩
  · exact List.length_pos_of_mem (hself i hi)
  · obtain ⟨j, hj, e⟩ := List.getElem_of_mem (hself i hi)
    have e2 : (pof β Q (R.getD i 0)).getD j 0 = R.getD i 0 := by rw [List.getD_eq_getElem?_getD, List.getElem?_eq_getElem hj, Option.getD_some, e]
    by_cases h0 : j = 0
    · subst h0; exact e2
    · have h1 := getD_lt (hpa (R.getD i 0)) (i := 0) (j := j) (by omega) hj
      have h2 := (hpm _ _).1 (getD_memN (show 0 < (pof β Q (R.getD i 0)).length by omega))
      have h3 := (HBT _ ((hQM _).1 h2.1)).1
      omega
  · have h2 := (hpm _ _).1 (getD_memN hk)
    exact ⟨(hQM _).1 h2.1, by rw [← hβ]; exact h2.2.symm⟩
  · show ((R.take (i + 1)).map _).sum = _
    rw [take_snoc 0 hi, List.map_append, List.sum_append]
    simp
  · show ((R.take R.length).map _).sum = _
    rw [List.take_length, tot_all β R Q hRA (fun q hq => (hRM _).2 ⟨(hQM _).2 (HBT q ((hQM q).1 hq)).2.2, (HBT q ((hQM q).1 hq)).2.1⟩), hQ]
theorem WF.tb {d : Rl} {K : Nat} {ns : Nat → Nat} {ps : Nat → List Nat} {tt : Nat → Nat} (h : WF d K ns ps tt) (hn : d.n ≤ 1024) {i : Nat} (hi : i ≤ K) : tt i ≤ 10000 := by
  have key : ∀ k, ∀ i, i + k = K → tt i ≤ tt K := by
    intro k
    induction k with
    | zero => intro i e; rw [show i = K by omega]; exact Nat.le_refl _
    | succ k ih =>
      intro i e
      have h1 := ih (i + 1) (by omega)
      have h2 := h.ts i (by omega)
      omega
  have h1 := key (K - i) i (by omega)
  have h2 := h.tk
  have h3 := allp_len d
  omega
/-- A part of a list of parts, read. -/
theorem Prs.at {B n : Nat} {ns : Nat → Nat} {ps : Nat → List Nat} {vs : Nat → Value} {la : Option Addr} {lc : Nat} {w : World} (h : Prs B n ns ps vs (.slice la n lc) w) {j : Nat} (hj : j < n) :
    ∃ g pa pc, la = some ⟨g, 0, none⟩ ∧ g < w.heap.size ∧ w.cell? ⟨g, j * 2, none⟩ = some (.int .i64 (ns j : Int)) ∧ w.cell? ⟨g, j * 2 + 1, none⟩ = some (.slice pa (ps j).length pc) ∧ Ints w pa (ps j).length fun k => (((ps j).getD k 0 : Nat) : Int) := by
  obtain ⟨g, c, e, _, hz⟩ := h.row.form (by omega)
  obtain ⟨rfl, rfl⟩ : la = some ⟨g, 0, none⟩ ∧ lc = c := by simpa using e
  have hr := h.rows j hj
  obtain ⟨pa, pc, hv⟩ := slice_of_row hr
  rw [hv] at hr
  refine ⟨g, pa, pc, rfl, hz, (h.row.cellAt (j * 2) (by omega)).trans (encP_get _ _ hj).1, ?_, ints_of_row hr rfl⟩
  rw [← hv]
  exact (h.row.cellAt (j * 2 + 1) (by omega)).trans (encP_get _ _ hj).2
/-- The memory of the law on blocks. -/
structure WH (d : Rl) (K : Nat) (ns : Nat → Nat) (ps : Nat → List Nat) (vs : Nat → Value) (la : Option Addr) (lc : Nat) (w wr : World) : Prop where
  lm : LM d w wr
  prs : Prs w.heap.size K ns ps vs (.slice la K lc) wr
theorem WH.stays {d : Rl} {K : Nat} {ns : Nat → Nat} {ps : Nat → List Nat} {vs : Nat → Value} {la : Option Addr} {lc : Nat} {w wr w' : World} (h : WH d K ns ps vs la lc w wr) (k : Below wr.heap.size wr w') : WH d K ns ps vs la lc w w' := ⟨h.lm.stays k, h.prs.stays k⟩
end Go.Proofs.YtbfpcolkbfljoaaDoor
