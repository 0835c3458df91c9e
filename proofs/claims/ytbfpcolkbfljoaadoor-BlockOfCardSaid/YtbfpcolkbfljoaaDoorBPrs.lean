/-
  Lists of parts in memory: what each block's list holds as the pieces are taken one after another.
-/
import Derived.Test.YtbfpcolkbfljoaaDoorBPcs
namespace Go.Proofs.YtbfpcolkbfljoaaDoor
open Go.RowKit Go.Maps

/-- The roots among pieces; the pieces of a root. -/
def rts (β : Nat → Nat) (Q : List Nat) : List Nat := Q.filter fun q => β q == q
def pof (β : Nat → Nat) (Q : List Nat) (r : Nat) : List Nat := Q.filter fun q => β q == r
/-- What is known of the numbers of blocks. -/
structure Bt (β : Nat → Nat) (Q : List Nat) : Prop where
  le : ∀ q, q ∈ Q → β q ≤ q
  idem : ∀ q, q ∈ Q → β (β q) = β q
  mem : ∀ q, q ∈ Q → β q ∈ Q
  asc : Q.Pairwise (· < ·)
section
variable {β : Nat → Nat} {Q : List Nat}
theorem mem_rts {q : Nat} : q ∈ rts β Q ↔ q ∈ Q ∧ β q = q := by unfold rts; simp
theorem rts_root {q : Nat} (h : β q = q) : rts β (Q ++ [q]) = rts β Q ++ [q] := by unfold rts; rw [List.filter_append]; simp [h]
theorem rts_not {q : Nat} (h : β q ≠ q) : rts β (Q ++ [q]) = rts β Q := by unfold rts; rw [List.filter_append]; simp [h]
theorem pof_yes {q r : Nat} (h : β q = r) : pof β (Q ++ [q]) r = pof β Q r ++ [q] := by unfold pof; rw [List.filter_append]; simp [h]
theorem pof_no {q r : Nat} (h : β q ≠ r) : pof β (Q ++ [q]) r = pof β Q r := by unfold pof; rw [List.filter_append]; simp [h]
theorem pof_nil {q : Nat} (h : ∀ z ∈ Q, β z ≠ q) : pof β Q q = [] := by
  unfold pof; rw [List.filter_eq_nil_iff]; intro z hz; simpa using h z hz
theorem rts_len : (rts β Q).length ≤ Q.length := List.length_filter_le _ _
theorem pof_len {r : Nat} : (pof β Q r).length ≤ Q.length := List.length_filter_le _ _
end
/-- The cells of parts with these numbers and lists. -/
def encP (n : Nat) (ns : Nat → Nat) (vs : Nat → Value) : List Value := (List.range n).flatMap fun k => [.int .i64 (ns k : Int), vs k]
theorem encP_succ (n : Nat) (ns : Nat → Nat) (vs : Nat → Value) : encP (n + 1) ns vs = encP n ns vs ++ [.int .i64 (ns n : Int), vs n] := by unfold encP; rw [List.range_succ, List.flatMap_append]; simp
theorem encP_len (n : Nat) (ns : Nat → Nat) (vs : Nat → Value) : (encP n ns vs).length = n * 2 := by
  induction n with
  | zero => rfl
  | succ n ih => rw [encP_succ, List.length_append, ih]; simp; omega
theorem encP_congr {n : Nat} {ns ns' : Nat → Nat} {vs vs' : Nat → Value} (h : ∀ k, k < n → ns k = ns' k ∧ vs k = vs' k) : encP n ns vs = encP n ns' vs' := by
  induction n with
  | zero => rfl
  | succ n ih => rw [encP_succ, encP_succ, ih (fun k hk => h k (by omega)), (h n (by omega)).1, (h n (by omega)).2]
theorem encP_get {n k : Nat} (ns : Nat → Nat) (vs : Nat → Value) (h : k < n) : (encP n ns vs)[k * 2]? = some (.int .i64 (ns k : Int)) ∧ (encP n ns vs)[k * 2 + 1]? = some (vs k) := by
  induction n with
  | zero => omega
  | succ n ih =>
    rw [encP_succ]
    have hl := encP_len n ns vs
    by_cases e : k < n
    · obtain ⟨h1, h2⟩ := ih e
      rw [List.getElem?_append_left (by omega), List.getElem?_append_left (by omega)]
      exact ⟨h1, h2⟩
    · obtain rfl : k = n := by omega
      rw [List.getElem?_append_right (by omega), List.getElem?_append_right (by omega), hl]
      simp
def updV (vs : Nat → Value) (k : Nat) (v : Value) : Nat → Value := fun j => if j = k then v else vs j
theorem updV_same (vs : Nat → Value) (k : Nat) (v : Value) : updV vs k v k = v := by simp [updV]
theorem updV_other (vs : Nat → Value) {k j : Nat} (v : Value) (h : j ≠ k) : updV vs k v j = vs j := by simp [updV, h]
theorem encP_set {n k : Nat} (ns : Nat → Nat) (vs : Nat → Value) (v : Value) (h : k < n) : (encP n ns vs).set (k * 2 + 1) v = encP n ns (updV vs k v) := by
  induction n with
  | zero => omega
  | succ n ih =>
    rw [encP_succ, encP_succ]
    have hl := encP_len n ns vs
    by_cases e : k < n
    · rw [List.set_append_left _ _ (by omega), ih e, updV_other _ _ (by omega)]
    · obtain rfl : k = n := by omega
      rw [List.set_append_right _ _ (by omega), hl, updV_same, encP_congr (ns' := ns) (vs' := updV vs k v) (n := k) (fun j hj => ⟨rfl, (updV_other _ _ (by omega)).symm⟩)]
      congr 1
      rw [show k * 2 + 1 - k * 2 = 1 by omega]; rfl

/-- A list of parts, in memory of a call's own. -/
structure Prs (B n : Nat) (ns : Nat → Nat) (ps : Nat → List Nat) (vs : Nat → Value) (lst : Value) (w : World) : Prop where
  row : w.ownsRow B 47 2 lst n (encP n ns vs)
  rows : ∀ k, k < n → w.ownsRow B 3 1 (vs k) (ps k).length (encN (ps k))
  far : ∀ k, k < n → ∀ b, (vs k).ownBlock = some b → lst.ownBlock ≠ some b
  apart : ∀ j k, j < n → k < n → j ≠ k → ∀ b, (vs j).ownBlock = some b → (vs k).ownBlock ≠ some b
section
variable {B n : Nat} {ns : Nat → Nat} {ps : Nat → List Nat} {vs : Nat → Value} {lst : Value} {w w' : World}
theorem Prs.start (B : Nat) (ns : Nat → Nat) (ps : Nat → List Nat) (vs : Nat → Value) (w : World) : Prs B 0 ns ps vs (.slice none 0 0) w :=
  ⟨World.ownsRow_nil _ _ _ _, fun k hk => by omega, fun k hk => by omega, fun j k hj => by omega⟩
theorem row_same {e : TypeId} {size n : Nat} {v : Value} {xs : List Value} (h : w.ownsRow B e size v n xs) (k : ∀ g, v.ownBlock = some g → w'.heap[g]? = w.heap[g]?) : w'.ownsRow B e size v n xs := by
  refine ⟨h.1, ?_⟩
  rcases h.2 with hn | ⟨g, cap, cur, rfl, hB, hg, rest⟩
  · exact .inl hn
  · exact .inr ⟨g, cap, cur, rfl, hB, (k g rfl).trans hg, rest⟩
theorem Prs.same (h : Prs B n ns ps vs lst w) (k : ∀ g, B ≤ g → g < w.heap.size → w'.heap[g]? = w.heap[g]?) : Prs B n ns ps vs lst w' :=
  ⟨row_same h.row fun g hg => k g (h.row.lt g hg).1 (h.row.lt g hg).2, fun j hj => row_same (h.rows j hj) fun g hg => k g ((h.rows j hj).lt g hg).1 ((h.rows j hj).lt g hg).2, h.far, h.apart⟩
theorem Prs.stays (h : Prs B n ns ps vs lst w) (k : Below w.heap.size w w') : Prs B n ns ps vs lst w' := h.same fun g _ hg => k.block g hg
theorem Prs.kp {M : Nat} (h : Prs B n ns ps vs lst w) (hM : M < B) (k : Kp M w w') : Prs B n ns ps vs lst w' := h.same fun g hB hg => k.block g hg (by omega)
theorem Prs.congr {ns' : Nat → Nat} {ps' : Nat → List Nat} (h : Prs B n ns ps vs lst w) (e : ∀ k, k < n → ns k = ns' k ∧ ps k = ps' k) : Prs B n ns' ps' vs lst w :=
  ⟨by rw [encP_congr (ns' := ns) (vs' := vs) (fun k hk => ⟨(e k hk).1.symm, rfl⟩)]; exact h.row, fun k hk => by rw [← (e k hk).2]; exact h.rows k hk, h.far, h.apart⟩
/-- One more part, without pieces. -/
theorem Prs.push {x g c : Nat} {lst' : Value} (h : Prs B n ns ps vs lst w) (hv : lst' = .slice (some ⟨g, 0, none⟩) (n + 1) c) (hr : w'.ownsRow B 47 2 lst' (n + 1) (encP n ns vs ++ [.int .i64 (x : Int), .slice none 0 0])) (o : Obj) (hg : (w.alloc o).grownBy w' lst.ownBlock) (hl : lst.ownBlock = some g ∨ g = w.heap.size + 1) :
    Prs B (n + 1) (fun k => if k = n then x else ns k) (fun k => if k = n then [] else ps k) (updV vs n (.slice none 0 0)) lst' w' := by
  subst hv
  refine ⟨?_, fun k hk => ?_, fun k hk b hb => ?_, fun j k hj hk hjk b hb => ?_⟩
  · rw [encP_succ]
    rw [if_pos rfl, updV_same, encP_congr (ns' := ns) (vs' := vs) (fun k hk => ⟨by rw [if_neg (by omega)], updV_other _ _ (by omega)⟩)]
    exact hr
  · by_cases e : k = n
    · subst e; rw [if_pos rfl, updV_same]; simpa [encN] using World.ownsRow_nil _ _ _ _
    · rw [if_neg e, updV_other _ _ e]
      have hrk := h.rows k (by omega)
      exact row_same hrk fun q hq => grown_far hg (hrk.lt q hq).2 (h.far k (by omega) q hq)
  · by_cases e : k = n
    · subst e; rw [updV_same] at hb; cases hb
    · rw [updV_other _ _ e] at hb
      exact far_new (h.far k (by omega) b hb) ((h.rows k (by omega)).lt b hb).2 hl (Nat.le_succ _)
  · by_cases ej : j = n
    · subst ej; rw [updV_same] at hb; cases hb
    · rw [updV_other _ _ ej] at hb
      by_cases ek : k = n
      · subst ek; rw [updV_same]; intro h; cases h
      · rw [updV_other _ _ ek]; exact h.apart j k (by omega) (by omega) hjk b hb
/-- One more piece in a part: its list grows, and the part is written. -/
theorem Prs.put {x g gl cl k c : Nat} {v' : Value} (h : Prs B n ns ps vs (.slice (some ⟨gl, 0, none⟩) n cl) w) (hk : k < n) (hv : v' = .slice (some ⟨g, 0, none⟩) ((ps k).length + 1) c) (hr : w'.ownsRow B 3 1 v' ((ps k).length + 1) (encN (ps k) ++ [.int .i64 (x : Int)])) (o : Obj) (hg : (w.alloc o).grownBy w' (vs k).ownBlock) (hl : (vs k).ownBlock = some g ∨ g = w.heap.size + 1) :
    Prs B n ns (fun j => if j = k then ps k ++ [x] else ps j) (updV vs k v') (.slice (some ⟨gl, 0, none⟩) n cl) (w'.setCell ⟨gl, k * 2 + 1, none⟩ v') := by
  subst hv
  have hrl := h.row
  have hglz := (hrl.lt gl rfl).2
  have hnk : (vs k).ownBlock ≠ some gl := fun e => h.far k hk gl e rfl
  have hrow' : w'.ownsRow B 47 2 (.slice (some ⟨gl, 0, none⟩) n cl) n (encP n ns vs) := row_same hrl fun q hq => by
    simp [Value.ownBlock] at hq
    subst hq
    exact grown_far hg hglz hnk
  have hgl : g ≠ gl := by
    rcases hl with e | e
    · intro q; subst q; exact hnk e
    · omega
  have hst := (hrow'.stored (k * 2 + 1) (.slice (some ⟨g, 0, none⟩) ((ps k).length + 1) c)).1
  rw [encP_set ns vs _ hk] at hst
  refine ⟨hst, fun j hj => ?_, fun j hj b hb => ?_, fun i j hi hj hij b hb => ?_⟩
  · by_cases e : j = k
    · subst e
      rw [if_pos rfl, updV_same, List.length_append, encN_snoc]
      exact row_other (a := ⟨gl, j * 2 + 1, none⟩) hr (by simp [Value.ownBlock]; exact hgl) _
    · rw [if_neg e, updV_other _ _ e]
      have hrj := h.rows j hj
      have h1 : w'.ownsRow B 3 1 (vs j) (ps j).length (encN (ps j)) := row_same hrj fun q hq => grown_far hg (hrj.lt q hq).2 (fun e' => h.apart j k hj hk e q hq e')
      exact row_other (a := ⟨gl, k * 2 + 1, none⟩) h1 (fun e' => h.far j hj gl e' rfl) _
  · by_cases e : j = k
    · subst e; rw [updV_same] at hb; simp [Value.ownBlock] at hb ⊢; omega
    · rw [updV_other _ _ e] at hb; exact h.far j hj b hb
  · by_cases ei : i = k
    · subst ei
      rw [updV_same] at hb
      rw [updV_other _ _ (Ne.symm hij)]
      simp [Value.ownBlock] at hb
      subst hb
      intro e
      rcases hl with q | q
      · exact h.apart j i hj hi (Ne.symm hij) g e q
      · have := ((h.rows j hj).lt g e).2
        omega
    · rw [updV_other _ _ ei] at hb
      by_cases ej : j = k
      · subst ej
        rw [updV_same]
        exact far_new (fun e => h.apart i j hi hj hij b hb e) ((h.rows i hi).lt b hb).2 hl (Nat.le_succ _)
      · rw [updV_other _ _ ej]; exact h.apart i j hi hj hij b hb
end
/-- The parts of the pieces Q, in memory of a call's own. -/
def Parts (β : Nat → Nat) (Q : List Nat) (B : Nat) (lst : Value) (w : World) : Prop :=
  ∃ vs, Prs B (rts β Q).length (fun k => (rts β Q).getD k 0) (fun k => pof β Q ((rts β Q).getD k 0)) vs lst w
end Go.Proofs.YtbfpcolkbfljoaaDoor
