/-
  The reference's search for blocks: marks by number, six a tile.
-/
import Derived.Test.YtbfpcolkbfljoaaDoorBCon
namespace Go.Proofs.YtbfpcolkbfljoaaDoor
open Go.RowKit Go.Maps

/-- A piece's number out of its place, and back. -/
def x8 (i : Nat) : Nat := i / 6 * 8 + i % 6
def t6 (z : Nat) : Nat := z / 8 * 6 + z % 8
theorem x8_div (i : Nat) : x8 i / 8 = i / 6 := by unfold x8; omega
theorem x8_mod (i : Nat) : x8 i % 8 = i % 6 := by unfold x8; omega
theorem x8_t6 {z : Nat} (h : z % 8 ≤ 5) : x8 (t6 z) = z := by unfold x8 t6; omega
theorem t6_x8 (i : Nat) : t6 (x8 i) = i := by unfold x8 t6; omega
theorem x8_lt {i j : Nat} : x8 i < x8 j ↔ i < j := by unfold x8; omega
theorem x8_inj {i j : Nat} (h : x8 i = x8 j) : i = j := by rw [← t6_x8 i, ← t6_x8 j, h]
theorem Pl.t6 {d : Rl} {z : Nat} (h : Pl d z) : Go.Proofs.YtbfpcolkbfljoaaDoor.t6 z < 6 * d.n ∧ x8 (Go.Proofs.YtbfpcolkbfljoaaDoor.t6 z) = z := by
  have := h.at
  exact ⟨by unfold Go.Proofs.YtbfpcolkbfljoaaDoor.t6; omega, x8_t6 this.2⟩
def upF (F : Nat → Int) (t : Nat) (x : Int) : Nat → Int := fun j => if j = t then x else F j
theorem upF_same (F : Nat → Int) (t : Nat) (x : Int) : upF F t x t = x := by simp [upF]
theorem upF_other (F : Nat → Int) {t j : Nat} (x : Int) (h : j ≠ t) : upF F t x j = F j := by simp [upF, h]
section
variable {d : Rl} {C : Int → Int → Int → Bool}
theorem blk_same (hg : Gd d) {x y : Nat} (hx : Pl d x) (h : Con d C x y) : blk d C y = blk d C x := ((blk_is d C x).same hg hx h).eq.symm
theorem blk_con (x : Nat) : Con d C x (blk d C x) := (blk_is d C x).1
/-- The marks ahead of the search from i: the blocks of numbers below. -/
structure Out (d : Rl) (C : Int → Int → Int → Bool) (i : Nat) (F : Nat → Int) : Prop where
  no : ∀ j, j < 6 * d.n → ¬ Pl d (x8 j) → F j = -1
  old : ∀ j, j < 6 * d.n → Pl d (x8 j) → blk d C (x8 j) < x8 i → F j = blk d C (x8 j)
  new : ∀ j, j < 6 * d.n → Pl d (x8 j) → x8 i ≤ blk d C (x8 j) → F j = -1
/-- The marks within the search from i, but for the pieces E that aren't looked at. -/
structure Sr (d : Rl) (C : Int → Int → Int → Bool) (i : Nat) (F : Nat → Int) (E : List Nat) : Prop where
  no : ∀ j, j < 6 * d.n → ¬ Pl d (x8 j) → F j = -1
  old : ∀ j, j < 6 * d.n → Pl d (x8 j) → blk d C (x8 j) < x8 i → F j = blk d C (x8 j)
  new : ∀ j, j < 6 * d.n → Pl d (x8 j) → x8 i ≤ blk d C (x8 j) → F j = -1 ∨ (F j = x8 i ∧ Con d C (x8 i) (x8 j))
  own : F i = x8 i
  lie : i < 6 * d.n ∧ Pl d (x8 i) ∧ blk d C (x8 i) = x8 i
  stk : ∀ j, j ∈ E → j < 6 * d.n ∧ Con d C (x8 i) (x8 j)
  rest : ∀ j, j < 6 * d.n → F j = x8 i → j ∉ E → ∀ z, Adj d C (x8 j) z → F (t6 z) ≠ -1
variable {i k u : Nat} {F : Nat → Int} {E : List Nat}
theorem Out.start : Out d C 0 (fun _ => -1) := ⟨fun _ _ _ => rfl, fun j _ _ h => by have : x8 0 = 0 := rfl; omega, fun _ _ _ _ => rfl⟩
theorem Out.root (h : Out d C i F) (hi : i < 6 * d.n) (hp : Pl d (x8 i)) (hF : F i < 0) : blk d C (x8 i) = x8 i := by
  have h1 := (blk_is d C (x8 i)).le
  by_cases e : blk d C (x8 i) < x8 i
  · have := h.old i hi hp e; omega
  · omega
theorem Out.enter (h : Out d C i F) (hi : i < 6 * d.n) (hp : Pl d (x8 i)) (hF : F i < 0) : Sr d C i (upF F i (x8 i)) [i] := by
  have hr := h.root hi hp hF
  refine ⟨fun j hj hn => ?_, fun j hj hl hb => ?_, fun j hj hl hb => ?_, upF_same _ _ _, ⟨hi, hp, hr⟩, fun j hj => ?_, fun j hj e hE z hz => ?_⟩
  · by_cases e : j = i
    · subst e; exact absurd hp hn
    · rw [upF_other _ _ e]; exact h.no j hj hn
  · by_cases e : j = i
    · subst e; omega
    · rw [upF_other _ _ e]; exact h.old j hj hl hb
  · by_cases e : j = i
    · subst e; exact .inr ⟨upF_same _ _ _, .refl _⟩
    · rw [upF_other _ _ e]; exact .inl (h.new j hj hl hb)
  · simp at hj; subst hj; exact ⟨hi, .refl _⟩
  · exfalso
    have hji : j ≠ i := by simpa using hE
    rw [upF_other _ _ hji] at e
    by_cases hl : Pl d (x8 j)
    · by_cases hb : blk d C (x8 j) < x8 i
      · have := h.old j hj hl hb; omega
      · have := h.new j hj hl (by omega); omega
    · have := h.no j hj hl; omega
theorem Out.skip (hg : Gd d) (h : Out d C i F) (hi : i < 6 * d.n) (hs : 0 ≤ F i ∨ ¬ Pl d (x8 i)) : Out d C (i + 1) F := by
  have key : ∀ j, j < 6 * d.n → Pl d (x8 j) → blk d C (x8 j) = x8 i → False := fun j hj hl e => by
    have hc := blk_con (d := d) (C := C) (x8 j)
    have hp : Pl d (x8 i) := by rw [← e]; exact (blk_is d C (x8 j)).pl hl
    rw [e] at hc
    have hb := blk_same hg hl hc
    rcases hs with hs | hs
    · have := h.new i hi hp (by omega); omega
    · exact hs hp
  have hpl : ∀ j, Pl d (x8 j) → x8 (t6 (blk d C (x8 j))) = blk d C (x8 j) := fun j hl => ((blk_is d C (x8 j)).pl hl).t6.2
  refine ⟨h.no, fun j hj hl hb => ?_, fun j hj hl hb => h.new j hj hl ?_⟩
  · rw [← hpl j hl, x8_lt] at hb
    by_cases e : t6 (blk d C (x8 j)) = i
    · exact (key j hj hl (by rw [← e, hpl j hl])).elim
    · exact h.old j hj hl (by rw [← hpl j hl, x8_lt]; omega)
  · have : x8 i < x8 (i + 1) := x8_lt.2 (by omega)
    omega
theorem Out.end (h : Out d C (6 * d.n) F) : ∀ j, j < 6 * d.n → (Pl d (x8 j) → F j = blk d C (x8 j)) ∧ (¬ Pl d (x8 j) → F j = -1) := fun j hj =>
  ⟨fun hl => h.old j hj hl (by have := (blk_is d C (x8 j)).le; have := x8_lt.2 hj; omega), h.no j hj⟩
theorem Sr.take (hg : Gd d) (h : Sr d C i F E) (hk : k ∈ E) (hu : u < 6 * d.n) (ha : Adj d C (x8 k) (x8 u)) : Sr d C i (upF F u (x8 i)) (u :: E) := by
  have hcu : Con d C (x8 i) (x8 u) := (h.stk k hk).2.tail ha
  have hpu : Pl d (x8 u) := ha.1
  have hbu : blk d C (x8 u) = x8 i := by rw [blk_same hg h.lie.2.1 hcu, h.lie.2.2]
  refine ⟨fun j hj hn => ?_, fun j hj hl hb => ?_, fun j hj hl hb => ?_, ?_, h.lie, fun j hj => ?_, fun j hj e hE z hz => ?_⟩
  · by_cases e : j = u
    · subst e; exact absurd hpu hn
    · rw [upF_other _ _ e]; exact h.no j hj hn
  · by_cases e : j = u
    · subst e; omega
    · rw [upF_other _ _ e]; exact h.old j hj hl hb
  · by_cases e : j = u
    · subst e; exact .inr ⟨upF_same _ _ _, hcu⟩
    · rw [upF_other _ _ e]; exact h.new j hj hl hb
  · by_cases e : i = u
    · subst e; exact upF_same _ _ _
    · rw [upF_other _ _ e]; exact h.own
  · rcases List.mem_cons.1 hj with e | hj
    · subst e; exact ⟨hu, hcu⟩
    · exact h.stk j hj
  · have hE' : j ≠ u ∧ j ∉ E := by simpa using hE
    rw [upF_other _ _ hE'.1] at e
    by_cases e2 : t6 z = u
    · rw [e2, upF_same]; omega
    · rw [upF_other _ _ e2]; exact h.rest j hj e hE'.2 z hz
theorem Sr.pop (h : Sr d C i F (k :: E)) (hc : ∀ z, Adj d C (x8 k) z → F (t6 z) ≠ -1) : Sr d C i F E :=
  ⟨h.no, h.old, h.new, h.own, h.lie, fun j hj => h.stk j (List.mem_cons_of_mem _ hj), fun j hj e hE z hz => by
    by_cases ek : j = k
    · subst ek; exact hc z hz
    · exact h.rest j hj e (by simp [ek, hE]) z hz⟩
theorem Sr.mem {E' : List Nat} (h : Sr d C i F E) (hm : ∀ x, x ∈ E' ↔ x ∈ E) : Sr d C i F E' :=
  ⟨h.no, h.old, h.new, h.own, h.lie, fun j hj => h.stk j ((hm j).1 hj), fun j hj e hE z hz => h.rest j hj e (fun q => hE ((hm j).2 q)) z hz⟩
theorem Sr.leave (hg : Gd d) (h : Sr d C i F []) : Out d C (i + 1) F := by
  have hall : ∀ z, Con d C (x8 i) z → Pl d z ∧ F (t6 z) = x8 i := fun z hz => by
    refine hz.closed (S := fun z => (Pl d z ∧ Con d C (x8 i) z) ∧ F (t6 z) = x8 i) ⟨⟨h.lie.2.1, .refl _⟩, by rw [t6_x8]; exact h.own⟩ (fun t v ht ha => ?_) |> fun q => ⟨q.1.1, q.2⟩
    obtain ⟨⟨hpt, hct⟩, hft⟩ := ht
    have h1 := hpt.t6
    have h2 := ha.1.t6
    have hne := h.rest (t6 t) h1.1 hft (by simp) v (by rw [h1.2]; exact ha)
    have hcv : Con d C (x8 i) v := hct.tail ha
    have hbv : blk d C v = x8 i := by rw [blk_same hg h.lie.2.1 hcv, h.lie.2.2]
    refine ⟨⟨ha.1, hcv⟩, ?_⟩
    rcases h.new (t6 v) h2.1 (by rw [h2.2]; exact ha.1) (by rw [h2.2]; omega) with e | e
    · exact absurd e hne
    · exact e.1
  have hpl : ∀ j, Pl d (x8 j) → x8 (t6 (blk d C (x8 j))) = blk d C (x8 j) := fun j hl => ((blk_is d C (x8 j)).pl hl).t6.2
  refine ⟨h.no, fun j hj hl hb => ?_, fun j hj hl hb => ?_⟩
  · rw [← hpl j hl, x8_lt] at hb
    by_cases e : t6 (blk d C (x8 j)) = i
    · have e2 : blk d C (x8 j) = x8 i := by rw [← e, hpl j hl]
      have hc := blk_con (d := d) (C := C) (x8 j)
      rw [e2] at hc
      have := (hall (x8 j) (hc.symm hg hl)).2
      rw [t6_x8] at this
      rw [this, e2]
    · exact h.old j hj hl (by rw [← hpl j hl, x8_lt]; omega)
  · have h1 : x8 i < x8 (i + 1) := x8_lt.2 (by omega)
    rcases h.new j hj hl (by omega) with e | e
    · exact e
    · have := blk_same hg h.lie.2.1 e.2
      have := h.lie.2.2
      omega
/-- What isn't -1 is a number. -/
theorem Sr.val (h : Sr d C i F E) {j : Nat} (hj : j < 6 * d.n) : F j = -1 ∨ 0 ≤ F j := by
  by_cases hl : Pl d (x8 j)
  · by_cases hb : blk d C (x8 j) < x8 i
    · have := h.old j hj hl hb; right; omega
    · rcases h.new j hj hl (by omega) with e | e
      · exact .inl e
      · right; have := e.1; omega
  · exact .inl (h.no j hj hl)
end
/-- How many are not marked. -/
def fre (N : Nat) (F : Nat → Int) : Nat := ((List.range N).filter fun j => decide (F j < 0)).length
theorem fre_le (N : Nat) (F : Nat → Int) : fre N F ≤ N := by
  unfold fre
  exact Nat.le_trans (List.length_filter_le _ _) (by simp)
theorem fre_up {N u : Nat} {F : Nat → Int} {x : Int} (hu : u < N) (hF : F u < 0) (hx : 0 ≤ x) : fre N (upF F u x) + 1 = fre N F := by
  unfold fre
  induction N with
  | zero => omega
  | succ N ih =>
    rw [List.range_succ, List.filter_append, List.filter_append, List.length_append, List.length_append]
    by_cases e : u = N
    · subst e
      have h1 : (List.range u).filter (fun j => decide (upF F u x j < 0)) = (List.range u).filter (fun j => decide (F j < 0)) := by
        apply List.filter_congr
        intro j hj
        have := List.mem_range.1 hj
        rw [upF_other _ _ (by omega)]
      rw [h1]
      have h2 : ¬ upF F u x u < 0 := by rw [upF_same]; omega
      simp [h2, hF]
    · have h1 := ih (by omega)
      have h2 : upF F u x N = F N := upF_other _ _ (by omega)
      simp only [List.filter_cons, List.filter_nil, h2]
      omega

/-- Numbers behind a base that keep a property, of the first q. -/
def fq (P : Nat → Bool) (b q : Nat) : List Nat := ((List.range q).filter P).map fun r => b + r
theorem fq_yes {P : Nat → Bool} {b q : Nat} (h : P q = true) : fq P b (q + 1) = fq P b q ++ [b + q] := by unfold fq; rw [List.range_succ, List.filter_append]; simp [h]
theorem fq_no {P : Nat → Bool} {b q : Nat} (h : P q = false) : fq P b (q + 1) = fq P b q := by unfold fq; rw [List.range_succ, List.filter_append]; simp [h]
theorem fq_len (P : Nat → Bool) (b q : Nat) : (fq P b q).length ≤ q := by
  unfold fq; rw [List.length_map]
  exact Nat.le_trans (List.length_filter_le _ _) (by simp)
theorem mem_fq {P : Nat → Bool} {b q y : Nat} : y ∈ fq P b q ↔ ∃ r, r < q ∧ P r = true ∧ y = b + r := by
  unfold fq
  simp only [List.mem_map, List.mem_filter, List.mem_range]
  constructor
  · rintro ⟨r, ⟨h1, h2⟩, rfl⟩; exact ⟨r, h1, h2, rfl⟩
  · rintro ⟨r, h1, h2, rfl⟩; exact ⟨r, ⟨h1, h2⟩, rfl⟩
/-- The pieces of the tile that touch; the pieces beyond a side that hang on. -/
def pT (d : Rl) (t p : Nat) (q : Nat) : Bool := tch p q && Lie d.n d.Z t q
def pS (d : Rl) (C : Int → Int → Int → Bool) (u : Int) (o : Nat) (q : Nat) : Bool := (Lie d.n d.Z u q && decide (0 ≤ oth q o)) && !C u q o
/-- A side is open. -/
def opn (d : Rl) (C : Int → Int → Int → Bool) (t p s : Nat) : Prop := 0 ≤ oth p s ∧ C t p s = false ∧ 0 ≤ bey d.W d.H t s
instance (d : Rl) (C : Int → Int → Int → Bool) (t p s : Nat) : Decidable (opn d C t p s) := by unfold opn; infer_instance
def nrs (d : Rl) (C : Int → Int → Int → Bool) (t p s : Nat) : List Nat :=
  if opn d C t p s then fq (pS d C (bey d.W d.H t s) ((s + 2) % 4)) ((bey d.W d.H t s).toNat * 6) 6 else []
def nr (d : Rl) (C : Int → Int → Int → Bool) (t p : Nat) : Nat → List Nat
  | 0 => fq (pT d t p) (t * 6) 6
  | s + 1 => nr d C t p s ++ nrs d C t p s
theorem nrs_yes {d : Rl} {C : Int → Int → Int → Bool} {t p s : Nat} (h : opn d C t p s) : nrs d C t p s = fq (pS d C (bey d.W d.H t s) ((s + 2) % 4)) ((bey d.W d.H t s).toNat * 6) 6 := by unfold nrs; rw [if_pos h]
theorem nrs_no {d : Rl} {C : Int → Int → Int → Bool} {t p s : Nat} (h : ¬ opn d C t p s) : nrs d C t p s = [] := by unfold nrs; rw [if_neg h]
theorem nrs_len (d : Rl) (C : Int → Int → Int → Bool) (t p s : Nat) : (nrs d C t p s).length ≤ 6 := by
  by_cases h : opn d C t p s
  · rw [nrs_yes h]; exact fq_len _ _ _
  · rw [nrs_no h]; simp
theorem nr_len (d : Rl) (C : Int → Int → Int → Bool) (t p s : Nat) : (nr d C t p s).length ≤ 6 + 6 * s := by
  induction s with
  | zero => exact fq_len _ _ _
  | succ s ih =>
    show (nr d C t p s ++ nrs d C t p s).length ≤ _
    rw [List.length_append]
    have := nrs_len d C t p s
    omega
theorem mem_nr {d : Rl} {C : Int → Int → Int → Bool} {t p s y : Nat} : y ∈ nr d C t p s ↔ y ∈ fq (pT d t p) (t * 6) 6 ∨ ∃ s', s' < s ∧ y ∈ nrs d C t p s' := by
  induction s with
  | zero => simp [nr]
  | succ s ih =>
    show y ∈ nr d C t p s ++ nrs d C t p s ↔ _
    rw [List.mem_append, ih]
    constructor
    · rintro ((h | ⟨s', h1, h2⟩) | h)
      · exact .inl h
      · exact .inr ⟨s', by omega, h2⟩
      · exact .inr ⟨s, by omega, h⟩
    · rintro (h | ⟨s', h1, h2⟩)
      · exact .inl (.inl h)
      · by_cases e : s' = s
        · subst e; exact .inr h2
        · exact .inl (.inr ⟨s', by omega, h2⟩)
/-- What is near hangs on. -/
theorem nr_adj {d : Rl} {C : Int → Int → Int → Bool} {k y : Nat} (h : y ∈ nr d C (k / 6) (k % 6) 4) : y < 6 * d.n ∧ Adj d C (x8 k) (x8 y) := by
  unfold Adj Pl
  rw [x8_div, x8_mod, x8_div, x8_mod]
  rcases mem_nr.1 h with h | ⟨s, hs, h⟩
  · obtain ⟨r, hr, hp, rfl⟩ := mem_fq.1 h
    unfold pT at hp
    rw [Bool.and_eq_true] at hp
    have e1 : (k / 6 * 6 + r) / 6 = k / 6 := by omega
    have e2 : (k / 6 * 6 + r) % 6 = r := by omega
    rw [e1, e2]
    have hl := (lie_in hp.2).1
    exact ⟨by omega, hp.2, .inl ⟨rfl, hp.1⟩⟩
  · by_cases ho : opn d C (k / 6) (k % 6) s
    · rw [nrs_yes ho] at h
      obtain ⟨r, hr, hp, rfl⟩ := mem_fq.1 h
      obtain ⟨o1, o2, o3⟩ := ho
      obtain ⟨u, hu⟩ := Int.eq_ofNat_of_zero_le o3
      unfold pS at hp
      rw [Bool.and_eq_true, Bool.and_eq_true, decide_eq_true_eq] at hp
      rw [hu] at hp ⊢
      have e1 : ((u : Int).toNat * 6 + r) / 6 = u := by omega
      have e2 : ((u : Int).toNat * 6 + r) % 6 = r := by omega
      rw [e1, e2]
      have hl := (lie_in hp.1.1).1
      have es : ((s : Int) + 2) % 4 = (((s + 2) % 4 : Nat) : Int) := by omega
      refine ⟨by omega, hp.1.1, .inr ⟨s, by omega, by omega, o1, o2, hu, ?_, ?_⟩⟩
      · rw [es]; exact hp.1.2
      · rw [es]; simpa using hp.2
    · rw [nrs_no ho] at h; cases h
theorem adj_nr {d : Rl} {C : Int → Int → Int → Bool} {k z : Nat} (h : Adj d C (x8 k) z) : t6 z ∈ nr d C (k / 6) (k % 6) 4 := by
  have hp := h.1.at
  unfold Adj Pl at h
  rw [x8_div, x8_mod] at h
  rw [mem_nr]
  obtain ⟨hl, ⟨e, ht⟩ | ⟨s, s0, s3, h1, h2, h3, h4, h5⟩⟩ := h
  · left
    rw [mem_fq]
    refine ⟨z % 8, by omega, ?_, by unfold t6; omega⟩
    unfold pT
    rw [e, ht, hl]; rfl
  · right
    obtain ⟨s, rfl⟩ := Int.eq_ofNat_of_zero_le s0
    have es : ((s : Int) + 2) % 4 = (((s + 2) % 4 : Nat) : Int) := by omega
    refine ⟨s, by omega, ?_⟩
    rw [nrs_yes ⟨h1, h2, by rw [h3]; omega⟩, mem_fq, h3]
    refine ⟨z % 8, by omega, ?_, by unfold t6; omega⟩
    unfold pS
    rw [← es, hl, h5, decide_eq_true h4]; rfl
end Go.Proofs.YtbfpcolkbfljoaaDoor
