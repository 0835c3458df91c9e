/-
  What hangs together: joined tiles, the least tile of each part, and what a search through the tiles keeps.
-/
import Derived.Test.YtaepiegbpgkciaaRoad
namespace Go.Proofs.Ytaepiegbpgkciaa

/-- Two tiles are joined. -/
def J (W H : Int) (Z : Nat → Int) (a b : Nat) : Prop := ∃ s : Int, 0 ≤ s ∧ s ≤ 3 ∧ met W H Z a s = b
/-- Two tiles hang together. -/
inductive Con (W H : Int) (Z : Nat → Int) : Nat → Nat → Prop
  | refl (a : Nat) : Con W H Z a a
  | tail {a b c : Nat} : Con W H Z a b → J W H Z b c → Con W H Z a c
section
variable {W H : Int} {n : Nat} {Z : Nat → Int}
theorem J.lt (hs : Sized W H) (hn : (n : Int) = W * H) {a b : Nat} (ha : a < n) (h : J W H Z a b) : b < n := by
  obtain ⟨s, h0, h3, h⟩ := h
  have := met_in (Z := Z) (s := s) hs (show (0 : Int) ≤ (a : Int) by omega) (by omega) (by omega)
  omega
theorem J.symm (hs : Sized W H) (hn : (n : Int) = W * H) {a b : Nat} (ha : a < n) (h : J W H Z a b) : J W H Z b a := by
  obtain ⟨s, h0, h3, h⟩ := h
  refine ⟨(s + 2) % 4, by omega, by omega, ?_⟩
  rw [← h]
  exact met_back hs (by omega) (by omega) h0 h3 (by omega)
theorem J.arms {a b : Nat} (h : J W H Z a b) : Z a ≠ 0 ∧ Z b ≠ 0 := by
  obtain ⟨s, h0, h3, h⟩ := h
  obtain ⟨e, k0, k1, k2⟩ := met_yes (W := W) (H := H) (Z := Z) (t := a) (s := s) (by omega)
  rw [← e, h] at k2
  rw [Int.toNat_natCast] at k1 k2
  refine ⟨fun z => ?_, fun z => ?_⟩
  · rw [z, has_zero] at k1; cases k1
  · rw [z, has_zero] at k2; cases k2
theorem Con.lt (hs : Sized W H) (hn : (n : Int) = W * H) {a b : Nat} (ha : a < n) (h : Con W H Z a b) : b < n := by
  induction h with
  | refl => exact ha
  | tail _ j ih => exact j.lt hs hn ih
theorem Con.trans {a b c : Nat} (h : Con W H Z a b) (k : Con W H Z b c) : Con W H Z a c := by
  induction k with
  | refl => exact h
  | tail _ j ih => exact .tail ih j
theorem Con.symm (hs : Sized W H) (hn : (n : Int) = W * H) {a b : Nat} (ha : a < n) (h : Con W H Z a b) : Con W H Z b a := by
  induction h with
  | refl => exact .refl _
  | tail k j ih => exact (Con.tail (.refl _) (j.symm hs hn (k.lt hs hn ha))).trans ih
theorem Con.arms {a b : Nat} (h : Con W H Z a b) (hb : Z b ≠ 0) : Z a ≠ 0 := by
  induction h with
  | refl => exact hb
  | tail _ j ih => exact ih j.arms.1
theorem Con.arms' {a b : Nat} (h : Con W H Z a b) (ha : Z a ≠ 0) : Z b ≠ 0 := by
  cases h with
  | refl => exact ha
  | tail _ j => exact j.arms.2
/-- What is closed under being joined holds of all that hangs together with what it holds of. -/
theorem Con.closed {S : Nat → Prop} {a b : Nat} (h : Con W H Z a b) (ha : S a) (hc : ∀ t u, S t → J W H Z t u → S u) : S b := by
  induction h with
  | refl => exact ha
  | tail _ j ih => exact hc _ _ ih j

/-- The least tile of a part. -/
def Lst (W H : Int) (n : Nat) (Z : Nat → Int) (q t : Nat) : Prop := q ≤ t ∧ Con W H Z q t ∧ ∀ u, u < n → Con W H Z t u → q ≤ u
/-- For each tile the least one that hangs together with it; -1 for one without arms. -/
def IsPart (W H : Int) (n : Nat) (Z P : Nat → Int) : Prop := ∀ t, t < n → (Z t = 0 → P t = -1) ∧ (Z t ≠ 0 → ∃ q : Nat, P t = q ∧ Lst W H n Z q t)
theorem IsPart.unique {P Q : Nat → Int} (hs : Sized W H) (hn : (n : Int) = W * H) (h : IsPart W H n Z P) (k : IsPart W H n Z Q) {t : Nat} (ht : t < n) : P t = Q t := by
  by_cases hz : Z t = 0
  · rw [(h t ht).1 hz, (k t ht).1 hz]
  · obtain ⟨q, e, l1, l2, l3⟩ := (h t ht).2 hz
    obtain ⟨q', e', m1, m2, m3⟩ := (k t ht).2 hz
    have a := l3 q' (by omega) (m2.symm hs hn (by omega))
    have b := m3 q (by omega) (l2.symm hs hn (by omega))
    omega
theorem IsPart.low {P : Nat → Int} (h : IsPart W H n Z P) {t : Nat} (ht : t < n) : P t = -1 ∨ (0 ≤ P t ∧ P t ≤ t) := by
  by_cases hz : Z t = 0
  · exact .inl ((h t ht).1 hz)
  · obtain ⟨q, e, l1, _⟩ := (h t ht).2 hz
    exact .inr ⟨by omega, by omega⟩
theorem IsPart.iff {P : Nat → Int} (h : IsPart W H n Z P) {t : Nat} (ht : t < n) : P t < 0 ↔ Z t = 0 := by
  by_cases hz : Z t = 0
  · rw [(h t ht).1 hz]; exact ⟨fun _ => hz, fun _ => by omega⟩
  · obtain ⟨q, e, l1, _⟩ := (h t ht).2 hz
    exact ⟨fun h => by omega, fun h => absurd h hz⟩
theorem IsPart.root {P : Nat → Int} (hs : Sized W H) (hn : (n : Int) = W * H) (h : IsPart W H n Z P) {t q : Nat} (ht : t < n) (e : P t = q) : q < n ∧ P q = q := by
  have hz : Z t ≠ 0 := fun hz => by rw [(h t ht).1 hz] at e; omega
  obtain ⟨q', e', l1, l2, l3⟩ := (h t ht).2 hz
  obtain rfl : q = q' := by omega
  refine ⟨by omega, ?_⟩
  obtain ⟨r, er, m1, m2, m3⟩ := (h q (by omega)).2 (l2.arms hz)
  have := l3 r (by omega) ((m2.trans l2).symm hs hn (by omega))
  omega
theorem IsPart.same {P : Nat → Int} (hs : Sized W H) (hn : (n : Int) = W * H) (h : IsPart W H n Z P) {t u : Nat} (ht : t < n) (hj : J W H Z t u) : P t = P u := by
  have hu := hj.lt hs hn ht
  obtain ⟨za, zb⟩ := hj.arms
  obtain ⟨q, e, l1, l2, l3⟩ := (h t ht).2 za
  obtain ⟨r, er, m1, m2, m3⟩ := (h u hu).2 zb
  have a := l3 r (by omega) ((Con.tail (.refl t) hj).trans (m2.symm hs hn (by omega)))
  have b := m3 q (by omega) ((Con.tail (.refl u) (hj.symm hs hn ht)).trans (l2.symm hs hn (by omega)))
  omega

/-- One element changed. -/
def upd {α : Type} (F : Nat → α) (t : Nat) (x : α) : Nat → α := fun i => if i = t then x else F i
theorem upd_same {α : Type} (F : Nat → α) (t : Nat) (x : α) : upd F t x t = x := if_pos rfl
theorem upd_other {α : Type} (F : Nat → α) {t i : Nat} (x : α) (h : i ≠ t) : upd F t x i = F i := if_neg h
/-- How many of the first n numbers have no value yet. -/
def free (P : Nat → Int) (c : Int) : Nat → Nat
  | 0 => 0
  | n + 1 => free P c n + if c < P n then 1 else 0
theorem free_congr {P Q : Nat → Int} {c : Int} {n : Nat} (h : ∀ i, i < n → P i = Q i) : free P c n = free Q c n := by
  induction n with
  | zero => rfl
  | succ n ih => unfold free; rw [ih (fun i hi => h i (by omega)), h n (by omega)]
theorem free_upd {P : Nat → Int} {c x : Int} {n t : Nat} (ht : t < n) (hc : c < P t) (hx : x ≤ c) : free (upd P t x) c n + 1 = free P c n := by
  induction n with
  | zero => omega
  | succ n ih =>
    unfold free
    by_cases e : t = n
    · subst e
      rw [upd_same, if_pos hc, if_neg (by omega), free_congr (Q := P) (fun i hi => upd_other P x (by omega))]
    · have := ih (by omega)
      rw [upd_other P x (i := n) (by omega)]
      omega
theorem free_le (P : Nat → Int) (c : Int) (n : Nat) : free P c n ≤ n := by
  induction n with
  | zero => exact Nat.le_refl _
  | succ n ih => unfold free; split <;> omega

/-- The search of the program, ahead of the tile f: the parts of the tiles ahead of it are found, whole. -/
structure Out (W H : Int) (n : Nat) (Z : Nat → Int) (f : Nat) (P : Nat → Int) : Prop where
  all : ∀ t, t < n → P t = -1 ∨ ∃ q : Nat, P t = q ∧ q < f ∧ Z t ≠ 0 ∧ Lst W H n Z q t
  found : ∀ t, t < n → t < f → Z t ≠ 0 → 0 ≤ P t
  whole : ∀ t u, t < n → 0 ≤ P t → J W H Z t u → 0 ≤ P u
/-- The search within the part of the tile f: what has been reached, and the path on which it stands (the last tile first). -/
structure In (W H : Int) (n : Nat) (Z : Nat → Int) (f : Nat) (Q P : Nat → Int) (L : List Nat) : Prop where
  old : ∀ t, t < n → P t = Q t ∨ (Q t = -1 ∧ P t = f ∧ Z t ≠ 0 ∧ Con W H Z f t)
  first : P f = f
  path : ∀ t, t ∈ L → t < n ∧ Q t = -1 ∧ P t = f
  rest : ∀ t u, t < n → Q t = -1 → P t = f → t ∉ L → J W H Z t u → 0 ≤ P u
theorem Out.start (W H : Int) (n : Nat) (Z : Nat → Int) : Out W H n Z 0 (fun _ => -1) :=
  ⟨fun _ _ => .inl rfl, fun t _ h => by omega, fun t u _ h => by simp at h⟩
theorem Out.end {P : Nat → Int} {f : Nat} (h : Out W H n Z f P) (hf : n ≤ f) : IsPart W H n Z P := fun t ht => by
  rcases h.all t ht with e | ⟨q, e, _, z, l⟩
  · refine ⟨fun _ => e, fun z => ?_⟩
    have := h.found t ht (by omega) z
    omega
  · exact ⟨fun hz => absurd hz z, fun _ => ⟨q, e, l⟩⟩
theorem Out.skip {P : Nat → Int} {f : Nat} (h : Out W H n Z f P) (k : Z f = 0 ∨ 0 ≤ P f) : Out W H n Z (f + 1) P := by
  refine ⟨fun t ht => ?_, fun t ht hf hz => ?_, h.whole⟩
  · rcases h.all t ht with e | ⟨q, e, l, r⟩
    · exact .inl e
    · exact .inr ⟨q, e, by omega, r⟩
  · by_cases e : t = f
    · subst e
      rcases k with k | k
      · exact absurd k hz
      · exact k
    · exact h.found t ht (by omega) hz
theorem Out.enter {P : Nat → Int} {f : Nat} (h : Out W H n Z f P) (hf : f < n) (hz : Z f ≠ 0) (hp : P f < 0) : In W H n Z f P (upd P f f) [f] := by
  have hq : P f = -1 := by
    rcases h.all f hf with e | ⟨q, e, _⟩
    · exact e
    · omega
  refine ⟨fun t ht => ?_, upd_same _ _ _, fun t ht => ?_, fun t u ht hq' hp' hn => ?_⟩
  · by_cases e : t = f
    · subst e; exact .inr ⟨hq, upd_same _ _ _, hz, .refl _⟩
    · exact .inl (upd_other _ _ e)
  · simp at ht; subst ht; exact ⟨hf, hq, upd_same _ _ _⟩
  · simp at hn
    rw [upd_other _ _ hn] at hp'
    omega
theorem In.push {Q P : Nat → Int} {f t u : Nat} {L : List Nat} (hs : Sized W H) (hn : (n : Int) = W * H) (h : In W H n Z f Q P (t :: L)) (hj : J W H Z t u) (hu : P u < 0) (hQ : ∀ t, t < n → -1 ≤ Q t) : In W H n Z f Q (upd P u f) (u :: t :: L) ∧ u < n := by
  obtain ⟨ht, hq, hp⟩ := h.path t (by simp)
  have hun := hj.lt hs hn ht
  have hqu : Q u = -1 := by
    rcases h.old u hun with e | ⟨e, _⟩
    · have := hQ u hun; omega
    · exact e
  have hf : Con W H Z f t := by
    rcases h.old t ht with e | ⟨_, _, _, e⟩
    · omega
    · exact e
  refine ⟨⟨fun i hi => ?_, ?_, fun i hi => ?_, fun i v hi hqi hpi hni hji => ?_⟩, hun⟩
  · by_cases e : i = u
    · subst e; exact .inr ⟨hqu, upd_same _ _ _, hj.arms.2, .tail hf hj⟩
    · rw [upd_other _ _ e]; exact h.old i hi
  · by_cases e : f = u
    · rw [e]; exact upd_same _ _ _
    · rw [upd_other _ _ e]; exact h.first
  · by_cases e : i = u
    · subst e; exact ⟨hun, hqu, upd_same _ _ _⟩
    · rw [upd_other _ _ e]
      exact h.path i (by simpa [e] using hi)
  · have e : i ≠ u := fun e => hni (by simp [e])
    rw [upd_other _ _ e] at hpi
    have := h.rest i v hi hqi hpi (fun k => hni (List.mem_cons_of_mem _ k)) hji
    by_cases ev : v = u
    · rw [ev, upd_same]; omega
    · rw [upd_other _ _ ev]; exact this
theorem In.pop {Q P : Nat → Int} {f t : Nat} {L : List Nat} (h : In W H n Z f Q P (t :: L)) (hc : ∀ u, J W H Z t u → 0 ≤ P u) : In W H n Z f Q P L := by
  refine ⟨h.old, h.first, fun i hi => h.path i (List.mem_cons_of_mem _ hi), fun i v hi hqi hpi hni hji => ?_⟩
  by_cases e : i = t
  · subst e; exact hc v hji
  · exact h.rest i v hi hqi hpi (by simp [e, hni]) hji
theorem In.leave {Q P : Nat → Int} {f : Nat} (hs : Sized W H) (hn : (n : Int) = W * H) (h : In W H n Z f Q P []) (k : Out W H n Z f Q) : Out W H n Z (f + 1) P := by
  have hup : ∀ t, t < n → 0 ≤ Q t → P t = Q t := fun t ht hq => by
    rcases h.old t ht with e | ⟨e, _⟩
    · exact e
    · omega
  refine ⟨fun t ht => ?_, fun t ht hf hz => ?_, fun t u ht hp hj => ?_⟩
  · rcases h.old t ht with e | ⟨eq, ep, z, c⟩
    · rcases k.all t ht with e' | ⟨q, e', l, r⟩
      · exact .inl (by omega)
      · exact .inr ⟨q, by omega, by omega, r⟩
    · have hl : ∀ u, u < n → Con W H Z t u → f ≤ u := fun u hu hc => by
        by_cases hlt : u < f
        · exfalso
          have h0 := k.found u hu hlt (hc.arms' z)
          have := (hc.symm hs hn ht).closed (S := fun x => x < n ∧ 0 ≤ Q x) ⟨hu, h0⟩ (fun a b ha hj => ⟨hj.lt hs hn ha.1, k.whole a b ha.1 ha.2 hj⟩)
          omega
        · omega
      exact .inr ⟨f, ep, by omega, z, hl t ht (.refl _), c, hl⟩
  · by_cases e : t = f
    · subst e; rw [h.first]; omega
    · have := k.found t ht (by omega) hz
      rw [hup t ht this]; exact this
  · have hu := hj.lt hs hn ht
    rcases h.old t ht with e | ⟨eq, ep, _, _⟩
    · have := k.whole t u ht (by omega) hj
      rw [hup u hu this]; exact this
    · exact h.rest t u ht eq ep (by simp) hj

/-- The search of the reference, ahead of the tile f. -/
structure Rut (W H : Int) (n : Nat) (Z : Nat → Int) (f : Nat) (P : Nat → Int) : Prop where
  none : ∀ t, t < n → Z t = 0 → P t = -1
  all : ∀ t, t < n → Z t ≠ 0 → (f ≤ t ∧ P t = t) ∨ ∃ q : Nat, P t = q ∧ q < f ∧ Lst W H n Z q t
  whole : ∀ t u, t < n → Z t ≠ 0 → P t < f → J W H Z t u → P u < f
structure Rin (W H : Int) (n : Nat) (Z : Nat → Int) (f : Nat) (Q P : Nat → Int) (L : List Nat) : Prop where
  old : ∀ t, t < n → P t = Q t ∨ (Q t = t ∧ f < t ∧ P t = f ∧ Con W H Z f t)
  path : ∀ t, t ∈ L → t < n ∧ P t = f
  rest : ∀ t u, t < n → P t = f → t ∉ L → J W H Z t u → P u ≤ f
theorem Rut.start (W H : Int) (n : Nat) (Z : Nat → Int) (P : Nat → Int) (h : ∀ t, t < n → P t = if Z t = 0 then -1 else (t : Int)) : Rut W H n Z 0 P := by
  refine ⟨fun t ht hz => by rw [h t ht, if_pos hz], fun t ht hz => .inl ⟨by omega, by rw [h t ht, if_neg hz]⟩, fun t u ht hz hp => ?_⟩
  rw [h t ht, if_neg hz] at hp
  omega
theorem Rut.end {P : Nat → Int} {f : Nat} (h : Rut W H n Z f P) (hf : n ≤ f) : IsPart W H n Z P := fun t ht => by
  refine ⟨h.none t ht, fun z => ?_⟩
  rcases h.all t ht z with e | ⟨q, e, _, l⟩
  · omega
  · exact ⟨q, e, l⟩
theorem Rut.skip {P : Nat → Int} {f : Nat} (h : Rut W H n Z f P) (k : P f ≠ f) : Rut W H n Z (f + 1) P := by
  have hne : ∀ t, t < n → Z t ≠ 0 → P t ≠ f := fun t ht hz e => by
    rcases h.all t ht hz with ⟨_, e'⟩ | ⟨q, e', l, _⟩
    · obtain rfl : t = f := by omega
      exact k e'
    · omega
  refine ⟨h.none, fun t ht hz => ?_, fun t u ht hz hp hj => ?_⟩
  · rcases h.all t ht hz with ⟨a, b⟩ | ⟨q, e, l, r⟩
    · have := hne t ht hz
      exact .inl ⟨by omega, b⟩
    · exact .inr ⟨q, e, by omega, r⟩
  · have := hne t ht hz
    have := h.whole t u ht hz (by omega) hj
    omega
theorem Rut.enter {P : Nat → Int} {f : Nat} (h : Rut W H n Z f P) (hf : f < n) (hp : P f = f) : Rin W H n Z f P P [f] := by
  refine ⟨fun t _ => .inl rfl, fun t ht => ?_, fun t u ht hpt hnt hj => ?_⟩
  · simp at ht; subst ht; exact ⟨hf, hp⟩
  · exfalso
    rcases h.all t ht hj.arms.1 with ⟨a, b⟩ | ⟨q, e, l, _⟩
    · exact hnt (by simp; omega)
    · omega
theorem Rin.take {Q P : Nat → Int} {f t u : Nat} {L : List Nat} (hs : Sized W H) (hn : (n : Int) = W * H) (h : Rin W H n Z f Q P L) (ht : t < n) (hpt : P t = f) (hQ : ∀ t, t < n → P t = f → Con W H Z f t) (hQ2 : ∀ t, t < n → P t ≤ f ∨ (P t = t ∧ Q t = t))
    (hj : J W H Z t u) (hu : (f : Int) < P u) : Rin W H n Z f Q (upd P u f) (u :: L) ∧ u < n := by
  have hun := hj.lt hs hn ht
  obtain ⟨e1, e2⟩ : P u = u ∧ Q u = u := by
    rcases hQ2 u hun with k | k
    · omega
    · exact k
  refine ⟨⟨fun i hi => ?_, fun i hi => ?_, fun i v hi hpi hni hji => ?_⟩, hun⟩
  · by_cases e : i = u
    · subst e; exact .inr ⟨e2, by omega, upd_same _ _ _, .tail (hQ t ht hpt) hj⟩
    · rw [upd_other _ _ e]; exact h.old i hi
  · by_cases e : i = u
    · subst e; exact ⟨hun, upd_same _ _ _⟩
    · rw [upd_other _ _ e]; exact h.path i (by simpa [e] using hi)
  · have e : i ≠ u := fun e => hni (by simp [e])
    rw [upd_other _ _ e] at hpi
    have := h.rest i v hi hpi (fun k => hni (List.mem_cons_of_mem _ k)) hji
    by_cases ev : v = u
    · rw [ev, upd_same]; omega
    · rw [upd_other _ _ ev]; exact this
theorem Rin.facts {Q P : Nat → Int} {f : Nat} {L : List Nat} (h : Rin W H n Z f Q P L) (k : Rut W H n Z f Q) :
    (∀ t, t < n → P t = f → Con W H Z f t) ∧ (∀ t, t < n → P t ≤ f ∨ (P t = t ∧ Q t = t)) := by
  refine ⟨fun t ht hp => ?_, fun t ht => ?_⟩
  · rcases h.old t ht with e | ⟨_, _, _, c⟩
    · by_cases hz : Z t = 0
      · have := k.none t ht hz; omega
      · rcases k.all t ht hz with ⟨a, b⟩ | ⟨q, e', l, _⟩
        · obtain rfl : t = f := by omega
          exact .refl _
        · omega
    · exact c
  · rcases h.old t ht with e | ⟨_, _, e, _⟩
    · by_cases hz : Z t = 0
      · have := k.none t ht hz; exact .inl (by omega)
      · rcases k.all t ht hz with ⟨a, b⟩ | ⟨q, e', l, _⟩
        · exact .inr ⟨by omega, b⟩
        · exact .inl (by omega)
    · exact .inl (by omega)
theorem Rin.leave {Q P : Nat → Int} {f : Nat} (hs : Sized W H) (hn : (n : Int) = W * H) (h : Rin W H n Z f Q P []) (k : Rut W H n Z f Q) : Rut W H n Z (f + 1) P := by
  have hf := (h.facts k).1
  refine ⟨fun t ht hz => ?_, fun t ht hz => ?_, fun t u ht hz hp hj => ?_⟩
  · rcases h.old t ht with e | ⟨e, _⟩
    · rw [e]; exact k.none t ht hz
    · have := k.none t ht hz; omega
  · by_cases e : P t = f
    · have hl : ∀ u, u < n → Con W H Z t u → f ≤ u := fun u hu hc => by
        by_cases hlt : u < f
        · exfalso
          have hzu := hc.arms' hz
          have hqu : Q u < f := by
            rcases k.all u hu hzu with ⟨a, b⟩ | ⟨q, e', l, _⟩ <;> omega
          have hc2 := (hc.symm hs hn ht).closed (S := fun x => x < n ∧ Z x ≠ 0 ∧ Q x < f) ⟨hu, hzu, hqu⟩ (fun a b ha hj => ⟨hj.lt hs hn ha.1, hj.arms.2, k.whole a b ha.1 ha.2.1 ha.2.2 hj⟩)
          rcases h.old t ht with e' | ⟨e', l, _⟩
          · omega
          · omega
        · omega
      exact .inr ⟨f, e, by omega, hl t ht (.refl _), hf t ht e, hl⟩
    · rcases h.old t ht with e' | ⟨_, _, e', _⟩
      · rcases k.all t ht hz with ⟨a, b⟩ | ⟨q, eq, l, r⟩
        · exact .inl ⟨by omega, by omega⟩
        · exact .inr ⟨q, by omega, by omega, r⟩
      · exact absurd e' e
  · by_cases e : P t = f
    · have := h.rest t u ht e (by simp) hj; omega
    · rcases h.old t ht with e' | ⟨_, _, e', _⟩
      · have hu := hj.lt hs hn ht
        have := k.whole t u ht hz (by omega) hj
        rcases h.old u hu with e2 | ⟨_, _, e2, _⟩ <;> omega
      · exact absurd e' e
theorem Rin.pop {Q P : Nat → Int} {f t : Nat} {L : List Nat} (h : Rin W H n Z f Q P (t :: L)) (hc : ∀ u, J W H Z t u → P u ≤ f) : Rin W H n Z f Q P L := by
  refine ⟨h.old, fun i hi => h.path i (List.mem_cons_of_mem _ hi), fun i v hi hpi hni hji => ?_⟩
  by_cases e : i = t
  · subst e; exact hc v hji
  · exact h.rest i v hi hpi (by simp [e, hni]) hji
end
end Go.Proofs.Ytaepiegbpgkciaa
