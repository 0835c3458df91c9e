/-
  What hangs together: pieces that are next to one another, the least piece of each block.
-/
import Derived.Test.YtbfpcolkbfljoaaDoorBMap
namespace Go.Proofs.YtbfpcolkbfljoaaDoor

/-- A piece's number is that of a piece that lies. -/
def Pl (d : Rl) (x : Nat) : Prop := Lie d.n d.Z (x / 8 : Nat) (x % 8 : Nat) = true
theorem Pl.at {d : Rl} {x : Nat} (h : Pl d x) : x / 8 < d.n ∧ x % 8 ≤ 5 := by
  have := (lie_in h).1
  omega
theorem Pl.lt {d : Rl} {x : Nat} (h : Pl d x) : x < 8 * d.n := by
  have := h.at
  omega
theorem oth_iff {p : Nat} (hp : p ≤ 5) (s : Int) : 0 ≤ oth p s ↔ s = fst p ∨ s = snd p := by
  have h1 := fst_in (p := (p : Int)) (by omega) (by omega)
  have h2 := snd_in (p := (p : Int)) (by omega) (by omega)
  constructor
  · intro h
    obtain ⟨_, _, _, _, ⟨h, _⟩ | ⟨h, _⟩⟩ := oth_yes h
    · exact .inl h
    · exact .inr h
  · intro h
    unfold oth
    rcases h with rfl | rfl
    · rw [if_neg (by omega), if_pos rfl]; omega
    · rw [if_neg (by omega)]
      split
      · omega
      · rw [if_pos rfl]; omega
/-- A piece that lies is next to a piece. -/
def Adj (d : Rl) (C : Int → Int → Int → Bool) (x y : Nat) : Prop :=
  Pl d y ∧ ((x / 8 = y / 8 ∧ tch (x % 8) (y % 8) = true) ∨ ∃ s : Int, 0 ≤ s ∧ s ≤ 3 ∧ 0 ≤ oth (x % 8 : Nat) s ∧ C (x / 8 : Nat) (x % 8 : Nat) s = false ∧ bey d.W d.H (x / 8 : Nat) s = (y / 8 : Nat) ∧
    0 ≤ oth (y % 8 : Nat) ((s + 2) % 4) ∧ C (y / 8 : Nat) (y % 8 : Nat) ((s + 2) % 4) = false)
theorem mem_tlk {n : Nat} {Z : Nat → Int} {t p y : Nat} : y ∈ tlk n Z t p 6 ↔ t = y / 8 ∧ tch p (y % 8) = true ∧ Lie n Z (y / 8 : Nat) (y % 8 : Nat) = true := by
  unfold tlk
  simp only [List.mem_map, List.mem_filter, List.mem_range, Bool.and_eq_true]
  constructor
  · rintro ⟨q, ⟨hq, h1, h2⟩, rfl⟩
    have e1 : (8 * t + q) / 8 = t := by omega
    have e2 : (8 * t + q) % 8 = q := by omega
    rw [e1, e2]
    exact ⟨rfl, h1, h2⟩
  · rintro ⟨rfl, h1, h2⟩
    have := (lie_in h2).1
    exact ⟨y % 8, ⟨by omega, h1, h2⟩, by omega⟩
theorem mem_sdl {d : Rl} {C : Int → Int → Int → Bool} {t p y : Nat} {s : Int} : y ∈ sdl d C t p s ↔ C t p s = false ∧ bey d.W d.H t s = (y / 8 : Nat) ∧ Lie d.n d.Z (y / 8 : Nat) (y % 8 : Nat) = true ∧ 0 ≤ oth (y % 8 : Nat) ((s + 2) % 4) ∧ C (y / 8 : Nat) (y % 8 : Nat) ((s + 2) % 4) = false := by
  unfold sdl
  cases hc : C t p s
  · simp only [Bool.false_eq_true, if_false, true_and]
    unfold fcg fac
    simp only [List.mem_map, List.mem_filter, List.mem_range]
    constructor
    · rintro ⟨z, ⟨⟨q, ⟨hq, h1⟩, rfl⟩, h2⟩, rfl⟩
      have hb := (brs_iff _ _ _ _ _).1 h1
      have hl := (lie_in hb.2).1
      have e1 : ((numS (bey d.W d.H t s, (q : Int), (s + 2) % 4) / 8 : Nat) : Int) = bey d.W d.H t s := by unfold numS; dsimp only; omega
      have e2 : ((numS (bey d.W d.H t s, (q : Int), (s + 2) % 4) % 8 : Nat) : Int) = (q : Int) := by unfold numS; dsimp only; omega
      rw [e1, e2]
      exact ⟨rfl, hb.2, hb.1, by simpa using h2⟩
    · rintro ⟨h1, h2, h3, h4⟩
      have hl := (lie_in h2).1
      refine ⟨(bey d.W d.H t s, ((y % 8 : Nat) : Int), (s + 2) % 4), ⟨⟨y % 8, ⟨by omega, ?_⟩, rfl⟩, ?_⟩, ?_⟩
      · rw [brs_iff, h1]; exact ⟨h3, h2⟩
      · rw [h1]; simpa using h4
      · unfold numS; dsimp only; rw [h1]; omega
  · simp
theorem mem_bsd {d : Rl} {C : Int → Int → Int → Bool} {x y : Nat} (hx : x % 8 ≤ 5) : y ∈ bsd d C x ↔ Adj d C x y := by
  unfold bsd Adj Pl
  simp only [List.mem_append, mem_tlk, mem_sdl]
  have h1 := fst_in (p := ((x % 8 : Nat) : Int)) (by omega) (by omega)
  have h2 := snd_in (p := ((x % 8 : Nat) : Int)) (by omega) (by omega)
  constructor
  · rintro ((⟨a, b, c⟩ | ⟨a, b, c, e, f⟩) | ⟨a, b, c, e, f⟩)
    · exact ⟨c, .inl ⟨a, b⟩⟩
    · exact ⟨c, .inr ⟨_, h1.1, h1.2, (oth_iff hx _).2 (.inl rfl), a, b, e, f⟩⟩
    · exact ⟨c, .inr ⟨_, h2.1, h2.2, (oth_iff hx _).2 (.inr rfl), a, b, e, f⟩⟩
  · rintro ⟨c, ⟨a, b⟩ | ⟨s, s0, s3, ho, a, b, e, f⟩⟩
    · exact .inl (.inl ⟨a, b, c⟩)
    · rcases (oth_iff hx s).1 ho with rfl | rfl
      · exact .inl (.inr ⟨a, b, c, e, f⟩)
      · exact .inr ⟨a, b, c, e, f⟩
theorem tch_symm : ∀ p q : Nat, tch p q = tch q p := by
  intro p q
  unfold tch
  have e1 : (p != q) = (q != p) := by rw [Bool.eq_iff_iff]; simp; omega
  rw [e1, Nat.add_comm p q]
  cases (q != p) <;> cases (q + p != 6) <;> cases (q + p != 8) <;> cases decide (p < 2) <;> cases decide (q < 2) <;> rfl
theorem Adj.symm {d : Rl} (hg : Gd d) {C : Int → Int → Int → Bool} {x y : Nat} (hx : Pl d x) (h : Adj d C x y) : Adj d C y x := by
  obtain ⟨hy, ⟨a, b⟩ | ⟨s, s0, s3, ho, a, b, e, f⟩⟩ := h
  · exact ⟨hx, .inl ⟨a.symm, by rw [tch_symm]; exact b⟩⟩
  · have hs : ((s + 2) % 4 + 2) % 4 = s := by omega
    have hx' := hx.at
    have hb := bey_back hg.sized (t := ((x / 8 : Nat) : Int)) (by omega) (by rw [← hg.right.sets]; omega) s0 s3 (by rw [b]; omega)
    rw [b] at hb
    refine ⟨hx, .inr ⟨(s + 2) % 4, by omega, by omega, e, f, hb, ?_, ?_⟩⟩
    · rw [hs]; exact ho
    · rw [hs]; exact a

/-- Two pieces hang together. -/
inductive Con (d : Rl) (C : Int → Int → Int → Bool) : Nat → Nat → Prop
  | refl (a : Nat) : Con d C a a
  | tail {a b c : Nat} : Con d C a b → Adj d C b c → Con d C a c
section
variable {d : Rl} {C : Int → Int → Int → Bool}
theorem Con.pl {a b : Nat} (h : Con d C a b) (ha : Pl d a) : Pl d b := by
  cases h with
  | refl => exact ha
  | tail _ j => exact j.1
theorem Con.trans {a b c : Nat} (h : Con d C a b) (k : Con d C b c) : Con d C a c := by
  induction k with
  | refl => exact h
  | tail _ j ih => exact .tail ih j
theorem Con.symm (hg : Gd d) {a b : Nat} (ha : Pl d a) (h : Con d C a b) : Con d C b a := by
  induction h with
  | refl => exact .refl _
  | tail k j ih => exact (Con.tail (.refl _) (j.symm hg (k.pl ha))).trans ih
theorem Con.closed {S : Nat → Prop} {a b : Nat} (h : Con d C a b) (ha : S a) (hc : ∀ t u, S t → Adj d C t u → S u) : S b := by
  induction h with
  | refl => exact ha
  | tail _ j ih => exact hc _ _ ih j
end
/-- The number of a piece's block: the least piece that hangs together with it. -/
def Blk (d : Rl) (C : Int → Int → Int → Bool) (x v : Nat) : Prop := Con d C x v ∧ ∀ y, Con d C x y → v ≤ y
theorem Blk.one {d : Rl} {C : Int → Int → Int → Bool} {x v v' : Nat} (h : Blk d C x v) (k : Blk d C x v') : v = v' := by
  have := h.2 _ k.1
  have := k.2 _ h.1
  omega
theorem Blk.ex (d : Rl) (C : Int → Int → Int → Bool) (x : Nat) : ∃ v, Blk d C x v := by
  have hh : ∀ n y, y ≤ n → Con d C x y → ∃ v, Blk d C x v := by
    intro n
    induction n with
    | zero => intro y hy hc; exact ⟨y, hc, fun z _ => by omega⟩
    | succ n ih =>
      intro y hy hc
      by_cases h : ∃ z, z < y ∧ Con d C x z
      · obtain ⟨z, hz, hzc⟩ := h
        exact ih z (by omega) hzc
      · exact ⟨y, hc, fun z hz => by
          by_cases e : z < y
          · exact absurd ⟨z, e, hz⟩ h
          · omega⟩
  exact hh x x (Nat.le_refl _) (.refl x)
theorem Blk.same {d : Rl} (hg : Gd d) {C : Int → Int → Int → Bool} {x y v : Nat} (hx : Pl d x) (h : Blk d C x v) (k : Con d C x y) : Blk d C y v :=
  ⟨(k.symm hg hx).trans h.1, fun z hz => h.2 z (k.trans hz)⟩
theorem Blk.le {d : Rl} {C : Int → Int → Int → Bool} {x v : Nat} (h : Blk d C x v) : v ≤ x := h.2 x (.refl x)
theorem Blk.pl {d : Rl} {C : Int → Int → Int → Bool} {x v : Nat} (h : Blk d C x v) (hx : Pl d x) : Pl d v := h.1.pl hx
theorem Blk.self {d : Rl} (hg : Gd d) {C : Int → Int → Int → Bool} {x v : Nat} (hx : Pl d x) (h : Blk d C x v) : Blk d C v v := h.same hg hx h.1
/-- The number of a block, as a function. -/
noncomputable def blk (d : Rl) (C : Int → Int → Int → Bool) (x : Nat) : Nat := (Blk.ex d C x).choose
theorem blk_is (d : Rl) (C : Int → Int → Int → Bool) (x : Nat) : Blk d C x (blk d C x) := (Blk.ex d C x).choose_spec
theorem Blk.eq {d : Rl} {C : Int → Int → Int → Bool} {x v : Nat} (h : Blk d C x v) : v = blk d C x := h.one (blk_is d C x)

/-- A search through what hangs together with a piece: the i first found have been asked. -/
structure Gt (d : Rl) (C : Int → Int → Int → Bool) (x i : Nat) (L : List Nat) (b : Nat → Option Nat) : Prop where
  nod : L.Pairwise (· ≠ ·)
  mem : ∀ z, (b z).isSome = true ↔ z ∈ L
  reach : ∀ z ∈ L, Con d C x z
  first : x ∈ L
  closed : ∀ j, j < i → ∀ y, Adj d C (L.getD j 0) y → y ∈ L
  le : i ≤ L.length
section
variable {d : Rl} {C : Int → Int → Int → Bool} {x i : Nat} {L : List Nat} {b : Nat → Option Nat}
theorem getD_memN {L : List Nat} {j : Nat} (h : j < L.length) : L.getD j 0 ∈ L := by
  rw [List.getD_eq_getElem?_getD, List.getElem?_eq_getElem h]
  exact List.getElem_mem h
theorem getD_app {L : List Nat} {j y : Nat} (h : j < L.length) : (L ++ [y]).getD j 0 = L.getD j 0 := by
  rw [List.getD_eq_getElem?_getD, List.getD_eq_getElem?_getD, List.getElem?_append_left h]
theorem Gt.pl (h : Gt d C x i L b) (hx : Pl d x) {z : Nat} (hz : z ∈ L) : Pl d z := (h.reach z hz).pl hx
theorem Gt.len (h : Gt d C x i L b) (hx : Pl d x) : L.length ≤ 8 * d.n := nodup_len _ L h.nod fun _ hz => (h.pl hx hz).lt
theorem Gt.start (d : Rl) (C : Int → Int → Int → Bool) (x : Nat) : Gt d C x 0 [x] (updN (fun _ => none) x 0) := by
  refine ⟨by simp, fun z => ?_, fun z hz => ?_, by simp, fun j hj => by omega, by simp⟩
  · by_cases e : z = x
    · subst e; simp [updN]
    · rw [upd_other _ _ e]; simp [e]
  · simp at hz; subst hz; exact .refl _
theorem Gt.add (h : Gt d C x i L b) (hi : i < L.length) {y : Nat} (hy : Adj d C (L.getD i 0) y) (hn : b y = none) : Gt d C x i (L ++ [y]) (updN b y 0) := by
  have hnm : y ∉ L := fun k => by have := (h.mem y).2 k; rw [hn] at this; cases this
  refine ⟨?_, fun z => ?_, fun z hz => ?_, by simp [h.first], fun j hj z hz => ?_, by simp; omega⟩
  · rw [List.pairwise_append]
    exact ⟨h.nod, by simp, fun a ha b hb => by simp at hb; subst hb; intro e; subst e; exact hnm ha⟩
  · by_cases e : z = y
    · subst e; simp [updN]
    · rw [upd_other _ _ e, h.mem z]; simp [e]
  · simp at hz
    rcases hz with hz | rfl
    · exact h.reach z hz
    · exact .tail (h.reach _ (getD_memN hi)) hy
  · rw [getD_app (by omega)] at hz
    simp [h.closed j hj z hz]
theorem Gt.next (h : Gt d C x i L b) (hi : i < L.length) (hc : ∀ y, Adj d C (L.getD i 0) y → y ∈ L) : Gt d C x (i + 1) L b := by
  refine ⟨h.nod, h.mem, h.reach, h.first, fun j hj y hy => ?_, hi⟩
  by_cases e : j = i
  · subst e; exact hc y hy
  · exact h.closed j (by omega) y hy
theorem Gt.done (h : Gt d C x i L b) (hi : ¬ i < L.length) (z : Nat) : z ∈ L ↔ Con d C x z := by
  refine ⟨h.reach z, fun hz => hz.closed (S := fun z => z ∈ L) h.first fun t u ht hj => ?_⟩
  obtain ⟨j, hj', e⟩ := List.getElem_of_mem ht
  refine h.closed j (by omega) u ?_
  rw [List.getD_eq_getElem?_getD, List.getElem?_eq_getElem hj', Option.getD_some, e]
  exact hj
end
end Go.Proofs.YtbfpcolkbfljoaaDoor
