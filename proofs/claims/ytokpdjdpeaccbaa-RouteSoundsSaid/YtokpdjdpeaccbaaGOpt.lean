/-
  Least ways, as pure facts: ways of a graph from some nodes on, the least of them by cost and then by number of edges.
-/
import Derived.WalkKit
namespace Go.Proofs.Ytokpdjdpeaccbaa

theorem least_ex {P : Nat → Prop} (h : ∃ n, P n) : ∃ n, P n ∧ ∀ m, P m → n ≤ m := by
  obtain ⟨n, hn⟩ := h
  induction n using Nat.strongRecOn with
  | _ n ih =>
    by_cases hx : ∃ m, m < n ∧ P m
    · obtain ⟨m, hm, hp⟩ := hx
      exact ih m hm hp
    · exact ⟨n, hn, fun m hm => Nat.le_of_not_lt fun h => hx ⟨m, h, hm⟩⟩

/-- As many unlike numbers below n as there are at most n. -/
theorem pigeon : ∀ (n k : Nat) (g : Nat → Nat), (∀ j, j < k → g j < n) → (∀ i j, i < k → j < k → g i = g j → i = j) → k ≤ n := by
  intro n
  induction n with
  | zero =>
    intro k g hg _
    rcases k with _ | k
    · exact Nat.le_refl _
    · have := hg 0 (by omega); omega
  | succ n ih =>
    intro k g hg hi
    rcases k with _ | k
    · omega
    · by_cases hx : ∃ j, j < k + 1 ∧ g j = n
      · obtain ⟨p, hp, hpn⟩ := hx
        have := ih k (fun j => if j = p then g k else g j) (fun j hj => by
          split
          · rename_i e
            have h1 := hg k (by omega)
            have h2 : g k ≠ n := fun h => by have := hi k p (by omega) hp (by omega); omega
            omega
          · rename_i e
            have h1 := hg j (by omega)
            have h2 : g j ≠ n := fun h => by have := hi j p (by omega) hp (by omega); omega
            omega) (fun i j hi' hj' h => by
          split at h <;> split at h
          · omega
          · have := hi k j (by omega) (by omega) h; omega
          · have := hi i k (by omega) (by omega) h; omega
          · exact hi i j (by omega) (by omega) h)
        omega
      · have := ih (k + 1) g (fun j hj => by have h1 := hg j hj; have h2 : g j ≠ n := fun h => hx ⟨j, hj, h⟩; omega) hi
        omega

/-- A graph: its edges, by number. -/
structure Gr where
  m : Nat
  f : Nat → Nat
  t : Nat → Nat
  c : Nat → Nat

def Gr.flip (G : Gr) : Gr := ⟨G.m, G.t, G.f, G.c⟩

/-- A way from a node of src to v, its cost and its number of edges. -/
inductive Wk (G : Gr) (src : Nat → Prop) : Nat → Nat → Nat → Prop
  | nil {v} : src v → Wk G src v 0 0
  | step {u c k} (i : Nat) : Wk G src u c k → i < G.m → G.f i = u → Wk G src (G.t i) (c + G.c i) (k + 1)

/-- The least way to v. -/
def Opt (G : Gr) (src : Nat → Prop) (v c k : Nat) : Prop := Wk G src v c k ∧ ∀ c' k', Wk G src v c' k' → c < c' ∨ c = c' ∧ k ≤ k'

section
variable {G : Gr} {src : Nat → Prop}

theorem opt_ex {v c k : Nat} (h : Wk G src v c k) : ∃ c k, Opt G src v c k := by
  obtain ⟨c0, ⟨k1, h1⟩, hc⟩ := least_ex (P := fun c => ∃ k, Wk G src v c k) ⟨c, k, h⟩
  obtain ⟨k0, h0, hk⟩ := least_ex (P := fun k => Wk G src v c0 k) ⟨k1, h1⟩
  refine ⟨c0, k0, h0, fun c' k' h' => ?_⟩
  have := hc c' ⟨k', h'⟩
  by_cases e : c0 = c'
  · subst e; exact .inr ⟨rfl, hk _ h'⟩
  · left; omega
theorem Opt.uniq {v c k c' k' : Nat} (h : Opt G src v c k) (h' : Opt G src v c' k') : c = c' ∧ k = k' := by
  have h1 := h.2 _ _ h'.1
  have h2 := h'.2 _ _ h.1
  omega
theorem opt_src {v : Nat} (h : src v) : Opt G src v 0 0 := ⟨.nil h, fun _ _ _ => by omega⟩
theorem Opt.relax {i c k : Nat} (h : Opt G src (G.f i) c k) (hi : i < G.m) : ∃ c' k', Opt G src (G.t i) c' k' ∧ (c' < c + G.c i ∨ c' = c + G.c i ∧ k' ≤ k + 1) := by
  obtain ⟨c', k', h'⟩ := opt_ex (Wk.step i h.1 hi rfl)
  exact ⟨c', k', h', h'.2 _ _ (Wk.step i h.1 hi rfl)⟩
/-- A least way's last edge, and the least way to where it begins. -/
theorem Opt.last {v c k : Nat} (h : Opt G src v c k) : (src v ∧ c = 0 ∧ k = 0) ∨ ∃ i c' k', i < G.m ∧ G.t i = v ∧ Opt G src (G.f i) c' k' ∧ c = c' + G.c i ∧ k = k' + 1 := by
  obtain ⟨hw, hl⟩ := h
  cases hw with
  | nil hs => exact .inl ⟨hs, rfl, rfl⟩
  | step i hu hi hf =>
    subst hf
    obtain ⟨c0, k0, h0⟩ := opt_ex hu
    have h1 := h0.2 _ _ hu
    have h2 := hl _ _ (Wk.step i h0.1 hi rfl)
    exact .inr ⟨i, c0, k0, hi, rfl, h0, by omega, by omega⟩
/-- Nodes at each number of edges below. -/
theorem Opt.chain {k : Nat} : ∀ {v c : Nat}, Opt G src v c k → ∀ j, j ≤ k → ∃ u a, Opt G src u a j ∧ (u = v ∨ ∃ i, i < G.m ∧ G.f i = u) := by
  induction k with
  | zero => intro v c h j hj; obtain rfl : j = 0 := by omega
            exact ⟨v, c, h, .inl rfl⟩
  | succ k ih =>
    intro v c h j hj
    by_cases e : j = k + 1
    · subst e; exact ⟨v, c, h, .inl rfl⟩
    · rcases h.last with ⟨_, _, h0⟩ | ⟨i, c', k', hi, _, hu, _, hk⟩
      · omega
      · obtain rfl : k' = k := by omega
        obtain ⟨u, a, hu', hx⟩ := ih hu j (by omega)
        refine ⟨u, a, hu', .inr ?_⟩
        rcases hx with rfl | hx
        · exact ⟨i, hi, rfl⟩
        · exact hx
theorem Opt.short {n v c k : Nat} (hn : ∀ i, i < G.m → G.f i < n) (hv : v < n) (h : Opt G src v c k) : k < n := by
  have hc : ∀ j, j ≤ k → ∃ u, (∃ a, Opt G src u a j) ∧ u < n := fun j hj => by
    obtain ⟨u, a, hu, hx⟩ := h.chain j hj
    refine ⟨u, ⟨a, hu⟩, ?_⟩
    rcases hx with rfl | ⟨i, hi, rfl⟩
    · exact hv
    · exact hn i hi
  have hg : ∃ g : Nat → Nat, ∀ j, j ≤ k → (∃ a, Opt G src (g j) a j) ∧ g j < n := by
    refine ⟨fun j => if hj : j ≤ k then Classical.choose (hc j hj) else 0, fun j hj => ?_⟩
    simp only [hj, dif_pos]
    exact Classical.choose_spec (hc j hj)
  obtain ⟨g, hg⟩ := hg
  have := pigeon n (k + 1) g (fun j hj => (hg j (by omega)).2) (fun i j hi hj e => by
    obtain ⟨a, ha⟩ := (hg i (by omega)).1
    obtain ⟨b, hb⟩ := (hg j (by omega)).1
    rw [e] at ha
    exact (ha.uniq hb).2)
  omega
theorem Wk.cost {M v c k : Nat} (hM : ∀ i, i < G.m → G.c i ≤ M) (h : Wk G src v c k) : c ≤ k * M := by
  induction h with
  | nil => omega
  | step i _ hi _ ih => have := hM i hi; rw [Nat.succ_mul]; omega
theorem Wk.mem {n v c k : Nat} (hn : ∀ i, i < G.m → G.t i < n) (hs : ∀ u, src u → u < n) (h : Wk G src v c k) : v < n := by
  cases h with
  | nil h => exact hs _ h
  | step i _ hi _ => exact hn i hi
end

/-! ### Rounds over all edges till nothing changes -/

/-- A table of costs: none where no way is known. -/
abbrev Tab := Nat → Option (Nat × Nat)
def dC : Option (Nat × Nat) → Int
  | none => -1
  | some p => p.1
def dS : Option (Nat × Nat) → Int
  | none => 0
  | some p => p.2
/-- What is known of a is better than b. -/
def ltD (a : Nat × Nat) : Option (Nat × Nat) → Prop
  | none => True
  | some b => a.1 < b.1 ∨ a.1 = b.1 ∧ a.2 < b.2
/-- At least as good as. -/
def leD : Option (Nat × Nat) → Nat × Nat → Prop
  | none, _ => False
  | some a, b => a.1 < b.1 ∨ a.1 = b.1 ∧ a.2 ≤ b.2
theorem leD_of_not {a : Option (Nat × Nat)} {b : Nat × Nat} (h : ¬ ltD b a) : leD a b := by
  cases a with
  | none => exact h trivial
  | some a => simp only [ltD, leD] at *; omega
theorem not_of_leD {a : Option (Nat × Nat)} {b : Nat × Nat} (h : leD a b) : ¬ ltD b a := by
  cases a with
  | none => exact h.elim
  | some a => simp only [ltD, leD] at *; omega
theorem leD_lt {a : Option (Nat × Nat)} {b x : Nat × Nat} (h : leD a b) (hx : ltD x a) : leD (some x) b := by
  cases a with
  | none => exact h.elim
  | some a => simp only [ltD, leD] at *; omega

def upd (D : Tab) (v : Nat) (x : Nat × Nat) : Tab := fun u => if u = v then some x else D u
theorem upd_same (D : Tab) (v : Nat) (x : Nat × Nat) : upd D v x v = some x := by simp [upd]
theorem upd_ne (D : Tab) {u v : Nat} (x : Nat × Nat) (h : u ≠ v) : upd D v x u = D u := by simp [upd, h]

/-- What holds of the table behind r rounds, e edges of the next one being looked at; K: how many edges a way may have. -/
structure Tb (G : Gr) (src : Nat → Prop) (r e K : Nat) (D : Tab) : Prop where
  ways : ∀ v a k, D v = some (a, k) → Wk G src v a k ∧ k ≤ K
  srcs : ∀ v, src v → D v = some (0, 0)
  far : ∀ v c k, Opt G src v c k → k ≤ r → leD (D v) (c, k)
  seen : ∀ i c k, i < e → i < G.m → Opt G src (G.f i) c k → k ≤ r → leD (D (G.t i)) (c + G.c i, k + 1)

theorem Tb.right {G : Gr} {src : Nat → Prop} {r e K : Nat} {D : Tab} (h : Tb G src r e K D) {v c k : Nat} (ho : Opt G src v c k) (hl : leD (D v) (c, k)) : D v = some (c, k) := by
  cases hd : D v with
  | none => rw [hd] at hl; exact hl.elim
  | some p =>
    obtain ⟨a, q⟩ := p
    have := ho.2 _ _ (h.ways v a q hd).1
    rw [hd] at hl
    simp only [leD] at hl
    have h1 : a = c := by omega
    have h2 : q = k := by omega
    rw [h1, h2]
theorem Tb.first {G : Gr} {src : Nat → Prop} {D : Tab} (h0 : ∀ v, D v = none ∨ (src v ∧ D v = some (0, 0))) (hs : ∀ v, src v → D v = some (0, 0)) : Tb G src 0 0 0 D where
  ways v a k hd := by
    rcases h0 v with h | ⟨h, h'⟩
    · rw [h] at hd; cases hd
    · rw [h'] at hd; cases hd; exact ⟨.nil h, Nat.le_refl _⟩
  srcs := hs
  far v c k ho hk := by
    obtain rfl : k = 0 := by omega
    rcases ho.last with ⟨h, rfl, _⟩ | ⟨_, _, _, _, _, _, _, h⟩
    · rw [hs v h]; simp [leD]
    · omega
  seen i c k hi := by omega
/-- An edge that makes nothing better. -/
theorem Tb.keep {G : Gr} {src : Nat → Prop} {r e K : Nat} {D : Tab} (h : Tb G src r e K D)
    (hx : ∀ p, D (G.f e) = some p → ¬ ltD (p.1 + G.c e, p.2 + 1) (D (G.t e))) : Tb G src r (e + 1) K D where
  ways := h.ways
  srcs := h.srcs
  far := h.far
  seen i c k hi hm ho hk := by
    by_cases ei : i < e
    · exact h.seen i c k ei hm ho hk
    · obtain rfl : i = e := by omega
      have hr := h.right ho (h.far _ _ _ ho hk)
      exact leD_of_not (hx _ hr)
/-- An edge that makes one better. -/
theorem Tb.turn {G : Gr} {src : Nat → Prop} {r e K : Nat} {D : Tab} (h : Tb G src r e K D) (he : e < G.m) {p : Nat × Nat} (hp : D (G.f e) = some p) (hK : p.2 + 1 ≤ K)
    (hx : ltD (p.1 + G.c e, p.2 + 1) (D (G.t e))) : Tb G src r (e + 1) K (upd D (G.t e) (p.1 + G.c e, p.2 + 1)) where
  ways v a k hd := by
    by_cases e' : v = G.t e
    · subst e'
      rw [upd_same] at hd
      cases hd
      exact ⟨.step e (h.ways _ p.1 p.2 hp).1 he rfl, hK⟩
    · rw [upd_ne _ _ e'] at hd; exact h.ways v a k hd
  srcs v hv := by
    by_cases e' : v = G.t e
    · subst e'
      rw [h.srcs _ hv] at hx
      simp [ltD] at hx
    · rw [upd_ne _ _ e']; exact h.srcs v hv
  far v c k ho hk := by
    by_cases e' : v = G.t e
    · subst e'; rw [upd_same]; exact leD_lt (h.far _ _ _ ho hk) hx
    · rw [upd_ne _ _ e']; exact h.far v c k ho hk
  seen i c k hi hm ho hk := by
    by_cases ei : i < e
    · have := h.seen i c k ei hm ho hk
      by_cases e' : G.t i = G.t e
      · rw [e', upd_same]; rw [e'] at this; exact leD_lt this hx
      · rw [upd_ne _ _ e']; exact this
    · obtain rfl : i = e := by omega
      have hr := h.right ho (h.far _ _ _ ho hk)
      rw [hp] at hr
      cases hr
      rw [upd_same]
      simp [leD]
theorem Tb.more {G : Gr} {src : Nat → Prop} {r e K K' : Nat} {D : Tab} (h : Tb G src r e K D) (hK : K ≤ K') : Tb G src r e K' D :=
  ⟨fun v a k hd => ⟨(h.ways v a k hd).1, Nat.le_trans (h.ways v a k hd).2 hK⟩, h.srcs, h.far, h.seen⟩
/-- A round is over. -/
theorem Tb.round {G : Gr} {src : Nat → Prop} {r K : Nat} {D : Tab} (h : Tb G src r G.m K D) : Tb G src (r + 1) 0 K D where
  ways := h.ways
  srcs := h.srcs
  far v c k ho hk := by
    by_cases e : k ≤ r
    · exact h.far v c k ho e
    · rcases ho.last with ⟨_, _, h0⟩ | ⟨i, c', k', hi, rfl, hu, rfl, rfl⟩
      · omega
      · exact h.seen i c' k' hi hi hu (by omega)
  seen i c k hi := by omega
/-- What the table says once nothing gets better: the least ways, and no more. -/
def IsTab (G : Gr) (src : Nat → Prop) (D : Tab) : Prop := ∀ v, (∀ c k, Opt G src v c k → D v = some (c, k)) ∧ ∀ p, D v = some p → Opt G src v p.1 p.2
theorem Tb.done {G : Gr} {src : Nat → Prop} {r K : Nat} {D : Tab} (h : Tb G src r G.m K D)
    (hx : ∀ i, i < G.m → ∀ p, D (G.f i) = some p → ¬ ltD (p.1 + G.c i, p.2 + 1) (D (G.t i))) : IsTab G src D := by
  have hall : ∀ k v c, Opt G src v c k → D v = some (c, k) := by
    intro k
    induction k with
    | zero =>
      intro v c ho
      rcases ho.last with ⟨hs, rfl, _⟩ | ⟨_, _, _, _, _, _, _, h⟩
      · exact h.srcs v hs
      · omega
    | succ k ih =>
      intro v c ho
      rcases ho.last with ⟨_, _, h0⟩ | ⟨i, c', k', hi, rfl, hu, rfl, hk⟩
      · omega
      · obtain rfl : k' = k := by omega
        exact h.right ho (leD_of_not (hx i hi _ (ih _ _ hu)))
  intro v
  refine ⟨fun c k ho => hall k v c ho, fun p hp => ?_⟩
  obtain ⟨c, k, ho⟩ := opt_ex (h.ways v p.1 p.2 hp).1
  have := hall k v c ho
  rw [hp] at this
  cases this
  exact ho
/-- Where all least ways have at most r edges, nothing gets better. -/
theorem Tb.still {G : Gr} {src : Nat → Prop} {r e K : Nat} {D : Tab} (h : Tb G src r e K D) (hr : ∀ v c k, (∃ i, i < G.m ∧ (G.f i = v ∨ G.t i = v)) → Opt G src v c k → k ≤ r) {i : Nat} (hi : i < G.m) {p : Nat × Nat} (hp : D (G.f i) = some p) : ¬ ltD (p.1 + G.c i, p.2 + 1) (D (G.t i)) := by
  obtain ⟨c, k, ho⟩ := opt_ex (h.ways _ p.1 p.2 hp).1
  have h1 := h.right ho (h.far _ _ _ ho (hr _ _ _ ⟨i, hi, .inl rfl⟩ ho))
  rw [hp] at h1
  cases h1
  obtain ⟨c', k', ho', hle⟩ := ho.relax hi
  have h2 := h.right ho' (h.far _ _ _ ho' (hr _ _ _ ⟨i, hi, .inr rfl⟩ ho'))
  rw [h2]
  simp only [ltD]
  omega
theorem IsTab.uniq {G : Gr} {src : Nat → Prop} {D D' : Tab} (h : IsTab G src D) (h' : IsTab G src D') (v : Nat) : D v = D' v := by
  cases hd : D v with
  | none =>
    cases hd' : D' v with
    | none => rfl
    | some p => have := (h v).1 _ _ ((h' v).2 p hd'); rw [hd] at this; cases this
  | some p => exact ((h' v).1 _ _ ((h v).2 p hd)).symm
end Go.Proofs.Ytokpdjdpeaccbaa
