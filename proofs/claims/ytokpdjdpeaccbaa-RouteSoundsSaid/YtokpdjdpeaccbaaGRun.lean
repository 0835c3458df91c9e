/-
  A search that always takes up the best way so far, as pure facts: what its runs are, and that they find the least ways.
-/
import Derived.Test.YtokpdjdpeaccbaaGOpt
namespace Go.Proofs.Ytokpdjdpeaccbaa

/-- Three numbers, compared one behind the other. -/
def lt3 (a b : Int × Int × Int) : Prop := a.1 < b.1 ∨ a.1 = b.1 ∧ (a.2.1 < b.2.1 ∨ a.2.1 = b.2.1 ∧ a.2.2 < b.2.2)
instance (a b : Int × Int × Int) : Decidable (lt3 a b) := by unfold lt3; exact inferInstance
theorem lt3_irrefl (a : Int × Int × Int) : ¬ lt3 a a := by unfold lt3; omega
theorem lt3_trans_not {a b c : Int × Int × Int} (h : ¬ lt3 b a) (h' : ¬ lt3 c b) : ¬ lt3 c a := by unfold lt3 at *; omega
theorem lt3_not {a b : Int × Int × Int} (h : lt3 a b) : ¬ lt3 b a := by unfold lt3 at *; omega
theorem lt3_eq {a b : Int × Int × Int} (h : ¬ lt3 a b) (h' : ¬ lt3 b a) : a = b := by
  obtain ⟨a1, a2, a3⟩ := a
  obtain ⟨b1, b2, b3⟩ := b
  simp only [lt3] at *
  have h1 : a1 = b1 := by omega
  have h2 : a2 = b2 := by omega
  have h3 : a3 = b3 := by omega
  rw [h1, h2, h3]

/-- What a search is over: a way's end, its rank, the ways to begin with, those behind a way. -/
structure Srch (W : Type) where
  en : W → Nat
  rk : W → Int × Int × Int
  first : List W
  succ : W → List W

variable {W : Type}
/-- All ways that are known when some have been taken up. -/
def Srch.cand (S : Srch W) (pre : List W) : List W := S.first ++ pre.flatMap S.succ
/-- The way that is taken up next. -/
def Srch.Nxt (S : Srch W) (pre : List W) (w : W) : Prop :=
  w ∈ S.cand pre ∧ S.en w ∉ pre.map S.en ∧ ∀ c ∈ S.cand pre, S.en c ∉ pre.map S.en → ¬ lt3 (S.rk c) (S.rk w)
/-- Ways that are taken up one behind the other. -/
inductive Srch.Run (S : Srch W) : List W → Prop
  | nil : S.Run []
  | snoc {pre w} : S.Run pre → S.Nxt pre w → S.Run (pre ++ [w])
/-- Nothing is left to be taken up. -/
def Srch.Fin (S : Srch W) (pre : List W) : Prop := ∀ c ∈ S.cand pre, S.en c ∈ pre.map S.en

theorem Srch.cand_snoc (S : Srch W) (pre : List W) (w : W) : S.cand (pre ++ [w]) = S.cand pre ++ S.succ w := by simp [Srch.cand]
theorem Srch.cand_sub {S : Srch W} {pre : List W} {w c : W} (h : c ∈ S.cand pre) : c ∈ S.cand (pre ++ [w]) := by rw [S.cand_snoc]; exact List.mem_append_left _ h
theorem Srch.first_cand {S : Srch W} {pre : List W} {c : W} (h : c ∈ S.first) : c ∈ S.cand pre := List.mem_append_left _ h
theorem Srch.Run.nodup {S : Srch W} {pre : List W} (h : S.Run pre) : (pre.map S.en).Nodup := by
  induction h with
  | nil => simp
  | @snoc pre w _ hn ih =>
    rw [List.map_append]
    refine List.nodup_append.2 ⟨ih, by simp, fun a ha b hb e => ?_⟩
    simp at hb
    subst hb
    exact hn.2.1 (e ▸ ha)
theorem Srch.Run.cand {S : Srch W} {pre : List W} (h : S.Run pre) : ∀ w ∈ pre, w ∈ S.cand pre := by
  induction h with
  | nil => intro w h; cases h
  | @snoc pre w _ hn ih =>
    intro c hc
    rcases List.mem_append.1 hc with hc | hc
    · exact Srch.cand_sub (ih c hc)
    · simp at hc; subst hc; exact Srch.cand_sub hn.1
/-- One way at most for an end. -/
theorem Srch.Run.one {S : Srch W} {pre : List W} (h : S.Run pre) : ∀ {w c : W}, w ∈ pre → c ∈ pre → S.en w = S.en c → w = c := by
  induction h with
  | nil => intro w c hw; cases hw
  | @snoc pre x _ hn ih =>
    intro w c hw hc he
    rcases List.mem_append.1 hw with h1 | h1 <;> rcases List.mem_append.1 hc with h2 | h2
    · exact ih h1 h2 he
    · obtain rfl : c = x := by simpa using h2
      exact absurd (he ▸ List.mem_map_of_mem h1) hn.2.1
    · obtain rfl : w = x := by simpa using h1
      exact absurd (he.symm ▸ List.mem_map_of_mem h2) hn.2.1
    · simp at h1 h2; rw [h1, h2]
theorem Srch.Run.len {S : Srch W} {pre : List W} (h : S.Run pre) {n : Nat} (hn : ∀ w ∈ pre, S.en w < n) : pre.length ≤ n := by
  have hd := h.nodup
  refine pigeon n pre.length (fun j => (pre.map S.en)[j]?.getD 0) (fun j hj => ?_) (fun i j hi hj e => ?_)
  · rw [List.getElem?_eq_getElem (by simpa using hj)]
    simp only [Option.getD_some, List.getElem_map]
    exact hn _ (List.getElem_mem _)
  · rw [List.getElem?_eq_getElem (by simpa using hi), List.getElem?_eq_getElem (by simpa using hj)] at e
    have hp := List.pairwise_iff_getElem.1 hd
    have e' : (pre.map S.en)[i]'(by simpa using hi) = (pre.map S.en)[j]'(by simpa using hj) := by simpa using e
    rcases Nat.lt_trichotomy i j with h | h | h
    · exact absurd e' (hp i j _ _ h)
    · exact h
    · exact absurd e'.symm (hp j i _ _ h)

/-- Where ways get no better on their way, a way that is taken up is never beaten behind. -/
theorem Srch.Run.best {S : Srch W} (hg : ∀ w c, c ∈ S.succ w → ¬ lt3 (S.rk c) (S.rk w)) {pre : List W} (h : S.Run pre) :
    (∀ w ∈ pre, ∀ c ∈ S.cand pre, S.en c = S.en w → ¬ lt3 (S.rk c) (S.rk w)) ∧ (∀ w ∈ pre, ∀ c ∈ S.cand pre, S.en c ∉ pre.map S.en → ¬ lt3 (S.rk c) (S.rk w)) := by
  induction h with
  | nil => exact ⟨fun w hw => (by cases hw), fun w hw => (by cases hw)⟩
  | @snoc pre x hr hn ih =>
    have hwx : ∀ w ∈ pre, ¬ lt3 (S.rk x) (S.rk w) := fun w hw => ih.2 w hw x hn.1 hn.2.1
    refine ⟨fun w hw c hc he => ?_, fun w hw c hc hf => ?_⟩
    · rw [S.cand_snoc] at hc
      rcases List.mem_append.1 hw with hw | hw
      · rcases List.mem_append.1 hc with hc | hc
        · exact ih.1 w hw c hc he
        · exact lt3_trans_not (hwx w hw) (hg x c hc)
      · simp at hw; subst hw
        rcases List.mem_append.1 hc with hc | hc
        · exact hn.2.2 c hc (he.symm ▸ hn.2.1)
        · exact hg w c hc
    · rw [S.cand_snoc] at hc
      have hf' : S.en c ∉ pre.map S.en := fun h => hf (by rw [List.map_append]; exact List.mem_append_left _ h)
      rcases List.mem_append.1 hw with hw | hw
      · rcases List.mem_append.1 hc with hc | hc
        · exact ih.2 w hw c hc hf'
        · exact lt3_trans_not (hwx w hw) (hg x c hc)
      · simp at hw; subst hw
        rcases List.mem_append.1 hc with hc | hc
        · exact hn.2.2 c hc hf'
        · exact hg w c hc

/-! ### Ways of a graph -/

/-- A way between a node and one where a search began. -/
structure Wy where
  nd : Nat
  co : Nat
  ns : Nat
  nx : Int
def Wy.rk (w : Wy) : Int × Int × Int := (w.co, w.ns, w.nx)
/-- The edges that leave a node, in their order. -/
def outs (G : Gr) (u : Nat) : List Nat := (List.range G.m).filter fun i => G.f i == u
theorem mem_outs {G : Gr} {u i : Nat} : i ∈ outs G u ↔ i < G.m ∧ G.f i = u := by simp [outs]
def Wy.by (G : Gr) (w : Wy) (i : Nat) : Wy := ⟨G.t i, w.co + G.c i, w.ns + 1, w.nd⟩
def begun (v : Nat) : Wy := ⟨v, 0, 1, -1⟩
def ledBy (G : Gr) (q : Nat) (X : Nat → Nat) : Srch Wy where
  en := Wy.nd
  rk := Wy.rk
  first := (List.range q).map fun j => begun (X j)
  succ w := (outs G w.nd).map (w.by G)
theorem led_grow (G : Gr) (q : Nat) (X : Nat → Nat) (w c : Wy) (h : c ∈ (ledBy G q X).succ w) : ¬ lt3 c.rk w.rk := by
  simp only [ledBy, List.mem_map] at h
  obtain ⟨i, _, rfl⟩ := h
  simp only [lt3, Wy.rk, Wy.by]
  omega

/-- What a way is that a search has found: a least one, next on it the least node that may be. -/
structure Found (G : Gr) (src : Nat → Prop) (w : Wy) : Prop where
  opt : Opt G src w.nd w.co (w.ns - 1)
  pos : 1 ≤ w.ns
  one : src w.nd → w = begun w.nd
  next : w.ns ≠ 1 → ∃ i c k, i < G.m ∧ G.t i = w.nd ∧ w.nx = G.f i ∧ Opt G src (G.f i) c k ∧ w.co = c + G.c i ∧ w.ns = k + 2
  least : ∀ i c k, i < G.m → G.t i = w.nd → Opt G src (G.f i) c k → w.co = c + G.c i → w.ns = k + 2 → w.nx ≤ G.f i
theorem led_found {G : Gr} {q : Nat} {X : Nat → Nat} {xs : List Wy} (hr : (ledBy G q X).Run xs) (hf : (ledBy G q X).Fin xs) :
    (∀ w ∈ xs, Found G (fun v => ∃ j, j < q ∧ X j = v) w) ∧ ∀ v c k, Wk G (fun v => ∃ j, j < q ∧ X j = v) v c k → ∃ w ∈ xs, w.nd = v := by
  obtain ⟨src, hsrc⟩ : ∃ src : Nat → Prop, src = fun v => ∃ j, j < q ∧ X j = v := ⟨_, rfl⟩
  rw [← hsrc]
  have hbest := (hr.best (led_grow G q X)).1
  -- each is a way
  have hcand : ∀ pre, (∀ w ∈ pre, Wk G src w.nd w.co (w.ns - 1) ∧ 1 ≤ w.ns) → ∀ c ∈ (ledBy G q X).cand pre, Wk G src c.nd c.co (c.ns - 1) ∧ 1 ≤ c.ns := by
    intro pre hp c hc
    rcases List.mem_append.1 hc with hc | hc
    · simp only [ledBy, List.mem_map, List.mem_range] at hc
      obtain ⟨j, hj, rfl⟩ := hc
      exact ⟨.nil (by rw [hsrc]; exact ⟨j, hj, rfl⟩), Nat.le_refl _⟩
    · obtain ⟨w, hw, hc⟩ := List.mem_flatMap.1 hc
      simp only [ledBy, List.mem_map] at hc
      obtain ⟨i, hi, rfl⟩ := hc
      obtain ⟨hi, hfi⟩ := mem_outs.1 hi
      obtain ⟨h1, h2⟩ := hp w hw
      have := Wk.step i h1 hi hfi
      simp only [Wy.by, Nat.add_sub_cancel]
      rw [show w.ns - 1 + 1 = w.ns by omega] at this
      exact ⟨this, by omega⟩
  have hway : ∀ w ∈ xs, Wk G src w.nd w.co (w.ns - 1) ∧ 1 ≤ w.ns := by
    clear hbest hf
    induction hr with
    | nil => intro w h; cases h
    | @snoc pre x hr hn ih =>
      intro w hw
      rcases List.mem_append.1 hw with hw | hw
      · exact ih w hw
      · simp at hw; subst hw; exact hcand pre ih _ hn.1
  -- for each way there is a taken one that is as good
  have hreach : ∀ v c k, Wk G src v c k → ∃ w ∈ xs, w.nd = v ∧ (w.co < c ∨ w.co = c ∧ w.ns ≤ k + 1) := by
    intro v c k h
    induction h with
    | @nil v hs =>
      rw [hsrc] at hs
      obtain ⟨j, hj, rfl⟩ := hs
      have hc : begun (X j) ∈ (ledBy G q X).cand xs := Srch.first_cand (by simp only [ledBy, List.mem_map, List.mem_range]; exact ⟨j, hj, rfl⟩)
      obtain ⟨w, hw, he⟩ := List.mem_map.1 (hf _ hc)
      have hb := hbest w hw _ hc he.symm
      refine ⟨w, hw, he, ?_⟩
      simp only [ledBy, lt3, Wy.rk, begun] at hb
      omega
    | @step u c k i _ hi hfi ih =>
      obtain ⟨w, hw, rfl, hle⟩ := ih
      have hc : w.by G i ∈ (ledBy G q X).cand xs := List.mem_append_right _ (List.mem_flatMap.2 ⟨w, hw, by simp only [ledBy, List.mem_map]; exact ⟨i, mem_outs.2 ⟨hi, hfi⟩, rfl⟩⟩)
      obtain ⟨w', hw', he⟩ := List.mem_map.1 (hf _ hc)
      have hb := hbest w' hw' _ hc he.symm
      refine ⟨w', hw', he, ?_⟩
      simp only [ledBy, lt3, Wy.rk, Wy.by] at hb
      omega
  refine ⟨fun w hw => ?_, fun v c k h => by obtain ⟨w, hw, he, _⟩ := hreach v c k h; exact ⟨w, hw, he⟩⟩
  obtain ⟨hwk, hpos⟩ := hway w hw
  have hopt : Opt G src w.nd w.co (w.ns - 1) := ⟨hwk, fun c' k' h' => by
    obtain ⟨w', hw', he, hle⟩ := hreach _ _ _ h'
    have := hr.one hw' hw he
    subst this
    omega⟩
  have hall : ∀ w ∈ xs, Opt G src w.nd w.co (w.ns - 1) := fun w hw => by
    obtain ⟨hwk, hpos⟩ := hway w hw
    exact ⟨hwk, fun c' k' h' => by
      obtain ⟨w', hw', he, hle⟩ := hreach _ _ _ h'
      have := hr.one hw' hw he
      subst this
      omega⟩
  have hin := hr.cand w hw
  refine ⟨hopt, hpos, fun hs => ?_, fun hne => ?_, fun i c k hi ht ho hco hns => ?_⟩
  · rcases List.mem_append.1 hin with hc | hc
    · simp only [ledBy, List.mem_map, List.mem_range] at hc
      obtain ⟨j, hj, rfl⟩ := hc
      rfl
    · obtain ⟨w', hw', hc⟩ := List.mem_flatMap.1 hc
      simp only [ledBy, List.mem_map] at hc
      obtain ⟨i, hi, hwi⟩ := hc
      have h1 := (opt_src hs).uniq hopt
      have h2 := (hway w' hw').2
      have h3 : w.ns = w'.ns + 1 := by rw [← hwi]; rfl
      omega
  · rcases List.mem_append.1 hin with hc | hc
    · simp only [ledBy, List.mem_map, List.mem_range] at hc
      obtain ⟨j, hj, rfl⟩ := hc
      exact absurd rfl hne
    · obtain ⟨w', hw', hc⟩ := List.mem_flatMap.1 hc
      simp only [ledBy, List.mem_map] at hc
      obtain ⟨i, hi, hwi⟩ := hc
      obtain ⟨hi, hfi⟩ := mem_outs.1 hi
      have h2 := (hway w' hw').2
      refine ⟨i, w'.co, w'.ns - 1, hi, by rw [← hwi]; rfl, by rw [← hwi, hfi]; rfl, by rw [hfi]; exact hall w' hw', by rw [← hwi]; rfl, by rw [← hwi]; simp only [Wy.by]; omega⟩
  · obtain ⟨w', hw', he, _⟩ := hreach _ _ _ ho.1
    have h1 := ho.uniq (he ▸ hall w' hw')
    have h2 := (hway w' hw').2
    have hc : w'.by G i ∈ (ledBy G q X).cand xs := List.mem_append_right _ (List.mem_flatMap.2 ⟨w', hw', by simp only [ledBy, List.mem_map]; exact ⟨i, mem_outs.2 ⟨hi, he.symm⟩, rfl⟩⟩)
    have hb := hbest w hw _ hc ht
    simp only [ledBy, lt3, Wy.rk, Wy.by] at hb
    omega
end Go.Proofs.Ytokpdjdpeaccbaa
