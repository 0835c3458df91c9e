/-
  Maps from numbers to numbers that a call makes; the search over what is beside, as a run of states.
-/
import Derived.Test.YtkpnngpnjimogaaWBes
namespace Go.Proofs.Ytkpnngpnjimogaa
open Go.RowKit Go.Maps

/-- The map in block N says what b does, of numbers below S. -/
def MV (N S : Nat) (b : Nat → Option Nat) (w : World) : Prop :=
  ∃ (n : Nat) (D : DataW Value), w.ownsMap Try.prog 3 gR N n D ∧ (∀ l, has D l = true → ∃ u : Nat, u < S ∧ l = .int .i64 u) ∧
    ∀ u : Nat, u < S → has D (.int .i64 u) = (b u).isSome ∧ ∀ v, b u = some v → ∀ z, D.atKey (.int .i64 u) z = .held (.int .i64 (v : Int))
/-- One more key. -/
def upd (b : Nat → Option Nat) (k v : Nat) : Nat → Option Nat := fun x => if x = k then some v else b x
theorem upd_same (b : Nat → Option Nat) (k v : Nat) : upd b k v k = some v := by simp [upd]
theorem upd_other (b : Nat → Option Nat) {k x : Nat} (v : Nat) (h : x ≠ k) : upd b k v x = b x := by simp [upd, h]
theorem MV.start (S : Nat) (w : World) : MV w.heap.size S (fun _ => none) (w.alloc (.map #[] 0)) :=
  ⟨0, .map [], World.ownsMap_made _ _ _ _, (fun l h => (by cases h)), fun u _ => ⟨rfl, fun v h => (by cases h)⟩⟩
theorem MV.lt {N S : Nat} {b : Nat → Option Nat} {w : World} (h : MV N S b w) : N < w.heap.size := by
  obtain ⟨n, D, h, _⟩ := h
  exact h.lt
theorem MV.same {N S : Nat} {b : Nat → Option Nat} {w w' : World} (h : MV N S b w) (e : w'.heap[N]? = w.heap[N]?) : MV N S b w' := by
  obtain ⟨n, D, ⟨es, clock, h1, h2⟩, hP⟩ := h
  exact ⟨n, D, ⟨es, clock, e.trans h1, h2⟩, hP⟩
theorem MV.small {N S n : Nat} {w : World} {D : DataW Value} (h : w.ownsMap Try.prog 3 gR N n D) (hP : ∀ l, has D l = true → ∃ u : Nat, u < S ∧ l = .int .i64 u) :
    w.ownsMap Try.prog 3 gR N S D := by
  obtain ⟨es', hD', hpw, hk⟩ := h.entries keyedI
  obtain ⟨es, clock, hb, F, hs, hD⟩ := h
  refine ⟨es, clock, hb, F, ?_, hD⟩
  have hlen : es'.length = es.size := by
    have e := hD'.symm.trans hD
    cases e
    rw [length_sorted]; simp
  rw [← hlen]
  let f : Lit × DataW Value → Nat := fun p => match p.1 with | .int _ q => q.toNat | _ => 0
  have hu : ∀ p ∈ es', ∃ u : Nat, u < S ∧ p.1 = .int .i64 u := fun p hp => by
    have : has D p.1 = true := by
      rw [hD', has_eq, List.any_eq_true]
      exact ⟨p, hp, WideAt.sameKey_self (hk p hp)⟩
    exact hP _ this
  have h1 : (es'.map f).Pairwise (· ≠ ·) := by
    rw [List.pairwise_map]
    refine List.Pairwise.imp_of_mem ?_ hpw
    intro a b ha hb hne e
    obtain ⟨u, _, e1⟩ := hu a ha
    obtain ⟨v, _, e2⟩ := hu b hb
    apply hne
    have e3 : f a = u := by simp only [f, e1]; simp
    have e4 : f b = v := by simp only [f, e2]; simp
    rw [e1, e2, ← e3, ← e4, e]
  have h2 := nodup_len S (es'.map f) h1 (fun x hx => by
    obtain ⟨p, hp, rfl⟩ := List.mem_map.1 hx
    obtain ⟨u, hu1, e1⟩ := hu p hp
    have e3 : f p = u := by simp only [f, e1]; simp
    omega)
  simpa using h2
theorem zeroI (w : World) : (zeroValue 3).run Try.prog w = .ok (.int .i64 0) w := by kernel_rfl
theorem MV.look {N S : Nat} {b : Nat → Option Nat} {w : World} (h : MV N S b w) {t : Nat} (ht : t < S) (hS : S ≤ 1024) :
    ∃ x : Value, (Instr.lookup 70 (.map (some N)) (.int .i64 t) true).run Try.prog w = .ok (.tuple #[x, .bool (b t).isSome]) w := by
  obtain ⟨n, D, h, _, hQ⟩ := h
  obtain ⟨v, ps, hrun, hv⟩ := h.look_ok keyedI Try.underlying70 (zeroI w) (zd := .held (.int .i64 0)) (zp := []) rfl (key_int (t := t) (by omega))
  rw [(hQ t ht).1] at hrun
  exact ⟨v, hrun⟩
theorem MV.get {N S : Nat} {b : Nat → Option Nat} {w : World} (h : MV N S b w) {t v : Nat} (ht : t < S) (hS : S ≤ 1024) (hb : b t = some v) :
    (Instr.lookup 70 (.map (some N)) (.int .i64 t) false).run Try.prog w = .ok (.int .i64 (v : Int)) w := by
  obtain ⟨n, D, h, _, hQ⟩ := h
  obtain ⟨x, ps, hrun, hv⟩ := h.lookup keyedI Try.underlying70 (zeroI w) (zd := .held (.int .i64 0)) (zp := []) rfl (key_int (t := t) (by omega))
  rw [(hQ t ht).2 v hb] at hv
  unfold gR at hv
  cases hv
  exact hrun
theorem MV.put {N S : Nat} {b : Nat → Option Nat} {w : World} (h : MV N S b w) (hS : S ≤ 1024) {t v : Nat} (ht : t < S) :
    ∃ w', (Instr.mapUpdate 70 (.map (some N)) (.int .i64 t) (.int .i64 v)).run Try.prog w = .ok () w' ∧ MV N S (upd b t v) w' ∧ Kp N w w' := by
  obtain ⟨n, D, h, hP, hQ⟩ := h
  have h' := MV.small h hP
  obtain ⟨w', hrun, ho, hg⟩ := h'.update keyedI Try.underlying70 (by unfold maxLen; omega) (val := .int .i64 v) (d := .held (.int .i64 v)) (ps := []) (key_int (t := t) (by omega)) rfl
  have hk := keyedI.key (key_int (t := t) (by omega))
  refine ⟨w', hrun, ⟨_, _, ho, fun l hl => ?_, fun u hu => ?_⟩, Kp.of_grown hg⟩
  · by_cases e : l = .int .i64 t
    · exact ⟨t, ht, e⟩
    · rw [has_put_other e] at hl
      exact hP l hl
  · by_cases e : u = t
    · subst e
      rw [upd_same]
      exact ⟨has_put_same h'.isMap hk _, fun x hx z => by cases hx; exact atKey_put_same h'.isMap hk _ _⟩
    · rw [upd_other _ _ e]
      have e' : (Lit.int .i64 (u : Int)) ≠ .int .i64 t := fun h => e (by cases h; rfl)
      rw [has_put_other e']
      exact ⟨(hQ u hu).1, fun x hx z => by rw [atKey_put_other e']; exact (hQ u hu).2 x hx z⟩

/-- The states of a search: the i-th found is next; its neighbours are asked; it has ended. -/
inductive BS where
  | st (i : Nat) (L : List Nat) (b : Nat → Option Nat)
  | inn (i : Nat) (L : List Nat) (b : Nat → Option Nat) (rest : List Nat)
  | fin (b : Nat → Option Nat)
/-- The states to which a search over adj from one number, until another one is found, comes. -/
inductive Bf (adj : Nat → List Nat) (fr tg : Nat) : BS → Prop
  | start : Bf adj fr tg (.st 0 [fr] (upd (fun _ => none) fr fr))
  | opn {i L b} : Bf adj fr tg (.st i L b) → i < L.length → Bf adj fr tg (.inn i L b (adj (L.getD i 0)))
  | skip {i L b n rest} : Bf adj fr tg (.inn i L b (n :: rest)) → (b n).isSome = true → Bf adj fr tg (.inn i L b rest)
  | add {i L b n rest} : Bf adj fr tg (.inn i L b (n :: rest)) → b n = none → n ≠ tg → Bf adj fr tg (.inn i (L ++ [n]) (upd b n (L.getD i 0)) rest)
  | hit {i L b n rest} : Bf adj fr tg (.inn i L b (n :: rest)) → b n = none → n = tg → Bf adj fr tg (.fin (upd b n (L.getD i 0)))
  | close {i L b} : Bf adj fr tg (.inn i L b []) → Bf adj fr tg (.st (i + 1) L b)
  | done {i L b} : Bf adj fr tg (.st i L b) → ¬ i < L.length → Bf adj fr tg (.fin b)

/-- What holds of each state. -/
structure Inv (adj : Nat → List Nat) (fr S : Nat) (i : Nat) (L : List Nat) (b : Nat → Option Nat) : Prop where
  nod : L.Pairwise (· ≠ ·)
  lt : ∀ x ∈ L, x < S
  mem : ∀ x, (b x).isSome = true ↔ x ∈ L
  le : i ≤ L.length
  from' : b fr = some fr
theorem inv_upd {adj : Nat → List Nat} {fr S i : Nat} {L : List Nat} {b : Nat → Option Nat} (h : Inv adj fr S i L b) {n v : Nat} (hn : b n = none) (hS : n < S) : Inv adj fr S i (L ++ [n]) (upd b n v) := by
  have hni : n ∉ L := fun k => by have := (h.mem n).2 k; rw [hn] at this; cases this
  refine ⟨?_, ?_, ?_, ?_, ?_⟩
  · rw [List.pairwise_append]
    exact ⟨h.nod, by simp, fun a ha b hb => by simp at hb; subst hb; intro e; subst e; exact hni ha⟩
  · intro x hx
    simp at hx
    rcases hx with hx | rfl
    · exact h.lt x hx
    · exact hS
  · intro x
    by_cases e : x = n
    · subst e; simp [upd]
    · rw [upd_other _ _ e, h.mem x]; simp [e]
  · simp; have := h.le; omega
  · by_cases e : fr = n
    · subst e; have := h.from'; rw [hn] at this; cases this
    · rw [upd_other _ _ e]; exact h.from'
def InvS (adj : Nat → List Nat) (fr S : Nat) : BS → Prop
  | .st i L b => Inv adj fr S i L b
  | .inn i L b rest => Inv adj fr S i L b ∧ i < L.length ∧ ∀ n ∈ rest, n < S
  | .fin b => b fr = some fr
theorem Bf.inv {adj : Nat → List Nat} {fr tg S : Nat} (hf : fr < S) (ha : ∀ t, t < S → ∀ n ∈ adj t, n < S) {s : BS} (h : Bf adj fr tg s) : InvS adj fr S s := by
  induction h with
  | start =>
    refine ⟨by simp, by simpa using hf, fun x => ?_, by simp, upd_same _ _ _⟩
    by_cases e : x = fr
    · subst e; simp [upd]
    · rw [upd_other _ _ e]; simp [e]
  | @opn i L b _ hi ih =>
    refine ⟨ih, hi, ha _ (ih.lt _ ?_)⟩
    rw [List.getD_eq_getElem?_getD, List.getElem?_eq_getElem hi]
    exact List.getElem_mem hi
  | skip _ _ ih => exact ⟨ih.1, ih.2.1, fun n hn => ih.2.2 n (by simp [hn])⟩
  | add _ hb _ ih => exact ⟨inv_upd ih.1 hb (ih.2.2 _ (by simp)), by simp; have := ih.2.1; omega, fun n hn => ih.2.2 n (by simp [hn])⟩
  | hit _ hb _ ih => exact (inv_upd ih.1 hb (ih.2.2 _ (by simp))).from'
  | close _ ih => exact ⟨ih.1.nod, ih.1.lt, ih.1.mem, ih.2.1, ih.1.from'⟩
  | done _ _ ih => exact ih.from'
theorem Inv.len {adj : Nat → List Nat} {fr S i : Nat} {L : List Nat} {b : Nat → Option Nat} (h : Inv adj fr S i L b) : L.length ≤ S := nodup_len S L h.nod h.lt
theorem Inv.at {adj : Nat → List Nat} {fr S i : Nat} {L : List Nat} {b : Nat → Option Nat} (h : Inv adj fr S i L b) {j : Nat} (hj : j < L.length) : L.getD j 0 < S := by
  refine h.lt _ ?_
  rw [List.getD_eq_getElem?_getD, List.getElem?_eq_getElem hj]
  exact List.getElem_mem hj
theorem bes_in {W H : Nat} (hs : Sized W H) (Z K : Nat → Int) {t : Nat} (ht : t < W * H) : ∀ n ∈ bes W H Z K t, n < W * H := by
  intro n hn
  unfold bes besK at hn
  simp only [List.mem_map, List.mem_filter] at hn
  obtain ⟨i, ⟨_, hj⟩, rfl⟩ := hn
  have h0 := joi_bey hj
  have hWH : (W : Int) * (H : Int) = ((W * H : Nat) : Int) := by simp
  have := bey_in hs (t := (t : Int)) (by omega) (by rw [hWH]; omega) h0
  rw [hWH] at this
  omega
end Go.Proofs.Ytkpnngpnjimogaa
