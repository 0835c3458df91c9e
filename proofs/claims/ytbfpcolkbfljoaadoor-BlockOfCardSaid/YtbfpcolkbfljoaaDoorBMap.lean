/-
  Maps from numbers that a call makes, and what calls keep that fill one.
-/
import Derived.Test.YtbfpcolkbfljoaaDoorBBsd
import Derived.Test.YtbfpcolkbfljoaaDoorRTurn
import Derived.Maps.OwnSet
import Derived.Maps.Range
namespace Go.Proofs.YtbfpcolkbfljoaaDoor
open Go.RowKit Go.Maps

theorem nodup_len : ∀ (N : Nat) (l : List Nat), l.Pairwise (· ≠ ·) → (∀ x ∈ l, x < N) → l.length ≤ N
  | 0, l, _, h => by
    cases l with
    | nil => simp
    | cons x r => exact absurd (h x (by simp)) (Nat.not_lt_zero x)
  | N + 1, l, hp, h => by
    have h1 : (l.filter (· ≠ N)).length ≤ N := by
      refine nodup_len N _ (hp.filter _) ?_
      intro x hx
      have := List.mem_filter.1 hx
      have := h x this.1
      have h2 : x ≠ N := by simpa using (List.mem_filter.1 hx).2
      omega
    have h2 : ∀ l : List Nat, l.Pairwise (· ≠ ·) → l.length ≤ (l.filter (· ≠ N)).length + 1 := by
      intro l
      induction l with
      | nil => intro _; simp
      | cons x r ih =>
        intro hp
        obtain ⟨a, b⟩ := List.pairwise_cons.1 hp
        by_cases hx : x = N
        · subst hx
          have : r.filter (· ≠ x) = r := List.filter_eq_self.2 fun y hy => by simpa using fun e => (a y hy) e.symm
          simp only [List.filter_cons, ne_eq, not_true_eq_false, decide_false, Bool.false_eq_true, if_false]
          rw [show (r.filter fun y => decide ¬ y = x) = r from this]; simp
        · have := ih b
          simp only [List.filter_cons, ne_eq, hx, not_false_eq_true, decide_true, if_true, List.length_cons] at this ⊢
          omega
    have := h2 l hp
    omega

/-- Nothing turns but the map in block M and what is new. -/
structure Kp (M : Nat) (w w' : World) : Prop where
  os : w'.os = w.os
  tape : w'.tape = w.tape
  output : w'.output = w.output
  size : w.heap.size ≤ w'.heap.size
  block : ∀ k, k < w.heap.size → k ≠ M → w'.heap[k]? = w.heap[k]?
theorem Kp.refl (M : Nat) (w : World) : Kp M w w := ⟨rfl, rfl, rfl, Nat.le_refl _, fun _ _ _ => rfl⟩
theorem Kp.trans {M : Nat} {a b c : World} (h : Kp M a b) (k : Kp M b c) : Kp M a c :=
  ⟨k.os.trans h.os, k.tape.trans h.tape, k.output.trans h.output, Nat.le_trans h.size k.size, fun i hi hn => (k.block i (Nat.lt_of_lt_of_le hi h.size) hn).trans (h.block i hi hn)⟩
theorem Kp.of_below {M : Nat} {w w' : World} (h : Below w.heap.size w w') : Kp M w w' := ⟨h.os, h.tape, h.output, h.size, fun k hk _ => h.block k hk⟩
theorem Kp.of_grown {M : Nat} {w w' : World} (h : w.grownBy w' (some M)) : Kp M w w' := ⟨h.os, h.tape, h.output, h.size, fun k hk hn => h.block k hk (fun e => hn (by simpa using e))⟩
theorem Kp.alloc {M : Nat} {w wr : World} (h : Kp M w wr) (o : Obj) : Kp M w (wr.alloc o) := h.trans (Kp.of_below (Joins.below_alloc1 _ _))
theorem Kp.drewN {M : Nat} {w wr : World} (h : Kp M w wr) (n : Nat) : Kp M w (wr.drewN n) := h.trans (Kp.of_below (Joins.below_draws _ _ _))
theorem Kp.setCell {M : Nat} {w wr : World} (h : Kp M w wr) {p : Addr} (hp : w.heap.size ≤ p.block) (u : Value) : Kp M w (wr.setCell p u) :=
  ⟨h.os, h.tape, h.output, by simpa [World.setCell] using h.size, fun k hk hn => (Below.heap_setCell _ _ _ _ (by omega)).trans (h.block k hk hn)⟩
theorem Kp.cell {M : Nat} {w w' : World} (h : Kp M w w') {p : Addr} (hp : p.block < w.heap.size) (hn : p.block ≠ M) : w'.cell? p = w.cell? p := World.cell?_of_block (w := w) (h.block p.block hp hn)
theorem Kp.frozen {M : Nat} {w w' : World} (h : Kp M w w') {p : Addr} (hp : p.block < w.heap.size) (hn : p.block ≠ M) : w'.frozen? p = w.frozen? p := World.frozen?_of_block (w := w) (h.block p.block hp hn)
theorem Kp.below {M B : Nat} {w w' : World} (h : Kp M w w') (hM : B ≤ M) (hB : B ≤ w.heap.size) : Below B w w' := ⟨h.os, h.tape, h.output, h.size, fun k hk => h.block k (by omega) (by omega)⟩
theorem Kp.under {N : Nat} {w w' : World} (k : Kp N w w') (hN : N < w.heap.size) : Below N w w' := k.below (Nat.le_refl _) (Nat.le_of_lt hN)
/-- What a chart's functions find lies beside the map. -/
structure Ne (d : Rl) (M : Nat) : Prop where
  tab : 0 ≠ M
  a : 0 < d.n → ∀ b off, d.ao = some ⟨b, off, none⟩ → b ≠ M
  b : 0 < d.m → ∀ b off, d.bo = some ⟨b, off, none⟩ → b ≠ M
  s : 0 < d.l → ∀ b off, d.lo = some ⟨b, off, none⟩ → b ≠ M
theorem Vals.keep {w w' : World} {M n : Nat} {ao : Option Addr} {F : Nat → Value} (h : Vals w ao n F) (hn : 0 < n → ∀ b off, ao = some ⟨b, off, none⟩ → b ≠ M) (k : Kp M w w') : Vals w' ao n F := fun j hj => by
  obtain ⟨b, off, e, hz, hc⟩ := h j hj
  exact ⟨b, off, e, by have := k.size; omega, (k.cell (p := ⟨b, off + j, none⟩) hz (hn (by omega) b off e)).trans hc⟩
theorem Has.kp {d : Rl} {M : Nat} {w w' : World} (h : Has d w) (hn : Ne d M) (k : Kp M w w') : Has d w' := by
  refine ⟨fun p hp => ?_, h.ints.keep hn.a k, h.bools.keep hn.b k, fun j hj => ?_⟩
  · have h0 := h.tab p hp
    exact ⟨(k.cell (p := ⟨0, 2 * p, none⟩) (lt_of_cell h0.1) hn.tab).trans h0.1, (k.cell (p := ⟨0, 2 * p + 1, none⟩) (lt_of_cell h0.2) hn.tab).trans h0.2⟩
  · obtain ⟨b, off, e, hz, c0, c1, c2, c3⟩ := h.sigs j hj
    have hb := hn.s (by omega) b off e
    exact ⟨b, off, e, by have := k.size; omega, (k.cell (p := ⟨b, _, none⟩) hz hb).trans c0, (k.cell (p := ⟨b, _, none⟩) hz hb).trans c1, (k.cell (p := ⟨b, _, none⟩) hz hb).trans c2, (k.cell (p := ⟨b, _, none⟩) hz hb).trans c3⟩
theorem Ne.new {d : Rl} {w : World} {M : Nat} (h : Has d w) (hM : w.heap.size ≤ M) : Ne d M := by
  refine ⟨?_, fun hn b off e => ?_, fun hn b off e => ?_, fun hn b off e => ?_⟩
  · have := h.tab.all.2.2.2
    omega
  · obtain ⟨b', off', e', hz, _⟩ := h.ints 0 hn
    rw [e] at e'; cases e'; omega
  · obtain ⟨b', off', e', hz, _⟩ := h.bools 0 hn
    rw [e] at e'; cases e'; omega
  · obtain ⟨b', off', e', hz, _⟩ := h.sigs 0 hn
    rw [e] at e'; cases e'; omega
theorem CB.kp {d : Rl} {fv mp : Value} {A M : Nat} {wr w' : World} (h : CB d fv mp A wr) (hn : Ne d M) (hA : A ≠ M) (k : Kp M wr w') : CB d fv mp A w' :=
  have e : ∀ i, w'.cell? ⟨A, i, none⟩ = wr.cell? ⟨A, i, none⟩ := fun i => k.cell (p := ⟨A, i, none⟩) h.size hA
  ⟨Nat.lt_of_lt_of_le h.size k.size, (e 0).trans h.c0, (e 1).trans h.c1, (e 2).trans h.c2, (e 3).trans h.c3, (e 4).trans h.c4, (e 5).trans h.c5, h.has.kp hn k⟩
theorem row_kp {w w' : World} {M B : Nat} {e : TypeId} {size n : Nat} {v : Value} {xs : List Value} (h : w.ownsRow B e size v n xs) (k : Kp M w w') (hB : M < B) : w'.ownsRow B e size v n xs := by
  refine ⟨h.1, ?_⟩
  rcases h.2 with hn | ⟨g, cap, cur, rfl, hg0, hg, rest⟩
  · exact .inl hn
  · refine .inr ⟨g, cap, cur, rfl, hg0, ?_, rest⟩
    rw [k.block g (heap_lt hg) (by omega)]
    exact hg

def gR : Value → Option (DataW Value × List MemPlace) := fun v => some (.held v, [])
theorem keyedI : Keyed Tryd.prog 3 := int_keyed Tryd.underlying3
theorem key_int {t : Nat} (h : t ≤ 100000) : keyOf Tryd.prog 3 (.int .i64 t) = some (.int .i64 t) := by
  refine keyOf_int_mk Tryd.underlying3 ?_
  rw [Lit.wf]; simp [show IntKind.i64.min = -9223372036854775808 from by decide, show IntKind.i64.max = 9223372036854775807 from by decide]; omega
/-- The map in block N says what b does, of numbers below S. -/
def MV (vf : Nat → Value) (N S : Nat) (b : Nat → Option Nat) (w : World) : Prop :=
  ∃ (n : Nat) (D : DataW Value), w.ownsMap Tryd.prog 3 gR N n D ∧ (∀ l, Go.Maps.has D l = true → ∃ u : Nat, u < S ∧ l = .int .i64 u) ∧
    ∀ u : Nat, u < S → Go.Maps.has D (.int .i64 u) = (b u).isSome ∧ ∀ v, b u = some v → ∀ z, D.atKey (.int .i64 u) z = .held (vf v)
/-- One more key. -/
def updN (b : Nat → Option Nat) (k v : Nat) : Nat → Option Nat := fun x => if x = k then some v else b x
theorem upd_same (b : Nat → Option Nat) (k v : Nat) : updN b k v k = some v := by simp [updN]
theorem upd_other (b : Nat → Option Nat) {k x : Nat} (v : Nat) (h : x ≠ k) : updN b k v x = b x := by simp [updN, h]
theorem MV.start (vf : Nat → Value) (S : Nat) (w : World) : MV vf w.heap.size S (fun _ => none) (w.alloc (.map #[] 0)) :=
  ⟨0, .map [], World.ownsMap_made _ _ _ _, (fun l h => (by cases h)), fun u _ => ⟨rfl, fun v h => (by cases h)⟩⟩
theorem MV.lt {vf : Nat → Value} {N S : Nat} {b : Nat → Option Nat} {w : World} (h : MV vf N S b w) : N < w.heap.size := by
  obtain ⟨n, D, h, _⟩ := h
  exact h.lt
theorem MV.same {vf : Nat → Value} {N S : Nat} {b : Nat → Option Nat} {w w' : World} (h : MV vf N S b w) (e : w'.heap[N]? = w.heap[N]?) : MV vf N S b w' := by
  obtain ⟨n, D, ⟨es, clock, h1, h2⟩, hP⟩ := h
  exact ⟨n, D, ⟨es, clock, e.trans h1, h2⟩, hP⟩
theorem MV.small {N S n : Nat} {w : World} {D : DataW Value} (h : w.ownsMap Tryd.prog 3 gR N n D) (hP : ∀ l, Go.Maps.has D l = true → ∃ u : Nat, u < S ∧ l = .int .i64 u) :
    w.ownsMap Tryd.prog 3 gR N S D := by
  obtain ⟨es', hD', hpw, hk⟩ := h.entries keyedI
  obtain ⟨es, clock, hb, F, hs, hD⟩ := h
  refine ⟨es, clock, hb, F, ?_, hD⟩
  have hlen : es'.length = es.size := by
    have e := hD'.symm.trans hD
    cases e
    rw [length_sorted]; simp
  rw [← hlen]
  let f : Lit × DataW Value → Nat := fun p => match p.1 with | .int _ q => q.toNat | _ => 0
  have hu : ∀ p ∈ es', ∃ u : Nat, u < S ∧ p.1 = .int .i64 u := fun p hp => by
    have : Go.Maps.has D p.1 = true := by
      rw [hD', has_eq, List.any_eq_true]
      exact ⟨p, hp, WideAt.sameKey_self (hk p hp)⟩
    exact hP _ this
  have h1 : (es'.map f).Pairwise (· ≠ ·) := by
    rw [List.pairwise_map]
    refine List.Pairwise.imp_of_mem ?_ hpw
    intro a b ha hb hne e
    obtain ⟨u, _, e1⟩ := hu a ha
    obtain ⟨v, _, e2⟩ := hu b hb
    apply hne
    have e3 : f a = u := by simp only [f, e1]; simp
    have e4 : f b = v := by simp only [f, e2]; simp
    rw [e1, e2, ← e3, ← e4, e]
  have h2 := nodup_len S (es'.map f) h1 (fun x hx => by
    obtain ⟨p, hp, rfl⟩ := List.mem_map.1 hx
    obtain ⟨u, hu1, e1⟩ := hu p hp
    have e3 : f p = u := by simp only [f, e1]; simp
    omega)
  simpa using h2
theorem zeroI (w : World) : (zeroValue 3).run Tryd.prog w = .ok (.int .i64 0) w := by kernel_rfl
theorem zeroB (w : World) : (zeroValue 4).run Tryd.prog w = .ok (.bool false) w := by kernel_rfl
abbrev vI : Nat → Value := fun v => .int .i64 (v : Int)
abbrev vT : Nat → Value := fun _ => .bool true
theorem MV.look {N S : Nat} {b : Nat → Option Nat} {w : World} (h : MV vI N S b w) {t : Nat} (ht : t < S) (hS : S ≤ 100000) :
    ∃ x : Value, (Instr.lookup 79 (.map (some N)) (.int .i64 t) true).run Tryd.prog w = .ok (.tuple #[x, .bool (b t).isSome]) w ∧ (∀ v, b t = some v → x = vI v) ∧ (b t = none → x = .int .i64 0) := by
  obtain ⟨n, D, h, _, hQ⟩ := h
  obtain ⟨v, ps, hrun, hv⟩ := h.look_ok keyedI Tryd.underlying79 (zeroI w) (zd := .held (.int .i64 0)) (zp := []) rfl (key_int (t := t) (by omega))
  rw [(hQ t ht).1] at hrun
  refine ⟨v, hrun, fun q hq => ?_, fun hq => ?_⟩
  · rw [(hQ t ht).2 q hq] at hv
    unfold gR at hv
    cases hv; rfl
  · have hh : Go.Maps.has D (.int .i64 t) = false := by rw [(hQ t ht).1, hq]; rfl
    rw [atKey_of_not_has hh] at hv
    unfold gR at hv
    cases hv; rfl
theorem MV.get {N S : Nat} {b : Nat → Option Nat} {w : World} (h : MV vI N S b w) {t v : Nat} (ht : t < S) (hS : S ≤ 100000) (hb : b t = some v) :
    (Instr.lookup 79 (.map (some N)) (.int .i64 t) false).run Tryd.prog w = .ok (.int .i64 (v : Int)) w := by
  obtain ⟨n, D, h, _, hQ⟩ := h
  obtain ⟨x, ps, hrun, hv⟩ := h.lookup keyedI Tryd.underlying79 (zeroI w) (zd := .held (.int .i64 0)) (zp := []) rfl (key_int (t := t) (by omega))
  rw [(hQ t ht).2 v hb] at hv
  unfold gR at hv
  cases hv
  exact hrun
theorem MV.put {N S : Nat} {b : Nat → Option Nat} {w : World} (h : MV vI N S b w) (hS : S ≤ 100000) {t v : Nat} (ht : t < S) :
    ∃ w', (Instr.mapUpdate 79 (.map (some N)) (.int .i64 t) (.int .i64 v)).run Tryd.prog w = .ok () w' ∧ MV vI N S (updN b t v) w' ∧ Kp N w w' := by
  obtain ⟨n, D, h, hP, hQ⟩ := h
  have h' := MV.small h hP
  obtain ⟨w', hrun, ho, hg⟩ := h'.update keyedI Tryd.underlying79 (by unfold maxLen; omega) (val := .int .i64 v) (d := .held (.int .i64 v)) (ps := []) (key_int (t := t) (by omega)) rfl
  have hk := keyedI.key (key_int (t := t) (by omega))
  refine ⟨w', hrun, ⟨_, _, ho, fun l hl => ?_, fun u hu => ?_⟩, Kp.of_grown hg⟩
  · by_cases e : l = .int .i64 t
    · exact ⟨t, ht, e⟩
    · rw [has_put_other e] at hl
      exact hP l hl
  · by_cases e : u = t
    · subst e
      rw [upd_same]
      exact ⟨has_put_same h'.isMap hk _, fun x hx z => by cases hx; exact atKey_put_same h'.isMap hk _ _⟩
    · rw [upd_other _ _ e]
      have e' : (Lit.int .i64 (u : Int)) ≠ .int .i64 t := fun h => e (by cases h; rfl)
      rw [has_put_other e']
      exact ⟨(hQ u hu).1, fun x hx z => by rw [atKey_put_other e']; exact (hQ u hu).2 x hx z⟩
theorem MV.has {N S : Nat} {b : Nat → Option Nat} {w : World} (h : MV vT N S b w) {t : Nat} (ht : t < S) (hS : S ≤ 100000) :
    (Instr.lookup 110 (.map (some N)) (.int .i64 t) false).run Tryd.prog w = .ok (.bool (b t).isSome) w := by
  obtain ⟨n, D, h, _, hQ⟩ := h
  obtain ⟨x, ps, hrun, hv⟩ := h.lookup keyedI Tryd.underlying110 (zeroB w) (zd := .held (.bool false)) (zp := []) rfl (key_int (t := t) (by omega))
  cases hb : b t with
  | none =>
    have hh : Go.Maps.has D (.int .i64 t) = false := by rw [(hQ t ht).1, hb]; rfl
    rw [atKey_of_not_has hh] at hv
    unfold gR at hv
    cases hv
    exact hrun
  | some v =>
    rw [(hQ t ht).2 v hb] at hv
    unfold gR at hv
    cases hv
    exact hrun
theorem MV.putT {N S : Nat} {b : Nat → Option Nat} {w : World} (h : MV vT N S b w) (hS : S ≤ 100000) {t v : Nat} (ht : t < S) :
    ∃ w', (Instr.mapUpdate 110 (.map (some N)) (.int .i64 t) (.bool true)).run Tryd.prog w = .ok () w' ∧ MV vT N S (updN b t v) w' ∧ Kp N w w' := by
  obtain ⟨n, D, h, hP, hQ⟩ := h
  have h' := MV.small h hP
  obtain ⟨w', hrun, ho, hg⟩ := h'.update keyedI Tryd.underlying110 (by unfold maxLen; omega) (val := .bool true) (d := .held (.bool true)) (ps := []) (key_int (t := t) (by omega)) rfl
  have hk := keyedI.key (key_int (t := t) (by omega))
  refine ⟨w', hrun, ⟨_, _, ho, fun l hl => ?_, fun u hu => ?_⟩, Kp.of_grown hg⟩
  · by_cases e : l = .int .i64 t
    · exact ⟨t, ht, e⟩
    · rw [has_put_other e] at hl
      exact hP l hl
  · by_cases e : u = t
    · subst e
      rw [upd_same]
      exact ⟨has_put_same h'.isMap hk _, fun x hx z => by cases hx; exact atKey_put_same h'.isMap hk _ _⟩
    · rw [upd_other _ _ e]
      have e' : (Lit.int .i64 (u : Int)) ≠ .int .i64 t := fun h => e (by cases h; rfl)
      rw [has_put_other e']
      exact ⟨(hQ u hu).1, fun x hx z => by rw [atKey_put_other e']; exact (hQ u hu).2 x hx z⟩
end Go.Proofs.YtbfpcolkbfljoaaDoor
