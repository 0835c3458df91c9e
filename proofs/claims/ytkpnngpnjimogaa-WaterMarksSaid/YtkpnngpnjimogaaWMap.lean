/-
  Land and waters as they lie in memory; the map of what the land tells of tiles; what calls keep that fill that map.
-/
import Derived.Test.YtkpnngpnjimogaaSSlope
import Derived.Maps.OwnSet
import Derived.Maps.Range
namespace Go.Proofs.Ytkpnngpnjimogaa
open Go.RowKit Go.Maps

theorem nodup_len : ∀ (N : Nat) (l : List Nat), l.Pairwise (· ≠ ·) → (∀ x ∈ l, x < N) → l.length ≤ N
  | 0, l, _, h => by
    cases l with
    | nil => simp
    | cons x r => exact absurd (h x (by simp)) (Nat.not_lt_zero x)
  | N + 1, l, hp, h => by
    have h1 : (l.filter (· ≠ N)).length ≤ N := by
      refine nodup_len N _ (hp.filter _) ?_
      intro x hx
      have := List.mem_filter.1 hx
      have := h x this.1
      have h2 : x ≠ N := by simpa using (List.mem_filter.1 hx).2
      omega
    have h2 : ∀ l : List Nat, l.Pairwise (· ≠ ·) → l.length ≤ (l.filter (· ≠ N)).length + 1 := by
      intro l
      induction l with
      | nil => intro _; simp
      | cons x r ih =>
        intro hp
        obtain ⟨a, b⟩ := List.pairwise_cons.1 hp
        by_cases hx : x = N
        · subst hx
          have : r.filter (· ≠ x) = r := List.filter_eq_self.2 fun y hy => by simpa using fun e => (a y hy) e.symm
          simp only [List.filter_cons, ne_eq, not_true_eq_false, decide_false, Bool.false_eq_true, if_false]
          rw [show (r.filter fun y => decide ¬ y = x) = r from this]; simp
        · have := ih b
          simp only [List.filter_cons, ne_eq, hx, not_false_eq_true, decide_true, if_true, List.length_cons] at this ⊢
          omega
    have := h2 l hp
    omega

/-- Nothing turns but the map in block M and what is new. -/
structure Kp (M : Nat) (w w' : World) : Prop where
  os : w'.os = w.os
  tape : w'.tape = w.tape
  output : w'.output = w.output
  size : w.heap.size ≤ w'.heap.size
  block : ∀ k, k < w.heap.size → k ≠ M → w'.heap[k]? = w.heap[k]?
theorem Kp.refl (M : Nat) (w : World) : Kp M w w := ⟨rfl, rfl, rfl, Nat.le_refl _, fun _ _ _ => rfl⟩
theorem Kp.trans {M : Nat} {a b c : World} (h : Kp M a b) (k : Kp M b c) : Kp M a c :=
  ⟨k.os.trans h.os, k.tape.trans h.tape, k.output.trans h.output, Nat.le_trans h.size k.size, fun i hi hn => (k.block i (Nat.lt_of_lt_of_le hi h.size) hn).trans (h.block i hi hn)⟩
theorem Kp.of_below {M : Nat} {w w' : World} (h : Below w.heap.size w w') : Kp M w w' := ⟨h.os, h.tape, h.output, h.size, fun k hk _ => h.block k hk⟩
theorem Kp.of_grown {M : Nat} {w w' : World} (h : w.grownBy w' (some M)) : Kp M w w' := ⟨h.os, h.tape, h.output, h.size, fun k hk hn => h.block k hk (fun e => hn (by simpa using e))⟩
theorem Kp.alloc {M : Nat} {w wr : World} (h : Kp M w wr) (o : Obj) : Kp M w (wr.alloc o) := h.trans (Kp.of_below (Joins.below_alloc1 _ _))
theorem Kp.drewN {M : Nat} {w wr : World} (h : Kp M w wr) (n : Nat) : Kp M w (wr.drewN n) := h.trans (Kp.of_below (Joins.below_draws _ _ _))
theorem Kp.setCell {M : Nat} {w wr : World} (h : Kp M w wr) {p : Addr} (hp : w.heap.size ≤ p.block) (u : Value) : Kp M w (wr.setCell p u) :=
  ⟨h.os, h.tape, h.output, by simpa [World.setCell] using h.size, fun k hk hn => (Below.heap_setCell _ _ _ _ (by omega)).trans (h.block k hk hn)⟩
theorem Kp.cell {M : Nat} {w w' : World} (h : Kp M w w') {p : Addr} (hp : p.block < w.heap.size) (hn : p.block ≠ M) : w'.cell? p = w.cell? p := World.cell?_of_block (w := w) (h.block p.block hp hn)
theorem Kp.frozen {M : Nat} {w w' : World} (h : Kp M w w') {p : Addr} (hp : p.block < w.heap.size) (hn : p.block ≠ M) : w'.frozen? p = w.frozen? p := World.frozen?_of_block (w := w) (h.block p.block hp hn)
theorem Kp.below {M B : Nat} {w w' : World} (h : Kp M w w') (hM : B ≤ M) (hB : B ≤ w.heap.size) : Below B w w' := ⟨h.os, h.tape, h.output, h.size, fun k hk => h.block k (by omega) (by omega)⟩
theorem Ints.keep {w w' : World} {M n : Nat} {ao : Option Addr} {Z : Nat → Int} (h : Ints w ao n Z) (hn : 0 < n → ∀ b off, ao = some ⟨b, off, none⟩ → b < M) (k : Kp M w w') : Ints w' ao n Z := fun j hj => by
  obtain ⟨b, off, e, hz, hc⟩ := h j hj
  exact ⟨b, off, e, by have := k.size; omega, (k.cell (p := ⟨b, off + j, none⟩) hz (Nat.ne_of_lt (hn (by omega) b off e))).trans hc⟩
theorem Ints.set {w : World} {M n : Nat} {ao : Option Addr} {Z : Nat → Int} (h : Ints w ao n Z) (hn : 0 < n → ∀ b off, ao = some ⟨b, off, none⟩ → b < M) {p : Addr} (hp : M < p.block) (u : Value) : Ints (w.setCell p u) ao n Z := fun j hj => by
  obtain ⟨b, off, e, hz, hc⟩ := h j hj
  have := hn (by omega) b off e
  exact ⟨b, off, e, by simpa [World.setCell] using hz, (World.cell?_of_block (w := w) (Below.heap_setCell _ _ _ _ (show b ≠ p.block by omega))).trans hc⟩

/-- Whether a tile is sea; the slope and the base that a chart tells of it. -/
def sea (W : Nat) (Z : Nat → Int) (u : Nat) : Bool := decide (top W Z u ≤ 2)
def gsl (W : Nat) (Z : Nat → Int) (u : Nat) : Int := if sea W Z u = true then 0 else slope W Z u
def gba (W : Nat) (Z : Nat → Int) (u : Nat) : Int := if sea W Z u = true then 0 else base W Z u
abbrev gv (s : Bool) (a b : Int) : Value := .agg #[.bool s, .int .i64 a, .int .i64 b]
def gnd (W : Nat) (Z : Nat → Int) (u : Nat) : Value := gv (sea W Z u) (gsl W Z u) (gba W Z u)

def gR : Value → Option (DataW Value × List MemPlace) := fun v => some (.held v, [])
theorem keyedI : Keyed Try.prog 3 := int_keyed Try.underlying3
theorem zeroG (w : World) : (zeroValue 64).run Try.prog w = .ok (gv false 0 0) w := by kernel_rfl
theorem key_int {t : Nat} (h : t ≤ 100000) : keyOf Try.prog 3 (.int .i64 t) = some (.int .i64 t) := by
  refine keyOf_int_mk Try.underlying3 ?_
  rw [Lit.wf]; simp [show IntKind.i64.min = -9223372036854775808 from by decide, show IntKind.i64.max = 9223372036854775807 from by decide]; omega
/-- The map in block M tells of tiles what the land does. -/
def GS (M W H : Nat) (Z : Nat → Int) (w : World) : Prop :=
  ∃ (n : Nat) (D : DataW Value), w.ownsMap Try.prog 3 gR M n D ∧ ∀ l, has D l = true → ∃ u : Nat, u < W * H ∧ l = .int .i64 u ∧ ∀ z, D.atKey l z = .held (gnd W Z u)
theorem GS.start (W H : Nat) (Z : Nat → Int) (w : World) : GS w.heap.size W H Z (w.alloc (.map #[] 0)) :=
  ⟨0, .map [], World.ownsMap_made _ _ _ _, fun l h => by cases h⟩
theorem GS.lt {M W H : Nat} {Z : Nat → Int} {w : World} (h : GS M W H Z w) : M < w.heap.size := by
  obtain ⟨n, D, h, _⟩ := h
  exact h.lt
theorem GS.same {M W H : Nat} {Z : Nat → Int} {w w' : World} (h : GS M W H Z w) (e : w'.heap[M]? = w.heap[M]?) : GS M W H Z w' := by
  obtain ⟨n, D, ⟨es, clock, h1, h2⟩, hP⟩ := h
  exact ⟨n, D, ⟨es, clock, e.trans h1, h2⟩, hP⟩
theorem GS.stays {M W H : Nat} {Z : Nat → Int} {w w' : World} (h : GS M W H Z w) (hb : Below w.heap.size w w') : GS M W H Z w' := h.same (hb.block M h.lt)
theorem GS.setCell {M W H : Nat} {Z : Nat → Int} {w : World} (h : GS M W H Z w) {p : Addr} (hp : M ≠ p.block) (u : Value) : GS M W H Z (w.setCell p u) := h.same (Below.heap_setCell _ _ _ _ hp)
theorem GS.ne_cells {M W H b : Nat} {Z : Nat → Int} {w : World} (h : GS M W H Z w) {cs : Array Value} {t : TypeId} {z : Nat × Nat} (hb : w.heap[b]? = some (.cells cs t z)) : b ≠ M := by
  obtain ⟨n, D, ⟨es, clock, h1, _⟩, _⟩ := h
  intro e
  subst e
  rw [h1] at hb
  cases hb
/-- The map has no more entries than there are tiles. -/
theorem GS.small {M W H n : Nat} {Z : Nat → Int} {w : World} {D : DataW Value} (h : w.ownsMap Try.prog 3 gR M n D) (hP : ∀ l, has D l = true → ∃ u : Nat, u < W * H ∧ l = .int .i64 u ∧ ∀ z, D.atKey l z = .held (gnd W Z u)) :
    w.ownsMap Try.prog 3 gR M (W * H) D := by
  obtain ⟨es', hD', hpw, hk⟩ := h.entries keyedI
  obtain ⟨es, clock, hb, F, hs, hD⟩ := h
  refine ⟨es, clock, hb, F, ?_, hD⟩
  have hlen : es'.length = es.size := by
    have e := hD'.symm.trans hD
    cases e
    rw [length_sorted]; simp
  rw [← hlen]
  let f : Lit × DataW Value → Nat := fun p => match p.1 with | .int _ q => q.toNat | _ => 0
  have hu : ∀ p ∈ es', ∃ u : Nat, u < W * H ∧ p.1 = .int .i64 u := fun p hp => by
    have : has D p.1 = true := by
      rw [hD', has_eq, List.any_eq_true]
      exact ⟨p, hp, WideAt.sameKey_self (hk p hp)⟩
    obtain ⟨u, h1, h2, _⟩ := hP _ this
    exact ⟨u, h1, h2⟩
  have h1 : (es'.map f).Pairwise (· ≠ ·) := by
    rw [List.pairwise_map]
    refine List.Pairwise.imp_of_mem ?_ hpw
    intro a b ha hb hne e
    obtain ⟨u, _, e1⟩ := hu a ha
    obtain ⟨v, _, e2⟩ := hu b hb
    apply hne
    have e3 : f a = u := by simp only [f, e1]; simp
    have e4 : f b = v := by simp only [f, e2]; simp
    rw [e1, e2, ← e3, ← e4, e]
  have h2 := nodup_len (W * H) (es'.map f) h1 (fun x hx => by
    obtain ⟨p, hp, rfl⟩ := List.mem_map.1 hx
    obtain ⟨u, hu1, e1⟩ := hu p hp
    have e3 : f p = u := by simp only [f, e1]; simp
    omega)
  simpa using h2
theorem GS.look {M W H : Nat} {Z : Nat → Int} {w : World} (h : GS M W H Z w) {t : Nat} (ht : t ≤ 100000) :
    ∃ (v : Value) (ok : Bool), (Instr.lookup 50 (.map (some M)) (.int .i64 t) true).run Try.prog w = .ok (.tuple #[v, .bool ok]) w ∧ (ok = true → v = gnd W Z t) ∧ (ok = false → v = gv false 0 0) := by
  obtain ⟨n, D, h, hP⟩ := h
  obtain ⟨v, ps, hrun, hv⟩ := h.look_ok keyedI Try.underlying50 (zeroG w) (zd := .held (gv false 0 0)) (zp := []) rfl (key_int ht)
  refine ⟨v, has D (.int .i64 t), hrun, fun hk => ?_, fun hk => ?_⟩
  · obtain ⟨u, _, e, ha⟩ := hP _ hk
    rw [ha] at hv
    have e2 : (t : Int) = u := by cases e; rfl
    obtain rfl : t = u := by omega
    unfold gR at hv
    cases hv; rfl
  · rw [atKey_of_not_has hk] at hv
    unfold gR at hv
    cases hv; rfl
theorem GS.put {M W H : Nat} {Z : Nat → Int} {w : World} (h : GS M W H Z w) (hS : W * H ≤ 1024) {t : Nat} (ht : t < W * H) :
    ∃ w', (Instr.mapUpdate 50 (.map (some M)) (.int .i64 t) (gnd W Z t)).run Try.prog w = .ok () w' ∧ GS M W H Z w' ∧ Kp M w w' := by
  obtain ⟨n, D, h, hP⟩ := h
  have h' := GS.small h hP
  obtain ⟨w', hrun, ho, hg⟩ := h'.update keyedI Try.underlying50 (by unfold maxLen; omega) (val := gnd W Z t) (d := .held (gnd W Z t)) (ps := []) (key_int (t := t) (by omega)) rfl
  refine ⟨w', hrun, ⟨_, _, ho, fun l hl => ?_⟩, Kp.of_grown hg⟩
  by_cases e : l = .int .i64 t
  · subst e
    exact ⟨t, ht, rfl, fun z => atKey_put_same h'.isMap (keyedI.key (key_int (t := t) (by omega))) _ _⟩
  · rw [has_put_other e] at hl
    obtain ⟨u, h1, h2, h3⟩ := hP l hl
    exact ⟨u, h1, h2, fun z => by rw [atKey_put_other e]; exact h3 z⟩

/-- A land and waters on it, as they lie in memory. -/
structure Wat where
  (W H n cap m kcap q bcap ab aoff kb koff : Nat)
  (Z K Y : Nat → Int)
  bo : Option Addr
abbrev Wat.as (d : Wat) : Value := .slice (some ⟨d.ab, d.aoff, none⟩) d.n d.cap
abbrev Wat.ks (d : Wat) : Value := .slice (some ⟨d.kb, d.koff, none⟩) d.m d.kcap
abbrev Wat.bs (d : Wat) : Value := .slice d.bo d.q d.bcap
abbrev Wat.lnd (d : Wat) : Value := lv d.W d.H d.as
abbrev Wat.wts (d : Wat) : Value := .agg #[d.ks, d.bs]
abbrev Wat.cht (d : Wat) (M : Nat) : Value := .agg #[.int .i64 d.W, .int .i64 d.H, d.as, d.ks, d.bs, .map (some M)]
/-- What calls find in memory. -/
structure Cx (d : Wat) (M : Nat) (w : World) : Prop where
  land : Ints w (some ⟨d.ab, d.aoff, none⟩) d.n d.Z
  kinds : Ints w (some ⟨d.kb, d.koff, none⟩) d.m d.K
  buoys : Ints w d.bo d.q d.Y
  na : 0 < d.n → d.ab < M
  nk : 0 < d.m → d.kb < M
  nb : 0 < d.q → ∀ b off, d.bo = some ⟨b, off, none⟩ → b < M
  gs : GS M d.W d.H d.Z w
/-- What a call leaves. -/
structure Nx (d : Wat) (M : Nat) (w w' : World) : Prop where
  kp : Kp M w w'
  gs : GS M d.W d.H d.Z w'
section
variable {d : Wat} {M : Nat} {w wr w' : World}
theorem Cx.nx (h : Cx d M w) (k : Nx d M w w') : Cx d M w' :=
  ⟨h.land.keep (fun hn b off e => by cases e; exact h.na hn) k.kp, h.kinds.keep (fun hn b off e => by cases e; exact h.nk hn) k.kp, h.buoys.keep h.nb k.kp, h.na, h.nk, h.nb, k.gs⟩
theorem Cx.set (h : Cx d M w) {p : Addr} (hp : M < p.block) (u : Value) : Cx d M (w.setCell p u) :=
  ⟨h.land.set (fun hn b off e => by cases e; exact h.na hn) hp u, h.kinds.set (fun hn b off e => by cases e; exact h.nk hn) hp u, h.buoys.set h.nb hp u, h.na, h.nk, h.nb, h.gs.setCell (Nat.ne_of_lt hp) u⟩
theorem Nx.trans (h : Nx d M w wr) (k : Nx d M wr w') : Nx d M w w' := ⟨h.kp.trans k.kp, k.gs⟩
theorem Nx.set (h : Nx d M w wr) {p : Addr} (hp : w.heap.size ≤ p.block) (hM : M < p.block) (u : Value) : Nx d M w (wr.setCell p u) := ⟨h.kp.setCell hp u, h.gs.setCell (Nat.ne_of_lt hM) u⟩
theorem Cx.go (h : Cx d M w) (k : Below w.heap.size w w') : Nx d M w w' := ⟨Kp.of_below k, h.gs.stays k⟩
theorem Cx.refl (h : Cx d M w) : Nx d M w w := ⟨Kp.refl _ _, h.gs⟩
theorem Cx.lt (h : Cx d M w) : M < w.heap.size := h.gs.lt
theorem Nx.go (h : Nx d M w wr) (k : Below wr.heap.size wr w') : Nx d M w w' := ⟨h.kp.trans (Kp.of_below k), h.gs.stays k⟩
/-- The box of a chart, behind whatever calls. -/
structure CB (d : Wat) (M : Nat) (w wr : World) : Prop where
  nx : Nx d M w wr
  cx : Cx d M wr
  size : w.heap.size < wr.heap.size
  lt : M < w.heap.size
  c0 : wr.cell? ⟨w.heap.size, 0, none⟩ = some (.int .i64 d.W)
  c1 : wr.cell? ⟨w.heap.size, 1, none⟩ = some (.int .i64 d.H)
  c2 : wr.cell? ⟨w.heap.size, 2, none⟩ = some d.as
  c3 : wr.cell? ⟨w.heap.size, 3, none⟩ = some d.ks
  c4 : wr.cell? ⟨w.heap.size, 4, none⟩ = some d.bs
  c5 : wr.cell? ⟨w.heap.size, 5, none⟩ = some (.map (some M))
theorem CB.start (h : Cx d M w) : CB d M w (w.alloc (.cells #[.int .i64 d.W, .int .i64 d.H, d.as, d.ks, d.bs, .map (some M)] 52)) :=
  have k := h.go (Joins.below_alloc1 w _)
  ⟨k, h.nx k, by simp, h.lt, by simp, by simp, by simp, by simp, by simp, by simp⟩
theorem CB.on (h : CB d M w wr) (k : Nx d M wr w') : CB d M w w' :=
  have e : ∀ i, w'.cell? ⟨w.heap.size, i, none⟩ = wr.cell? ⟨w.heap.size, i, none⟩ := fun i => k.kp.cell (p := ⟨w.heap.size, i, none⟩) h.size (Nat.ne_of_gt h.lt)
  ⟨h.nx.trans k, h.cx.nx k, Nat.lt_of_lt_of_le h.size k.kp.size, h.lt, (e 0).trans h.c0, (e 1).trans h.c1, (e 2).trans h.c2, (e 3).trans h.c3, (e 4).trans h.c4, (e 5).trans h.c5⟩
theorem CB.below (h : CB d M w wr) (k : Below wr.heap.size wr w') : CB d M w w' := h.on (h.cx.go k)
theorem CB.put (h : CB d M w wr) {p : Addr} (hp : w.heap.size < p.block) (u : Value) : CB d M w (wr.setCell p u) :=
  have e : ∀ a : Addr, a.block ≠ p.block → (wr.setCell p u).cell? a = wr.cell? a := fun a ha => World.cell?_of_block (w := wr) (Below.heap_setCell _ _ _ _ ha)
  have hM : M < p.block := Nat.lt_trans h.lt hp
  have c : ∀ i, (wr.setCell p u).cell? ⟨w.heap.size, i, none⟩ = wr.cell? ⟨w.heap.size, i, none⟩ := fun i => e _ (Nat.ne_of_lt hp)
  ⟨h.nx.set (Nat.le_of_lt hp) hM u, h.cx.set hM u, by simpa [World.setCell] using h.size, h.lt, (c 0).trans h.c0, (c 1).trans h.c1, (c 2).trans h.c2, (c 3).trans h.c3, (c 4).trans h.c4, (c 5).trans h.c5⟩
/-- A block behind a call. -/
theorem Nx.at (k : Nx d M wr w') (hM : M < w.heap.size) {b : Nat} (hb : w.heap.size ≤ b) {o : Obj} (h : wr.heap[b]? = some o) : w'.heap[b]? = some o := (k.kp.block b (heap_lt h) (by omega)).trans h
end
end Go.Proofs.Ytkpnngpnjimogaa
