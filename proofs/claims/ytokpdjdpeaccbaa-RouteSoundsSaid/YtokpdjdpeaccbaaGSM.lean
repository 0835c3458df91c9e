/-
  The memory of a search, and what holds of it.
-/
import Derived.Test.YtokpdjdpeaccbaaGPop
namespace Go.Proofs.Ytokpdjdpeaccbaa
open Go.RowKit

/-- Where a search's memory lies: the boxes of the queue, of the best ways, of what is known; the rows of the best ways, of what is known, of what is done. -/
structure Ad where
  o : Nat
  b : Nat
  k : Nat
  rb : Nat
  rk : Nat
  rd : Nat
/-- Rows of bools. -/
abbrev RowB (w : World) (B g n : Nat) (F : Nat → Bool) : Prop := w.ownsRow B 4 1 (.slice (some ⟨g, 0, none⟩) n n) n (vals n fun i => .bool (F i))
theorem RowB.cell {w : World} {B g n : Nat} {F : Nat → Bool} (h : RowB w B g n F) {i : Nat} (hi : i < n) : w.cell? ⟨g, i, none⟩ = some (.bool (F i)) ∧ w.frozen? ⟨g, i, none⟩ = false :=
  ⟨(h.cellAt i (by omega)).trans (vals_get (fun i => .bool (F i)) hi), h.frozenAt i⟩
theorem RowB.put {w : World} {B g n : Nat} {F : Nat → Bool} (h : RowB w B g n F) (j : Nat) (x : Bool) : RowB (w.setCell ⟨g, j, none⟩ (.bool x)) B g n (updG F j x) := by
  have := (h.stored j (.bool x)).1
  rw [vals_set] at this
  show (w.setCell ⟨g, j, none⟩ (.bool x)).ownsRow B 4 1 _ n (vals n fun i => .bool (updG F j x i))
  rw [show (vals n fun i => Value.bool (updG F j x i)) = vals n (fun i => if i = j then Value.bool x else .bool (F i)) from vals_congr fun i _ => by unfold updG; split <;> rfl]
  exact this
/-- Some blocks of the search may have turned, and its queue, and nothing else. -/
structure STurn (T : Nat → Prop) (v v' : Value) (w w' : World) : Prop where
  os : w'.os = w.os
  tape : w'.tape = w.tape
  output : w'.output = w.output
  size : w.heap.size ≤ w'.heap.size
  block : ∀ k, k < w.heap.size → ¬ T k → v.ownBlock ≠ some k → w'.heap[k]? = w.heap[k]?
  own : ∀ k, k < w.heap.size → v'.ownBlock = some k → v.ownBlock = some k
theorem STurn.refl (T : Nat → Prop) (v : Value) (w : World) : STurn T v v w w := ⟨rfl, rfl, rfl, Nat.le_refl _, fun _ _ _ _ => rfl, fun _ _ h => h⟩
theorem STurn.trans {T : Nat → Prop} {v v' v'' : Value} {a b c : World} (h : STurn T v v' a b) (k : STurn T v' v'' b c) : STurn T v v'' a c :=
  ⟨k.os.trans h.os, k.tape.trans h.tape, k.output.trans h.output, Nat.le_trans h.size k.size, fun i hi hne hv => (k.block i (Nat.lt_of_lt_of_le hi h.size) hne (fun e => hv (h.own i hi e))).trans (h.block i hi hne hv), fun i hi hv => h.own i hi (k.own i (Nat.lt_of_lt_of_le hi h.size) hv)⟩
theorem STurn.of_below {T : Nat → Prop} (v : Value) {w w' : World} (h : Below w.heap.size w w') : STurn T v v w w' := ⟨h.os, h.tape, h.output, h.size, fun k hk _ _ => h.block k hk, fun _ _ h => h⟩
theorem QTurn.s {T : Nat → Prop} {o : Nat} {v v' : Value} {w w' : World} (h : QTurn o v v' w w') (ho : T o) : STurn T v v' w w' :=
  ⟨h.os, h.tape, h.output, h.size, fun k hk hn hv => h.block k hk (fun e => hn (e ▸ ho)) hv, h.own⟩
/-- What a search may turn. -/
def Ad.T (A : Ad) (k : Nat) : Prop := k = A.o ∨ k = A.rb ∨ k = A.rk ∨ k = A.rd
/-- The memory of a search. -/
structure SM (B : Nat) (A : Ad) (n : Nat) (best : Nat → Wy) (known done : Nat → Bool) (v : Value) (q : Nat) (L : Nat → Wy) (w : World) : Prop where
  qm : QM A.o B v q L w
  cb : w.heap[A.b]? = some (.cells #[.slice (some ⟨A.rb, 0, none⟩) n n] 61 (0, 0))
  ck : w.heap[A.k]? = some (.cells #[.slice (some ⟨A.rk, 0, none⟩) n n] 39 (0, 0))
  rb : RowW w B (.slice (some ⟨A.rb, 0, none⟩) n n) n best
  rk : RowB w B A.rk n known
  rd : RowB w B A.rd n done
  ne : v.ownBlock ≠ some A.rb
  nd : A.rk ≠ A.rd
theorem row_type {w : World} {B : Nat} {e : TypeId} {size : Nat} {g n c : Nat} {xs : List Value} (h : w.ownsRow B e size (.slice (some ⟨g, 0, none⟩) n c) n xs) : ∃ cur, w.heap[g]? = some (.cells cur e (0, 0)) := by
  rcases h.2 with ⟨h, _⟩ | ⟨g', c', cur, e', _, hg, _⟩
  · cases h
  · cases e'; exact ⟨cur, hg⟩
theorem type_ne {w : World} {g k : Nat} {e t : TypeId} {c d : Array Value} (h : w.heap[g]? = some (.cells c e (0, 0))) (h' : w.heap[k]? = some (.cells d t (0, 0))) (hne : e ≠ t) : g ≠ k := fun e' => by
  subst e'
  rw [h] at h'
  injection h' with h'
  injection h' with _ h' _
  exact hne h'
section
variable {B : Nat} {A : Ad} {n : Nat} {best : Nat → Wy} {known done : Nat → Bool} {v : Value} {q : Nat} {L : Nat → Wy} {w w' : World}
theorem SM.stays (h : SM B A n best known done v q L w) (k : Below w.heap.size w w') : SM B A n best known done v q L w' :=
  ⟨h.qm.stays k, (k.block _ (heap_lt h.cb)).trans h.cb, (k.block _ (heap_lt h.ck)).trans h.ck, row_stays h.rb k, row_stays h.rk k, row_stays h.rd k, h.ne, h.nd⟩
/-- The blocks are apart. -/
structure Apart (A : Ad) : Prop where
  ob : A.o ≠ A.b
  ok : A.o ≠ A.k
  orb : A.o ≠ A.rb
  ork : A.o ≠ A.rk
  ord : A.o ≠ A.rd
  brb : A.b ≠ A.rb
  brk : A.b ≠ A.rk
  brd : A.b ≠ A.rd
  krb : A.k ≠ A.rb
  krk : A.k ≠ A.rk
  krd : A.k ≠ A.rd
  rbk : A.rb ≠ A.rk
  rbd : A.rb ≠ A.rd
theorem SM.apart (h : SM B A n best known done v q L w) : Apart A := by
  obtain ⟨c1, h1⟩ := row_type h.rb
  obtain ⟨c2, h2⟩ := row_type h.rk
  obtain ⟨c3, h3⟩ := row_type h.rd
  exact ⟨type_ne h.qm.box h.cb (by decide), type_ne h.qm.box h.ck (by decide), type_ne h.qm.box h1 (by decide), type_ne h.qm.box h2 (by decide), type_ne h.qm.box h3 (by decide), type_ne h.cb h1 (by decide), type_ne h.cb h2 (by decide), type_ne h.cb h3 (by decide), type_ne h.ck h1 (by decide), type_ne h.ck h2 (by decide), type_ne h.ck h3 (by decide), type_ne h1 h2 (by decide), type_ne h1 h3 (by decide)⟩
theorem SM.lts (h : SM B A n best known done v q L w) : A.o < w.heap.size ∧ A.b < w.heap.size ∧ A.k < w.heap.size ∧ A.rb < w.heap.size ∧ A.rk < w.heap.size ∧ A.rd < w.heap.size :=
  ⟨heap_lt h.qm.box, heap_lt h.cb, heap_lt h.ck, (h.rb.lt _ rfl).2, (h.rk.lt _ rfl).2, (h.rd.lt _ rfl).2⟩
/-- No box is the queue's row. -/
theorem SM.own_ne (h : SM B A n best known done v q L w) {t : TypeId} {cs : Array Value} {k : Nat} (hk : w.heap[k]? = some (.cells cs t (0, 0))) (ht : 68 ≠ t) : v.ownBlock ≠ some k := by
  rcases h.qm.row.2 with ⟨rfl, _⟩ | ⟨g, cap, cur, rfl, _, hg, _⟩
  · simp [Value.ownBlock]
  · intro e
    simp [Value.ownBlock] at e
    exact type_ne hg hk ht e
/-- A row of the search's lies as it lay. -/
theorem row_same {B' : Nat} {e : TypeId} {size g n c : Nat} {xs : List Value} (h : w.ownsRow B' e size (.slice (some ⟨g, 0, none⟩) n c) n xs) (hb : w'.heap[g]? = w.heap[g]?) : w'.ownsRow B' e size (.slice (some ⟨g, 0, none⟩) n c) n xs := by
  refine ⟨h.1, ?_⟩
  rcases h.2 with ⟨h, _⟩ | ⟨g', c', cur, e', hB, hg, rest⟩
  · cases h
  · cases e'
    exact .inr ⟨g, c, cur, rfl, hB, hb.trans hg, rest⟩
/-- Behind a turn of the queue alone. -/
theorem SM.turn {v' : Value} {q' : Nat} {L' : Nat → Wy} (h : SM B A n best known done v q L w) (t : QTurn A.o v v' w w') (hq : QM A.o B v' q' L' w') : SM B A n best known done v' q' L' w' := by
  have ha := h.apart
  obtain ⟨l1, l2, l3, l4, l5, l6⟩ := h.lts
  obtain ⟨c2, h2⟩ := row_type h.rk
  obtain ⟨c3, h3⟩ := row_type h.rd
  exact ⟨hq, (t.block _ l2 (Ne.symm ha.ob) (h.own_ne h.cb (by decide))).trans h.cb, (t.block _ l3 (Ne.symm ha.ok) (h.own_ne h.ck (by decide))).trans h.ck, row_same h.rb (t.block _ l4 (Ne.symm ha.orb) h.ne), row_same h.rk (t.block _ l5 (Ne.symm ha.ork) (h.own_ne h2 (by decide))), row_same h.rd (t.block _ l6 (Ne.symm ha.ord) (h.own_ne h3 (by decide))), fun e => h.ne (t.own _ l4 e), h.nd⟩
/-- The best way to a node is written. -/
theorem SM.note1 (h : SM B A n best known done v q L w) (j : Nat) (x : Wy) :
    SM B A n (updG best j x) known done v q L ((((w.setCell ⟨A.rb, j * 4, none⟩ (.int .i64 x.nd)).setCell ⟨A.rb, j * 4 + 1, none⟩ (.int .i64 x.co)).setCell ⟨A.rb, j * 4 + 2, none⟩ (.int .i64 x.ns)).setCell ⟨A.rb, j * 4 + 3, none⟩ (.int .i64 x.nx)) ∧
    STurn A.T v v w ((((w.setCell ⟨A.rb, j * 4, none⟩ (.int .i64 x.nd)).setCell ⟨A.rb, j * 4 + 1, none⟩ (.int .i64 x.co)).setCell ⟨A.rb, j * 4 + 2, none⟩ (.int .i64 x.ns)).setCell ⟨A.rb, j * 4 + 3, none⟩ (.int .i64 x.nx)) := by
  have ha := h.apart
  have hrow := row_other (a := ⟨A.rb, j * 4 + 3, none⟩) (row_other (a := ⟨A.rb, j * 4 + 2, none⟩) (row_other (a := ⟨A.rb, j * 4 + 1, none⟩) (row_other (a := ⟨A.rb, j * 4, none⟩) h.qm.row h.ne (.int .i64 x.nd)) h.ne (.int .i64 x.co)) h.ne (.int .i64 x.ns)) h.ne (.int .i64 x.nx)
  have hput := h.rb.put j x
  have hoth : ∀ k, k ≠ A.rb → ((((w.setCell ⟨A.rb, j * 4, none⟩ (.int .i64 x.nd)).setCell ⟨A.rb, j * 4 + 1, none⟩ (.int .i64 x.co)).setCell ⟨A.rb, j * 4 + 2, none⟩ (.int .i64 x.ns)).setCell ⟨A.rb, j * 4 + 3, none⟩ (.int .i64 x.nx)).heap[k]? = w.heap[k]? := fun k h1 => put_other _ _ _ _ _ _ _ _ h1
  have hsz : ((((w.setCell ⟨A.rb, j * 4, none⟩ (.int .i64 x.nd)).setCell ⟨A.rb, j * 4 + 1, none⟩ (.int .i64 x.co)).setCell ⟨A.rb, j * 4 + 2, none⟩ (.int .i64 x.ns)).setCell ⟨A.rb, j * 4 + 3, none⟩ (.int .i64 x.nx)).heap.size = w.heap.size := by simp [World.setCell]
  have hos : ((((w.setCell ⟨A.rb, j * 4, none⟩ (.int .i64 x.nd)).setCell ⟨A.rb, j * 4 + 1, none⟩ (.int .i64 x.co)).setCell ⟨A.rb, j * 4 + 2, none⟩ (.int .i64 x.ns)).setCell ⟨A.rb, j * 4 + 3, none⟩ (.int .i64 x.nx)).os = w.os ∧ ((((w.setCell ⟨A.rb, j * 4, none⟩ (.int .i64 x.nd)).setCell ⟨A.rb, j * 4 + 1, none⟩ (.int .i64 x.co)).setCell ⟨A.rb, j * 4 + 2, none⟩ (.int .i64 x.ns)).setCell ⟨A.rb, j * 4 + 3, none⟩ (.int .i64 x.nx)).tape = w.tape ∧ ((((w.setCell ⟨A.rb, j * 4, none⟩ (.int .i64 x.nd)).setCell ⟨A.rb, j * 4 + 1, none⟩ (.int .i64 x.co)).setCell ⟨A.rb, j * 4 + 2, none⟩ (.int .i64 x.ns)).setCell ⟨A.rb, j * 4 + 3, none⟩ (.int .i64 x.nx)).output = w.output := ⟨rfl, rfl, rfl⟩
  generalize ((((w.setCell ⟨A.rb, j * 4, none⟩ (.int .i64 x.nd)).setCell ⟨A.rb, j * 4 + 1, none⟩ (.int .i64 x.co)).setCell ⟨A.rb, j * 4 + 2, none⟩ (.int .i64 x.ns)).setCell ⟨A.rb, j * 4 + 3, none⟩ (.int .i64 x.nx)) = w1 at *
  exact ⟨⟨⟨(hoth _ ha.orb).trans h.qm.box, hrow⟩, (hoth _ ha.brb).trans h.cb, (hoth _ ha.krb).trans h.ck, hput, row_same h.rk (hoth _ (Ne.symm ha.rbk)), row_same h.rd (hoth _ (Ne.symm ha.rbd)), h.ne, h.nd⟩,
    ⟨hos.1, hos.2.1, hos.2.2, by omega, fun k _ hn _ => hoth k (fun e => hn (.inr (.inl e))), fun _ _ h => h⟩⟩
/-- That a node is known is written. -/
theorem SM.note2 (h : SM B A n best known done v q L w) (j : Nat) :
    SM B A n best (updG known j true) done v q L (w.setCell ⟨A.rk, j, none⟩ (.bool true)) ∧ STurn A.T v v w (w.setCell ⟨A.rk, j, none⟩ (.bool true)) := by
  have ha := h.apart
  obtain ⟨c3, h3⟩ := row_type h.rk
  have hoth : ∀ k, k ≠ A.rk → (w.setCell ⟨A.rk, j, none⟩ (.bool true)).heap[k]? = w.heap[k]? := fun k h1 => Below.heap_setCell _ _ _ k h1
  exact ⟨⟨⟨(hoth _ ha.ork).trans h.qm.box, row_other h.qm.row (h.own_ne h3 (by decide)) _⟩, (hoth _ ha.brk).trans h.cb, (hoth _ ha.krk).trans h.ck, row_same h.rb (hoth _ ha.rbk), RowB.put h.rk j true, row_same h.rd (hoth _ (Ne.symm h.nd)), h.ne, h.nd⟩,
    ⟨rfl, rfl, rfl, by simp [World.setCell], fun k hk hn _ => hoth k (fun e => hn (.inr (.inr (.inl e)))), fun _ _ h => h⟩⟩
/-- What a search has done. -/
theorem SM.mark (h : SM B A n best known done v q L w) (j : Nat) :
    SM B A n best known (updG done j true) v q L (w.setCell ⟨A.rd, j, none⟩ (.bool true)) ∧ STurn A.T v v w (w.setCell ⟨A.rd, j, none⟩ (.bool true)) := by
  have ha := h.apart
  obtain ⟨c3, h3⟩ := row_type h.rd
  have hoth : ∀ k, k ≠ A.rd → (w.setCell ⟨A.rd, j, none⟩ (.bool true)).heap[k]? = w.heap[k]? := fun k h1 => Below.heap_setCell _ _ _ k h1
  exact ⟨⟨⟨(hoth _ ha.ord).trans h.qm.box, row_other h.qm.row (h.own_ne h3 (by decide)) _⟩, (hoth _ ha.brd).trans h.cb, (hoth _ ha.krd).trans h.ck, row_same h.rb (hoth _ ha.rbd), row_same h.rk (hoth _ h.nd), RowB.put h.rd j true, h.ne, h.nd⟩,
    ⟨rfl, rfl, rfl, by simp [World.setCell], fun k hk hn _ => hoth k (fun e => hn (.inr (.inr (.inr e)))), fun _ _ h => h⟩⟩
end

/-- What holds between the ways that are known, C, and the memory. -/
structure SI (n : Nat) (C : Wy → Prop) (best : Nat → Wy) (known done : Nat → Bool) (q : Nat) (L : Nat → Wy) : Prop where
  inn : ∀ c, C c → c.nd < n
  kn : ∀ u, u < n → (known u = true ↔ ∃ c, C c ∧ c.nd = u)
  bs : ∀ u, u < n → known u = true → C (best u) ∧ (best u).nd = u ∧ ∀ c, C c → c.nd = u → ¬ lt3 c.rk (best u).rk
  op : ∀ x, In q L x → C x
  fr : ∀ u, u < n → known u = true → done u = false → In q L (best u)
  hp : Heap Wy.rk q L
theorem SI.better {n : Nat} {C : Wy → Prop} {best : Nat → Wy} {known done : Nat → Bool} {q : Nat} {L : Nat → Wy} (h : SI n C best known done q L) (x : Wy) (hx : x.nd < n) (hb : known x.nd = true → lt3 x.rk (best x.nd).rk)
    {q' : Nat} {L' : Nat → Wy} (hI : ∀ y, In q' L' y ↔ (y = x ∨ In q L y)) (hh : Heap Wy.rk q' L') : SI n (fun c => C c ∨ c = x) (updG best x.nd x) (updG known x.nd true) done q' L' where
  inn c hc := hc.elim (h.inn c) (fun e => by rw [e]; exact hx)
  kn u hu := by
    by_cases e : u = x.nd
    · subst e; simp only [updG, if_true, true_iff]; exact ⟨x, .inr rfl, rfl⟩
    · simp only [updG, if_neg e]
      rw [h.kn u hu]
      constructor
      · rintro ⟨c, hc, he⟩; exact ⟨c, .inl hc, he⟩
      · rintro ⟨c, hc | rfl, he⟩
        · exact ⟨c, hc, he⟩
        · exact absurd he.symm e
  bs u hu hk := by
    by_cases e : u = x.nd
    · subst e
      simp only [updG, if_true]
      refine ⟨.inr trivial, trivial, fun c hc he => ?_⟩
      rcases hc with hc | rfl
      · have hk' : known x.nd = true := (h.kn _ hx).2 ⟨c, hc, he⟩
        have h1 := (h.bs _ hx hk').2.2 c hc he
        have h2 := hb hk'
        unfold lt3 at *; omega
      · exact lt3_irrefl _
    · simp only [updG, if_neg e] at hk ⊢
      obtain ⟨h1, h2, h3⟩ := h.bs u hu hk
      refine ⟨.inl h1, h2, fun c hc he => ?_⟩
      rcases hc with hc | rfl
      · exact h3 c hc he
      · exact absurd he.symm e
  op y hy := ((hI y).1 hy).elim .inr (fun hy => .inl (h.op y hy))
  fr u hu hk hd := by
    by_cases e : u = x.nd
    · subst e; simp only [updG, if_true]; exact (hI x).2 (.inl rfl)
    · simp only [updG, if_neg e] at hk ⊢; exact (hI _).2 (.inr (h.fr u hu hk hd))
  hp := hh
theorem SI.worse {n : Nat} {C : Wy → Prop} {best : Nat → Wy} {known done : Nat → Bool} {q : Nat} {L : Nat → Wy} (h : SI n C best known done q L) (x : Wy) (hx : x.nd < n) (hk : known x.nd = true) (hb : ¬ lt3 x.rk (best x.nd).rk) :
    SI n (fun c => C c ∨ c = x) best known done q L where
  inn c hc := hc.elim (h.inn c) (fun e => by rw [e]; exact hx)
  kn u hu := by
    rw [h.kn u hu]
    constructor
    · rintro ⟨c, hc, he⟩; exact ⟨c, .inl hc, he⟩
    · rintro ⟨c, hc | rfl, he⟩
      · exact ⟨c, hc, he⟩
      · subst he; exact (h.kn _ hx).1 hk
  bs u hu hk' := by
    obtain ⟨h1, h2, h3⟩ := h.bs u hu hk'
    refine ⟨.inl h1, h2, fun c hc he => ?_⟩
    rcases hc with hc | rfl
    · exact h3 c hc he
    · subst he; exact hb
  op y hy := .inl (h.op y hy)
  fr := h.fr
  hp := h.hp
theorem SI.congr {n : Nat} {C C' : Wy → Prop} {best : Nat → Wy} {known done : Nat → Bool} {q : Nat} {L : Nat → Wy} (h : SI n C best known done q L) (e : ∀ c, C' c ↔ C c) : SI n C' best known done q L := by
  have : C' = C := funext fun c => propext (e c)
  rw [this]; exact h
end Go.Proofs.Ytokpdjdpeaccbaa
