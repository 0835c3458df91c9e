/-
  A plant that is changed in place: its box, its lists, the other boxes.
-/
import Derived.Test.YtnhkblkijiipeaaFUni
namespace Go.Proofs.Ytnhkblkijiipeaa
open Go.RowKit

/-- An object that is no list of numbers. -/
def NI : Obj → Prop
  | .cells _ t _ => t ≠ 3
  | _ => False
abbrev boxOf (p : Pl) : Obj := .cells #[.int .i64 p.k, .int .i64 p.t, .int .i64 p.l, .slice p.st.a p.st.n p.st.c, .slice p.re.a p.re.n p.re.c, .slice p.ma.a p.ma.n p.ma.c, .slice p.mo.a p.mo.n p.mo.c, .int .i64 p.g, .int .i64 p.i, .bool p.o] 25 (0, 0)
abbrev zeroBox : Obj := .cells #[.int .i64 0, .int .i64 0, .int .i64 0, .slice none 0 0, .slice none 0 0, .slice none 0 0, .slice none 0 0, .int .i64 0, .int .i64 0, .bool false] 25 (0, 0)
abbrev kindBox (k : Kd) : Obj := .cells #[.string k.nm, .slice k.ta k.tn k.tc, .slice k.ma k.mn k.mc] 40 (0, 0)
abbrev makeBox (x y : Int) : Obj := .cells #[.int .i64 x, .int .i64 y] 42 (0, 0)
/-- A plant's box at X, its lists above Lo, other boxes E. -/
structure MP (p : Pl) (B Lo X : Nat) (E : List (Nat × Obj)) (w wr : World) : Prop where
  below : Below B w wr
  hB : B ≤ X
  hX : X < Lo
  le : Lo ≤ wr.heap.size
  bx : wr.heap[X]? = some (boxOf p)
  r4 : R4 wr Lo p
  ex : ∀ x ∈ E, wr.heap[x.1]? = some x.2 ∧ x.1 ≠ X ∧ B ≤ x.1 ∧ NI x.2
theorem MP.stays {p : Pl} {B Lo X : Nat} {E : List (Nat × Obj)} {w wr w' : World} (h : MP p B Lo X E w wr) (hb : Below wr.heap.size wr w') : MP p B Lo X E w w' :=
  ⟨h.below.trans (hb.mono (by have := h.hB; have := h.hX; have := h.le; omega)), h.hB, h.hX, Nat.le_trans h.le hb.size, (hb.block _ (heap_lt h.bx)).trans h.bx, h.r4.stays hb, fun x hx => ⟨(hb.block _ (heap_lt (h.ex x hx).1)).trans (h.ex x hx).1, (h.ex x hx).2⟩⟩
theorem MP.cons {p : Pl} {B Lo X : Nat} {E : List (Nat × Obj)} {w wr : World} (h : MP p B Lo X E w wr) (o : Obj) (ho : NI o) : MP p B Lo X ((wr.heap.size, o) :: E) w (wr.alloc o) := by
  have h' := h.stays ((Below.refl _ wr).alloc (Nat.le_refl _) o)
  refine ⟨h'.below, h'.hB, h'.hX, h'.le, h'.bx, h'.r4, fun x hx => ?_⟩
  rcases List.mem_cons.1 hx with rfl | hx
  · exact ⟨heap_new _ _, by have := h.hX; have := h.le; show wr.heap.size ≠ X; omega, by have := h.hB; have := h.hX; have := h.le; show B ≤ wr.heap.size; omega, ho⟩
  · exact h'.ex x hx
theorem MP.sub {p : Pl} {B Lo X : Nat} {E E' : List (Nat × Obj)} {w wr : World} (h : MP p B Lo X E w wr) (hs : ∀ x ∈ E', x ∈ E) : MP p B Lo X E' w wr :=
  ⟨h.below, h.hB, h.hX, h.le, h.bx, h.r4, fun x hx => h.ex x (hs x hx)⟩
theorem own_kind {w : World} {B : Nat} {e : TypeId} {size n : Nat} {v : Value} {xs : List Value} (h : w.ownsRow B e size v n xs) {g : Nat} (hg : v.ownBlock = some g) : ∃ cs, w.heap[g]? = some (.cells cs e (0, 0)) := by
  rcases h.2 with ⟨rfl, _⟩ | ⟨g', cap, cur, rfl, _, hh, _⟩
  · cases hg
  · have : g' = g := by simpa [Value.ownBlock] using hg
    subst this; exact ⟨cur, hh⟩
theorem ni_ne {w : World} {g x : Nat} {o : Obj} {cs : Array Value} (hg : w.heap[g]? = some (.cells cs 3 (0, 0))) (hx : w.heap[x]? = some o) (ho : NI o) : x ≠ g := fun e => by
  subst e; rw [hg] at hx
  injection hx with e1
  subst e1
  exact ho rfl
theorem MP.c0 {p : Pl} {B Lo X : Nat} {E : List (Nat × Obj)} {w wr : World} (h : MP p B Lo X E w wr) : wr.cell? ⟨X, 0, none⟩ = some (.int .i64 p.k) := cell_of_row _ _ 0 _ _ _ h.bx
theorem MP.c1 {p : Pl} {B Lo X : Nat} {E : List (Nat × Obj)} {w wr : World} (h : MP p B Lo X E w wr) : wr.cell? ⟨X, 1, none⟩ = some (.int .i64 p.t) := cell_of_row _ _ 1 _ _ _ h.bx
theorem MP.c2 {p : Pl} {B Lo X : Nat} {E : List (Nat × Obj)} {w wr : World} (h : MP p B Lo X E w wr) : wr.cell? ⟨X, 2, none⟩ = some (.int .i64 p.l) := cell_of_row _ _ 2 _ _ _ h.bx
theorem MP.c3 {p : Pl} {B Lo X : Nat} {E : List (Nat × Obj)} {w wr : World} (h : MP p B Lo X E w wr) : wr.cell? ⟨X, 3, none⟩ = some (.slice p.st.a p.st.n p.st.c) := cell_of_row _ _ 3 _ _ _ h.bx
theorem MP.c4 {p : Pl} {B Lo X : Nat} {E : List (Nat × Obj)} {w wr : World} (h : MP p B Lo X E w wr) : wr.cell? ⟨X, 4, none⟩ = some (.slice p.re.a p.re.n p.re.c) := cell_of_row _ _ 4 _ _ _ h.bx
theorem MP.c5 {p : Pl} {B Lo X : Nat} {E : List (Nat × Obj)} {w wr : World} (h : MP p B Lo X E w wr) : wr.cell? ⟨X, 5, none⟩ = some (.slice p.ma.a p.ma.n p.ma.c) := cell_of_row _ _ 5 _ _ _ h.bx
theorem MP.c6 {p : Pl} {B Lo X : Nat} {E : List (Nat × Obj)} {w wr : World} (h : MP p B Lo X E w wr) : wr.cell? ⟨X, 6, none⟩ = some (.slice p.mo.a p.mo.n p.mo.c) := cell_of_row _ _ 6 _ _ _ h.bx
theorem MP.c7 {p : Pl} {B Lo X : Nat} {E : List (Nat × Obj)} {w wr : World} (h : MP p B Lo X E w wr) : wr.cell? ⟨X, 7, none⟩ = some (.int .i64 p.g) := cell_of_row _ _ 7 _ _ _ h.bx
theorem MP.c8 {p : Pl} {B Lo X : Nat} {E : List (Nat × Obj)} {w wr : World} (h : MP p B Lo X E w wr) : wr.cell? ⟨X, 8, none⟩ = some (.int .i64 p.i) := cell_of_row _ _ 8 _ _ _ h.bx
theorem MP.c9 {p : Pl} {B Lo X : Nat} {E : List (Nat × Obj)} {w wr : World} (h : MP p B Lo X E w wr) : wr.cell? ⟨X, 9, none⟩ = some (.bool p.o) := cell_of_row _ _ 9 _ _ _ h.bx
theorem MP.fz {p : Pl} {B Lo X : Nat} {E : List (Nat × Obj)} {w wr : World} (h : MP p B Lo X E w wr) (j : Nat) : wr.frozen? ⟨X, j, none⟩ = false := frozen_of_row _ _ j _ _ h.bx
/-- A number is laid into the list 'st'. -/
theorem MP.put_st {p : Pl} {B Lo X : Nat} {E : List (Nat × Obj)} {w wr : World} {g n c : Nat} {Z : Nat → Int} (h : MP p B Lo X E w wr) (e : p.st = ⟨some ⟨g, 0, none⟩, n, c, Z⟩) (j : Nat) (x : Int) :
    MP ⟨p.k, p.t, p.l, ⟨some ⟨g, 0, none⟩, n, c, fun q => if q = j then x else Z q⟩, p.re, p.ma, p.mo, p.g, p.i, p.o⟩ B Lo X E w (wr.setCell ⟨g, j, none⟩ (.int .i64 x)) := by
  have hr : RowI wr Lo (.slice (some ⟨g, 0, none⟩) n c) n Z := by have := h.r4.st; rw [e] at this; exact this
  have hl := hr.lt g rfl
  obtain ⟨cs, hg⟩ := own_kind hr (g := g) rfl
  have ho : ∀ {v : Value} {m : Nat} {Y : Nat → Int}, RowI wr Lo v m Y → v.ownBlock ≠ some g → RowI (wr.setCell ⟨g, j, none⟩ (.int .i64 x)) Lo v m Y := fun h1 h2 => row_other (a := ⟨g, j, none⟩) h1 h2 _
  have hown : (lv p.st).ownBlock = some g := by rw [e]; rfl
  refine ⟨h.below.setCell (p := ⟨g, j, none⟩) (by have := h.hB; have := h.hX; show B ≤ g; omega) _, h.hB, h.hX, by rw [World.size_setCell]; exact h.le, ?_, ?_, fun y hy => ?_⟩
  · rw [Below.heap_setCell _ _ _ X (by have := h.hX; show X ≠ g; omega), h.bx]
    obtain ⟨pk, pt, pl, st, re, ma, mo, pg, pi, po⟩ := p
    dsimp only at e
    subst e
    rfl
  · exact ⟨hr.put j x, ho h.r4.re (h.r4.a1 g hown), ho h.r4.ma (h.r4.a2 g hown), ho h.r4.mo (h.r4.a3 g hown), fun g' h1 => h.r4.a1 g' (by rw [e]; exact h1), fun g' h1 => h.r4.a2 g' (by rw [e]; exact h1), fun g' h1 => h.r4.a3 g' (by rw [e]; exact h1), h.r4.a4, h.r4.a5, h.r4.a6⟩
  · obtain ⟨y1, y2, y3, y4⟩ := h.ex y hy
    exact ⟨(Below.heap_setCell _ _ _ y.1 (ni_ne hg y1 y4)).trans y1, y2, y3, y4⟩
/-- A number is laid into the list 're'. -/
theorem MP.put_re {p : Pl} {B Lo X : Nat} {E : List (Nat × Obj)} {w wr : World} {g n c : Nat} {Z : Nat → Int} (h : MP p B Lo X E w wr) (e : p.re = ⟨some ⟨g, 0, none⟩, n, c, Z⟩) (j : Nat) (x : Int) :
    MP ⟨p.k, p.t, p.l, p.st, ⟨some ⟨g, 0, none⟩, n, c, fun q => if q = j then x else Z q⟩, p.ma, p.mo, p.g, p.i, p.o⟩ B Lo X E w (wr.setCell ⟨g, j, none⟩ (.int .i64 x)) := by
  have hr : RowI wr Lo (.slice (some ⟨g, 0, none⟩) n c) n Z := by have := h.r4.re; rw [e] at this; exact this
  have hl := hr.lt g rfl
  obtain ⟨cs, hg⟩ := own_kind hr (g := g) rfl
  have ho : ∀ {v : Value} {m : Nat} {Y : Nat → Int}, RowI wr Lo v m Y → v.ownBlock ≠ some g → RowI (wr.setCell ⟨g, j, none⟩ (.int .i64 x)) Lo v m Y := fun h1 h2 => row_other (a := ⟨g, j, none⟩) h1 h2 _
  have hown : (lv p.re).ownBlock = some g := by rw [e]; rfl
  refine ⟨h.below.setCell (p := ⟨g, j, none⟩) (by have := h.hB; have := h.hX; show B ≤ g; omega) _, h.hB, h.hX, by rw [World.size_setCell]; exact h.le, ?_, ?_, fun y hy => ?_⟩
  · rw [Below.heap_setCell _ _ _ X (by have := h.hX; show X ≠ g; omega), h.bx]
    obtain ⟨pk, pt, pl, st, re, ma, mo, pg, pi, po⟩ := p
    dsimp only at e
    subst e
    rfl
  · exact ⟨ho h.r4.st (fun e2 => h.r4.a1 g e2 hown), hr.put j x, ho h.r4.ma (h.r4.a4 g hown), ho h.r4.mo (h.r4.a5 g hown), fun g' h1 h2 => h.r4.a1 g' h1 (by rw [e]; exact h2), h.r4.a2, h.r4.a3, fun g' h1 => h.r4.a4 g' (by rw [e]; exact h1), fun g' h1 => h.r4.a5 g' (by rw [e]; exact h1), h.r4.a6⟩
  · obtain ⟨y1, y2, y3, y4⟩ := h.ex y hy
    exact ⟨(Below.heap_setCell _ _ _ y.1 (ni_ne hg y1 y4)).trans y1, y2, y3, y4⟩
/-- A number is laid into the list 'ma'. -/
theorem MP.put_ma {p : Pl} {B Lo X : Nat} {E : List (Nat × Obj)} {w wr : World} {g n c : Nat} {Z : Nat → Int} (h : MP p B Lo X E w wr) (e : p.ma = ⟨some ⟨g, 0, none⟩, n, c, Z⟩) (j : Nat) (x : Int) :
    MP ⟨p.k, p.t, p.l, p.st, p.re, ⟨some ⟨g, 0, none⟩, n, c, fun q => if q = j then x else Z q⟩, p.mo, p.g, p.i, p.o⟩ B Lo X E w (wr.setCell ⟨g, j, none⟩ (.int .i64 x)) := by
  have hr : RowI wr Lo (.slice (some ⟨g, 0, none⟩) n c) n Z := by have := h.r4.ma; rw [e] at this; exact this
  have hl := hr.lt g rfl
  obtain ⟨cs, hg⟩ := own_kind hr (g := g) rfl
  have ho : ∀ {v : Value} {m : Nat} {Y : Nat → Int}, RowI wr Lo v m Y → v.ownBlock ≠ some g → RowI (wr.setCell ⟨g, j, none⟩ (.int .i64 x)) Lo v m Y := fun h1 h2 => row_other (a := ⟨g, j, none⟩) h1 h2 _
  have hown : (lv p.ma).ownBlock = some g := by rw [e]; rfl
  refine ⟨h.below.setCell (p := ⟨g, j, none⟩) (by have := h.hB; have := h.hX; show B ≤ g; omega) _, h.hB, h.hX, by rw [World.size_setCell]; exact h.le, ?_, ?_, fun y hy => ?_⟩
  · rw [Below.heap_setCell _ _ _ X (by have := h.hX; show X ≠ g; omega), h.bx]
    obtain ⟨pk, pt, pl, st, re, ma, mo, pg, pi, po⟩ := p
    dsimp only at e
    subst e
    rfl
  · exact ⟨ho h.r4.st (fun e2 => h.r4.a2 g e2 hown), ho h.r4.re (fun e2 => h.r4.a4 g e2 hown), hr.put j x, ho h.r4.mo (h.r4.a6 g hown), h.r4.a1, fun g' h1 h2 => h.r4.a2 g' h1 (by rw [e]; exact h2), h.r4.a3, fun g' h1 h2 => h.r4.a4 g' h1 (by rw [e]; exact h2), h.r4.a5, fun g' h1 => h.r4.a6 g' (by rw [e]; exact h1)⟩
  · obtain ⟨y1, y2, y3, y4⟩ := h.ex y hy
    exact ⟨(Below.heap_setCell _ _ _ y.1 (ni_ne hg y1 y4)).trans y1, y2, y3, y4⟩
/-- A number is laid into the list 'mo'. -/
theorem MP.put_mo {p : Pl} {B Lo X : Nat} {E : List (Nat × Obj)} {w wr : World} {g n c : Nat} {Z : Nat → Int} (h : MP p B Lo X E w wr) (e : p.mo = ⟨some ⟨g, 0, none⟩, n, c, Z⟩) (j : Nat) (x : Int) :
    MP ⟨p.k, p.t, p.l, p.st, p.re, p.ma, ⟨some ⟨g, 0, none⟩, n, c, fun q => if q = j then x else Z q⟩, p.g, p.i, p.o⟩ B Lo X E w (wr.setCell ⟨g, j, none⟩ (.int .i64 x)) := by
  have hr : RowI wr Lo (.slice (some ⟨g, 0, none⟩) n c) n Z := by have := h.r4.mo; rw [e] at this; exact this
  have hl := hr.lt g rfl
  obtain ⟨cs, hg⟩ := own_kind hr (g := g) rfl
  have ho : ∀ {v : Value} {m : Nat} {Y : Nat → Int}, RowI wr Lo v m Y → v.ownBlock ≠ some g → RowI (wr.setCell ⟨g, j, none⟩ (.int .i64 x)) Lo v m Y := fun h1 h2 => row_other (a := ⟨g, j, none⟩) h1 h2 _
  have hown : (lv p.mo).ownBlock = some g := by rw [e]; rfl
  refine ⟨h.below.setCell (p := ⟨g, j, none⟩) (by have := h.hB; have := h.hX; show B ≤ g; omega) _, h.hB, h.hX, by rw [World.size_setCell]; exact h.le, ?_, ?_, fun y hy => ?_⟩
  · rw [Below.heap_setCell _ _ _ X (by have := h.hX; show X ≠ g; omega), h.bx]
    obtain ⟨pk, pt, pl, st, re, ma, mo, pg, pi, po⟩ := p
    dsimp only at e
    subst e
    rfl
  · exact ⟨ho h.r4.st (fun e2 => h.r4.a3 g e2 hown), ho h.r4.re (fun e2 => h.r4.a5 g e2 hown), ho h.r4.ma (fun e2 => h.r4.a6 g e2 hown), hr.put j x, h.r4.a1, h.r4.a2, fun g' h1 h2 => h.r4.a3 g' h1 (by rw [e]; exact h2), h.r4.a4, fun g' h1 h2 => h.r4.a5 g' h1 (by rw [e]; exact h2), fun g' h1 h2 => h.r4.a6 g' h1 (by rw [e]; exact h2)⟩
  · obtain ⟨y1, y2, y3, y4⟩ := h.ex y hy
    exact ⟨(Below.heap_setCell _ _ _ y.1 (ni_ne hg y1 y4)).trans y1, y2, y3, y4⟩
theorem MP.set_l {p : Pl} {B Lo X : Nat} {E : List (Nat × Obj)} {w wr : World} (h : MP p B Lo X E w wr) (x : Int) : MP ⟨p.k, p.t, x, p.st, p.re, p.ma, p.mo, p.g, p.i, p.o⟩ B Lo X E w (wr.setCell ⟨X, 2, none⟩ (.int .i64 x)) := by
  have hX := h.hX
  have ho : ∀ {v : Value} {m : Nat} {Y : Nat → Int}, RowI wr Lo v m Y → RowI (wr.setCell ⟨X, 2, none⟩ (.int .i64 x)) Lo v m Y := fun h1 => row_other (a := ⟨X, 2, none⟩) h1 (own_ne h1 (a := ⟨X, 2, none⟩) hX) _
  exact ⟨h.below.setCell (p := ⟨X, 2, none⟩) h.hB _, h.hB, h.hX, by rw [World.size_setCell]; exact h.le, heap_setCell_same _ X 2 _ _ (.int .i64 x) h.bx, ⟨ho h.r4.st, ho h.r4.re, ho h.r4.ma, ho h.r4.mo, h.r4.a1, h.r4.a2, h.r4.a3, h.r4.a4, h.r4.a5, h.r4.a6⟩,
    fun y hy => ⟨(Below.heap_setCell _ _ _ y.1 (h.ex y hy).2.1).trans (h.ex y hy).1, (h.ex y hy).2⟩⟩
theorem MP.set_g {p : Pl} {B Lo X : Nat} {E : List (Nat × Obj)} {w wr : World} (h : MP p B Lo X E w wr) (x : Int) : MP ⟨p.k, p.t, p.l, p.st, p.re, p.ma, p.mo, x, p.i, p.o⟩ B Lo X E w (wr.setCell ⟨X, 7, none⟩ (.int .i64 x)) := by
  have hX := h.hX
  have ho : ∀ {v : Value} {m : Nat} {Y : Nat → Int}, RowI wr Lo v m Y → RowI (wr.setCell ⟨X, 7, none⟩ (.int .i64 x)) Lo v m Y := fun h1 => row_other (a := ⟨X, 7, none⟩) h1 (own_ne h1 (a := ⟨X, 7, none⟩) hX) _
  exact ⟨h.below.setCell (p := ⟨X, 7, none⟩) h.hB _, h.hB, h.hX, by rw [World.size_setCell]; exact h.le, heap_setCell_same _ X 7 _ _ (.int .i64 x) h.bx, ⟨ho h.r4.st, ho h.r4.re, ho h.r4.ma, ho h.r4.mo, h.r4.a1, h.r4.a2, h.r4.a3, h.r4.a4, h.r4.a5, h.r4.a6⟩,
    fun y hy => ⟨(Below.heap_setCell _ _ _ y.1 (h.ex y hy).2.1).trans (h.ex y hy).1, (h.ex y hy).2⟩⟩
theorem MP.set_i {p : Pl} {B Lo X : Nat} {E : List (Nat × Obj)} {w wr : World} (h : MP p B Lo X E w wr) (x : Int) : MP ⟨p.k, p.t, p.l, p.st, p.re, p.ma, p.mo, p.g, x, p.o⟩ B Lo X E w (wr.setCell ⟨X, 8, none⟩ (.int .i64 x)) := by
  have hX := h.hX
  have ho : ∀ {v : Value} {m : Nat} {Y : Nat → Int}, RowI wr Lo v m Y → RowI (wr.setCell ⟨X, 8, none⟩ (.int .i64 x)) Lo v m Y := fun h1 => row_other (a := ⟨X, 8, none⟩) h1 (own_ne h1 (a := ⟨X, 8, none⟩) hX) _
  exact ⟨h.below.setCell (p := ⟨X, 8, none⟩) h.hB _, h.hB, h.hX, by rw [World.size_setCell]; exact h.le, heap_setCell_same _ X 8 _ _ (.int .i64 x) h.bx, ⟨ho h.r4.st, ho h.r4.re, ho h.r4.ma, ho h.r4.mo, h.r4.a1, h.r4.a2, h.r4.a3, h.r4.a4, h.r4.a5, h.r4.a6⟩,
    fun y hy => ⟨(Below.heap_setCell _ _ _ y.1 (h.ex y hy).2.1).trans (h.ex y hy).1, (h.ex y hy).2⟩⟩
theorem MP.set_o {p : Pl} {B Lo X : Nat} {E : List (Nat × Obj)} {w wr : World} (h : MP p B Lo X E w wr) (x : Bool) : MP ⟨p.k, p.t, p.l, p.st, p.re, p.ma, p.mo, p.g, p.i, x⟩ B Lo X E w (wr.setCell ⟨X, 9, none⟩ (.bool x)) := by
  have hX := h.hX
  have ho : ∀ {v : Value} {m : Nat} {Y : Nat → Int}, RowI wr Lo v m Y → RowI (wr.setCell ⟨X, 9, none⟩ (.bool x)) Lo v m Y := fun h1 => row_other (a := ⟨X, 9, none⟩) h1 (own_ne h1 (a := ⟨X, 9, none⟩) hX) _
  exact ⟨h.below.setCell (p := ⟨X, 9, none⟩) h.hB _, h.hB, h.hX, by rw [World.size_setCell]; exact h.le, heap_setCell_same _ X 9 _ _ (.bool x) h.bx, ⟨ho h.r4.st, ho h.r4.re, ho h.r4.ma, ho h.r4.mo, h.r4.a1, h.r4.a2, h.r4.a3, h.r4.a4, h.r4.a5, h.r4.a6⟩,
    fun y hy => ⟨(Below.heap_setCell _ _ _ y.1 (h.ex y hy).2.1).trans (h.ex y hy).1, (h.ex y hy).2⟩⟩
/-- The plant is laid into the result's box. -/
theorem MP.out {p : Pl} {B Lo X Y : Nat} {E : List (Nat × Obj)} {w wr : World} (h : MP p B Lo X E w wr) (hY : (Y, zeroBox) ∈ E) (hYL : Y < Lo) :
    Below B w ((((((((((wr.setCell ⟨Y, 0, none⟩ (.int .i64 p.k)).setCell ⟨Y, 1, none⟩ (.int .i64 p.t)).setCell ⟨Y, 2, none⟩ (.int .i64 p.l)).setCell ⟨Y, 3, none⟩ (.slice p.st.a p.st.n p.st.c)).setCell ⟨Y, 4, none⟩ (.slice p.re.a p.re.n p.re.c)).setCell ⟨Y, 5, none⟩ (.slice p.ma.a p.ma.n p.ma.c)).setCell ⟨Y, 6, none⟩ (.slice p.mo.a p.mo.n p.mo.c)).setCell ⟨Y, 7, none⟩ (.int .i64 p.g)).setCell ⟨Y, 8, none⟩ (.int .i64 p.i)).setCell ⟨Y, 9, none⟩ (.bool p.o)) ∧ ((((((((((wr.setCell ⟨Y, 0, none⟩ (.int .i64 p.k)).setCell ⟨Y, 1, none⟩ (.int .i64 p.t)).setCell ⟨Y, 2, none⟩ (.int .i64 p.l)).setCell ⟨Y, 3, none⟩ (.slice p.st.a p.st.n p.st.c)).setCell ⟨Y, 4, none⟩ (.slice p.re.a p.re.n p.re.c)).setCell ⟨Y, 5, none⟩ (.slice p.ma.a p.ma.n p.ma.c)).setCell ⟨Y, 6, none⟩ (.slice p.mo.a p.mo.n p.mo.c)).setCell ⟨Y, 7, none⟩ (.int .i64 p.g)).setCell ⟨Y, 8, none⟩ (.int .i64 p.i)).setCell ⟨Y, 9, none⟩ (.bool p.o)).heap[Y]? = some (boxOf p) ∧ R4 ((((((((((wr.setCell ⟨Y, 0, none⟩ (.int .i64 p.k)).setCell ⟨Y, 1, none⟩ (.int .i64 p.t)).setCell ⟨Y, 2, none⟩ (.int .i64 p.l)).setCell ⟨Y, 3, none⟩ (.slice p.st.a p.st.n p.st.c)).setCell ⟨Y, 4, none⟩ (.slice p.re.a p.re.n p.re.c)).setCell ⟨Y, 5, none⟩ (.slice p.ma.a p.ma.n p.ma.c)).setCell ⟨Y, 6, none⟩ (.slice p.mo.a p.mo.n p.mo.c)).setCell ⟨Y, 7, none⟩ (.int .i64 p.g)).setCell ⟨Y, 8, none⟩ (.int .i64 p.i)).setCell ⟨Y, 9, none⟩ (.bool p.o)) B p := by
  obtain ⟨h1, _, h3, _⟩ := h.ex _ hY
  have ho : ∀ {v : Value} {m : Nat} {Z : Nat → Int}, RowI wr Lo v m Z → RowI ((((((((((wr.setCell ⟨Y, 0, none⟩ (.int .i64 p.k)).setCell ⟨Y, 1, none⟩ (.int .i64 p.t)).setCell ⟨Y, 2, none⟩ (.int .i64 p.l)).setCell ⟨Y, 3, none⟩ (.slice p.st.a p.st.n p.st.c)).setCell ⟨Y, 4, none⟩ (.slice p.re.a p.re.n p.re.c)).setCell ⟨Y, 5, none⟩ (.slice p.ma.a p.ma.n p.ma.c)).setCell ⟨Y, 6, none⟩ (.slice p.mo.a p.mo.n p.mo.c)).setCell ⟨Y, 7, none⟩ (.int .i64 p.g)).setCell ⟨Y, 8, none⟩ (.int .i64 p.i)).setCell ⟨Y, 9, none⟩ (.bool p.o)) Lo v m Z := fun h1 => set10_row h1 (own_ne h1 (a := ⟨Y, 0, none⟩) hYL) (.int .i64 p.k) (.int .i64 p.t) (.int .i64 p.l) (.slice p.st.a p.st.n p.st.c) (.slice p.re.a p.re.n p.re.c) (.slice p.ma.a p.ma.n p.ma.c) (.slice p.mo.a p.mo.n p.mo.c) (.int .i64 p.g) (.int .i64 p.i) (.bool p.o)
  exact ⟨set10_below h.below h3 (.int .i64 p.k) (.int .i64 p.t) (.int .i64 p.l) (.slice p.st.a p.st.n p.st.c) (.slice p.re.a p.re.n p.re.c) (.slice p.ma.a p.ma.n p.ma.c) (.slice p.mo.a p.mo.n p.mo.c) (.int .i64 p.g) (.int .i64 p.i) (.bool p.o), set10 h1 (.int .i64 p.k) (.int .i64 p.t) (.int .i64 p.l) (.slice p.st.a p.st.n p.st.c) (.slice p.re.a p.re.n p.re.c) (.slice p.ma.a p.ma.n p.ma.c) (.slice p.mo.a p.mo.n p.mo.c) (.int .i64 p.g) (.int .i64 p.i) (.bool p.o), R4.mono ⟨ho h.r4.st, ho h.r4.re, ho h.r4.ma, ho h.r4.mo, h.r4.a1, h.r4.a2, h.r4.a3, h.r4.a4, h.r4.a5, h.r4.a6⟩ (by have := h.hB; have := h.hX; omega)⟩
/-- What lies in memory of a call with a plant's box and a result's box. -/
structure PZ (p : Pl) (B : Nat) (w wr : World) : Prop where
  below : Below B w wr
  le : B + 2 ≤ wr.heap.size
  bx : wr.heap[B]? = some (boxOf p)
  br : wr.heap[B + 1]? = some zeroBox
  lists : PlAt wr p
theorem PZ.stays {p : Pl} {B : Nat} {w wr w' : World} (h : PZ p B w wr) (hb : Below wr.heap.size wr w') : PZ p B w w' :=
  ⟨h.below.trans (hb.mono (by have := h.le; omega)), Nat.le_trans h.le hb.size, (hb.block _ (heap_lt h.bx)).trans h.bx, (hb.block _ (heap_lt h.br)).trans h.br, h.lists.stays hb⟩
theorem PZ.start {p : Pl} {w : World} (h : PlAt w p) : PZ p w.heap.size w ((w.alloc (boxOf p)).alloc zeroBox) :=
  ⟨Joins.below_alloc2 _ _ _, by rw [World.size_alloc, World.size_alloc]; omega, (Below.heap_alloc _ _ _ (by simp)).trans (heap_new _ _), by have := heap_new (w.alloc (boxOf p)) zeroBox; rwa [World.size_alloc] at this, h.stays (Joins.below_alloc2 _ _ _)⟩
theorem PZ.c0 {p : Pl} {B : Nat} {w wr : World} (h : PZ p B w wr) : wr.cell? ⟨B, 0, none⟩ = some (.int .i64 p.k) := cell_of_row _ _ 0 _ _ _ h.bx
theorem PZ.c1 {p : Pl} {B : Nat} {w wr : World} (h : PZ p B w wr) : wr.cell? ⟨B, 1, none⟩ = some (.int .i64 p.t) := cell_of_row _ _ 1 _ _ _ h.bx
theorem PZ.c2 {p : Pl} {B : Nat} {w wr : World} (h : PZ p B w wr) : wr.cell? ⟨B, 2, none⟩ = some (.int .i64 p.l) := cell_of_row _ _ 2 _ _ _ h.bx
theorem PZ.c3 {p : Pl} {B : Nat} {w wr : World} (h : PZ p B w wr) : wr.cell? ⟨B, 3, none⟩ = some (.slice p.st.a p.st.n p.st.c) := cell_of_row _ _ 3 _ _ _ h.bx
theorem PZ.c4 {p : Pl} {B : Nat} {w wr : World} (h : PZ p B w wr) : wr.cell? ⟨B, 4, none⟩ = some (.slice p.re.a p.re.n p.re.c) := cell_of_row _ _ 4 _ _ _ h.bx
theorem PZ.c5 {p : Pl} {B : Nat} {w wr : World} (h : PZ p B w wr) : wr.cell? ⟨B, 5, none⟩ = some (.slice p.ma.a p.ma.n p.ma.c) := cell_of_row _ _ 5 _ _ _ h.bx
theorem PZ.c6 {p : Pl} {B : Nat} {w wr : World} (h : PZ p B w wr) : wr.cell? ⟨B, 6, none⟩ = some (.slice p.mo.a p.mo.n p.mo.c) := cell_of_row _ _ 6 _ _ _ h.bx
theorem PZ.c7 {p : Pl} {B : Nat} {w wr : World} (h : PZ p B w wr) : wr.cell? ⟨B, 7, none⟩ = some (.int .i64 p.g) := cell_of_row _ _ 7 _ _ _ h.bx
theorem PZ.c8 {p : Pl} {B : Nat} {w wr : World} (h : PZ p B w wr) : wr.cell? ⟨B, 8, none⟩ = some (.int .i64 p.i) := cell_of_row _ _ 8 _ _ _ h.bx
theorem PZ.c9 {p : Pl} {B : Nat} {w wr : World} (h : PZ p B w wr) : wr.cell? ⟨B, 9, none⟩ = some (.bool p.o) := cell_of_row _ _ 9 _ _ _ h.bx
theorem PZ.r0 {p : Pl} {B : Nat} {w wr : World} (h : PZ p B w wr) : wr.cell? ⟨B + 1, 0, none⟩ = some (.int .i64 0) := cell_of_row _ _ 0 _ _ _ h.br
theorem PZ.r1 {p : Pl} {B : Nat} {w wr : World} (h : PZ p B w wr) : wr.cell? ⟨B + 1, 1, none⟩ = some (.int .i64 0) := cell_of_row _ _ 1 _ _ _ h.br
theorem PZ.r2 {p : Pl} {B : Nat} {w wr : World} (h : PZ p B w wr) : wr.cell? ⟨B + 1, 2, none⟩ = some (.int .i64 0) := cell_of_row _ _ 2 _ _ _ h.br
theorem PZ.r3 {p : Pl} {B : Nat} {w wr : World} (h : PZ p B w wr) : wr.cell? ⟨B + 1, 3, none⟩ = some (.slice none 0 0) := cell_of_row _ _ 3 _ _ _ h.br
theorem PZ.r4 {p : Pl} {B : Nat} {w wr : World} (h : PZ p B w wr) : wr.cell? ⟨B + 1, 4, none⟩ = some (.slice none 0 0) := cell_of_row _ _ 4 _ _ _ h.br
theorem PZ.r5 {p : Pl} {B : Nat} {w wr : World} (h : PZ p B w wr) : wr.cell? ⟨B + 1, 5, none⟩ = some (.slice none 0 0) := cell_of_row _ _ 5 _ _ _ h.br
theorem PZ.r6 {p : Pl} {B : Nat} {w wr : World} (h : PZ p B w wr) : wr.cell? ⟨B + 1, 6, none⟩ = some (.slice none 0 0) := cell_of_row _ _ 6 _ _ _ h.br
theorem PZ.r7 {p : Pl} {B : Nat} {w wr : World} (h : PZ p B w wr) : wr.cell? ⟨B + 1, 7, none⟩ = some (.int .i64 0) := cell_of_row _ _ 7 _ _ _ h.br
theorem PZ.r8 {p : Pl} {B : Nat} {w wr : World} (h : PZ p B w wr) : wr.cell? ⟨B + 1, 8, none⟩ = some (.int .i64 0) := cell_of_row _ _ 8 _ _ _ h.br
theorem PZ.r9 {p : Pl} {B : Nat} {w wr : World} (h : PZ p B w wr) : wr.cell? ⟨B + 1, 9, none⟩ = some (.bool false) := cell_of_row _ _ 9 _ _ _ h.br
theorem PZ.fb {p : Pl} {B : Nat} {w wr : World} (h : PZ p B w wr) (j : Nat) : wr.frozen? ⟨B, j, none⟩ = false := frozen_of_row _ _ j _ _ h.bx
theorem PZ.fr {p : Pl} {B : Nat} {w wr : World} (h : PZ p B w wr) (j : Nat) : wr.frozen? ⟨B + 1, j, none⟩ = false := frozen_of_row _ _ j _ _ h.br
/-- The copy is laid into the plant's box. -/
theorem PZ.own {p0 p : Pl} {B N : Nat} {w wr : World} (h : PZ p0 B w wr) (hr : R4 wr N p) (hN : B + 2 ≤ N) : MP p B (B + 2) B [(B + 1, zeroBox)] w ((((((((((wr.setCell ⟨B, 0, none⟩ (.int .i64 p.k)).setCell ⟨B, 1, none⟩ (.int .i64 p.t)).setCell ⟨B, 2, none⟩ (.int .i64 p.l)).setCell ⟨B, 3, none⟩ (.slice p.st.a p.st.n p.st.c)).setCell ⟨B, 4, none⟩ (.slice p.re.a p.re.n p.re.c)).setCell ⟨B, 5, none⟩ (.slice p.ma.a p.ma.n p.ma.c)).setCell ⟨B, 6, none⟩ (.slice p.mo.a p.mo.n p.mo.c)).setCell ⟨B, 7, none⟩ (.int .i64 p.g)).setCell ⟨B, 8, none⟩ (.int .i64 p.i)).setCell ⟨B, 9, none⟩ (.bool p.o)) := by
  have ho : ∀ {v : Value} {m : Nat} {Z : Nat → Int}, RowI wr N v m Z → RowI ((((((((((wr.setCell ⟨B, 0, none⟩ (.int .i64 p.k)).setCell ⟨B, 1, none⟩ (.int .i64 p.t)).setCell ⟨B, 2, none⟩ (.int .i64 p.l)).setCell ⟨B, 3, none⟩ (.slice p.st.a p.st.n p.st.c)).setCell ⟨B, 4, none⟩ (.slice p.re.a p.re.n p.re.c)).setCell ⟨B, 5, none⟩ (.slice p.ma.a p.ma.n p.ma.c)).setCell ⟨B, 6, none⟩ (.slice p.mo.a p.mo.n p.mo.c)).setCell ⟨B, 7, none⟩ (.int .i64 p.g)).setCell ⟨B, 8, none⟩ (.int .i64 p.i)).setCell ⟨B, 9, none⟩ (.bool p.o)) (B + 2) v m Z := fun h1 => row_mono (set10_row h1 (own_ne h1 (a := ⟨B, 0, none⟩) (by show B < N; omega)) (.int .i64 p.k) (.int .i64 p.t) (.int .i64 p.l) (.slice p.st.a p.st.n p.st.c) (.slice p.re.a p.re.n p.re.c) (.slice p.ma.a p.ma.n p.ma.c) (.slice p.mo.a p.mo.n p.mo.c) (.int .i64 p.g) (.int .i64 p.i) (.bool p.o)) hN
  exact ⟨set10_below h.below (Nat.le_refl _) (.int .i64 p.k) (.int .i64 p.t) (.int .i64 p.l) (.slice p.st.a p.st.n p.st.c) (.slice p.re.a p.re.n p.re.c) (.slice p.ma.a p.ma.n p.ma.c) (.slice p.mo.a p.mo.n p.mo.c) (.int .i64 p.g) (.int .i64 p.i) (.bool p.o), Nat.le_refl _, by omega, by rw [set10_size]; exact h.le, set10 h.bx (.int .i64 p.k) (.int .i64 p.t) (.int .i64 p.l) (.slice p.st.a p.st.n p.st.c) (.slice p.re.a p.re.n p.re.c) (.slice p.ma.a p.ma.n p.ma.c) (.slice p.mo.a p.mo.n p.mo.c) (.int .i64 p.g) (.int .i64 p.i) (.bool p.o), ⟨ho hr.st, ho hr.re, ho hr.ma, ho hr.mo, hr.a1, hr.a2, hr.a3, hr.a4, hr.a5, hr.a6⟩, fun x hx => by
    simp only [List.mem_singleton] at hx
    subst hx
    exact ⟨(set10_other (.int .i64 p.k) (.int .i64 p.t) (.int .i64 p.l) (.slice p.st.a p.st.n p.st.c) (.slice p.re.a p.re.n p.re.c) (.slice p.ma.a p.ma.n p.ma.c) (.slice p.mo.a p.mo.n p.mo.c) (.int .i64 p.g) (.int .i64 p.i) (.bool p.o) (by show B + 1 ≠ B; omega)).trans h.br, by show B + 1 ≠ B; omega, by show B ≤ B + 1; omega, by show 25 ≠ 3; decide⟩⟩
end Go.Proofs.Ytnhkblkijiipeaa
