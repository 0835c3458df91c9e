/-
  A plant that is changed in place in a box of its own, above its lists: as FMut's, told apart by what lies in a block.
-/
import Derived.Test.YtnhkblkijiipeaaFMut
namespace Go.Proofs.Ytnhkblkijiipeaa
open Go.RowKit

/-- A plant's box at X, its lists above Lo, other boxes E. -/
structure MR (p : Pl) (B Lo X : Nat) (E : List (Nat × Obj)) (w wr : World) : Prop where
  below : Below B w wr
  hB : B ≤ X
  hL : B ≤ Lo
  le : Lo ≤ wr.heap.size
  bx : wr.heap[X]? = some (boxOf p)
  r4 : R4 wr Lo p
  ex : ∀ x ∈ E, wr.heap[x.1]? = some x.2 ∧ x.1 ≠ X ∧ B ≤ x.1 ∧ NI x.2
theorem MR.stays {p : Pl} {B Lo X : Nat} {E : List (Nat × Obj)} {w wr w' : World} (h : MR p B Lo X E w wr) (hb : Below wr.heap.size wr w') : MR p B Lo X E w w' :=
  ⟨h.below.trans (hb.mono (by have := h.hL; have := h.le; omega)), h.hB, h.hL, Nat.le_trans h.le hb.size, (hb.block _ (heap_lt h.bx)).trans h.bx, h.r4.stays hb, fun x hx => ⟨(hb.block _ (heap_lt (h.ex x hx).1)).trans (h.ex x hx).1, (h.ex x hx).2⟩⟩
theorem MR.cons {p : Pl} {B Lo X : Nat} {E : List (Nat × Obj)} {w wr : World} (h : MR p B Lo X E w wr) (o : Obj) (ho : NI o) : MR p B Lo X ((wr.heap.size, o) :: E) w (wr.alloc o) := by
  have h' := h.stays ((Below.refl _ wr).alloc (Nat.le_refl _) o)
  refine ⟨h'.below, h'.hB, h'.hL, h'.le, h'.bx, h'.r4, fun x hx => ?_⟩
  rcases List.mem_cons.1 hx with rfl | hx
  · exact ⟨heap_new _ _, by have := heap_lt h.bx; show wr.heap.size ≠ X; omega, by have := h.hL; have := h.le; show B ≤ wr.heap.size; omega, ho⟩
  · exact h'.ex x hx
theorem MR.sub {p : Pl} {B Lo X : Nat} {E E' : List (Nat × Obj)} {w wr : World} (h : MR p B Lo X E w wr) (hs : ∀ x ∈ E', x ∈ E) : MR p B Lo X E' w wr :=
  ⟨h.below, h.hB, h.hL, h.le, h.bx, h.r4, fun x hx => h.ex x (hs x hx)⟩
theorem box_ni {p : Pl} : NI (boxOf p) := by show 25 ≠ 3; decide
theorem MR.c0 {p : Pl} {B Lo X : Nat} {E : List (Nat × Obj)} {w wr : World} (h : MR p B Lo X E w wr) : wr.cell? ⟨X, 0, none⟩ = some (.int .i64 p.k) := cell_of_row _ _ 0 _ _ _ h.bx
theorem MR.c1 {p : Pl} {B Lo X : Nat} {E : List (Nat × Obj)} {w wr : World} (h : MR p B Lo X E w wr) : wr.cell? ⟨X, 1, none⟩ = some (.int .i64 p.t) := cell_of_row _ _ 1 _ _ _ h.bx
theorem MR.c2 {p : Pl} {B Lo X : Nat} {E : List (Nat × Obj)} {w wr : World} (h : MR p B Lo X E w wr) : wr.cell? ⟨X, 2, none⟩ = some (.int .i64 p.l) := cell_of_row _ _ 2 _ _ _ h.bx
theorem MR.c3 {p : Pl} {B Lo X : Nat} {E : List (Nat × Obj)} {w wr : World} (h : MR p B Lo X E w wr) : wr.cell? ⟨X, 3, none⟩ = some (.slice p.st.a p.st.n p.st.c) := cell_of_row _ _ 3 _ _ _ h.bx
theorem MR.c4 {p : Pl} {B Lo X : Nat} {E : List (Nat × Obj)} {w wr : World} (h : MR p B Lo X E w wr) : wr.cell? ⟨X, 4, none⟩ = some (.slice p.re.a p.re.n p.re.c) := cell_of_row _ _ 4 _ _ _ h.bx
theorem MR.c5 {p : Pl} {B Lo X : Nat} {E : List (Nat × Obj)} {w wr : World} (h : MR p B Lo X E w wr) : wr.cell? ⟨X, 5, none⟩ = some (.slice p.ma.a p.ma.n p.ma.c) := cell_of_row _ _ 5 _ _ _ h.bx
theorem MR.c6 {p : Pl} {B Lo X : Nat} {E : List (Nat × Obj)} {w wr : World} (h : MR p B Lo X E w wr) : wr.cell? ⟨X, 6, none⟩ = some (.slice p.mo.a p.mo.n p.mo.c) := cell_of_row _ _ 6 _ _ _ h.bx
theorem MR.c7 {p : Pl} {B Lo X : Nat} {E : List (Nat × Obj)} {w wr : World} (h : MR p B Lo X E w wr) : wr.cell? ⟨X, 7, none⟩ = some (.int .i64 p.g) := cell_of_row _ _ 7 _ _ _ h.bx
theorem MR.c8 {p : Pl} {B Lo X : Nat} {E : List (Nat × Obj)} {w wr : World} (h : MR p B Lo X E w wr) : wr.cell? ⟨X, 8, none⟩ = some (.int .i64 p.i) := cell_of_row _ _ 8 _ _ _ h.bx
theorem MR.c9 {p : Pl} {B Lo X : Nat} {E : List (Nat × Obj)} {w wr : World} (h : MR p B Lo X E w wr) : wr.cell? ⟨X, 9, none⟩ = some (.bool p.o) := cell_of_row _ _ 9 _ _ _ h.bx
theorem MR.fz {p : Pl} {B Lo X : Nat} {E : List (Nat × Obj)} {w wr : World} (h : MR p B Lo X E w wr) (j : Nat) : wr.frozen? ⟨X, j, none⟩ = false := frozen_of_row _ _ j _ _ h.bx
/-- A number is laid into the list 'st'. -/
theorem MR.put_st {p : Pl} {B Lo X : Nat} {E : List (Nat × Obj)} {w wr : World} {g n c : Nat} {Z : Nat → Int} (h : MR p B Lo X E w wr) (e : p.st = ⟨some ⟨g, 0, none⟩, n, c, Z⟩) (j : Nat) (x : Int) :
    MR ⟨p.k, p.t, p.l, ⟨some ⟨g, 0, none⟩, n, c, fun q => if q = j then x else Z q⟩, p.re, p.ma, p.mo, p.g, p.i, p.o⟩ B Lo X E w (wr.setCell ⟨g, j, none⟩ (.int .i64 x)) := by
  have hr : RowI wr Lo (.slice (some ⟨g, 0, none⟩) n c) n Z := by have := h.r4.st; rw [e] at this; exact this
  have hl := hr.lt g rfl
  obtain ⟨cs, hg⟩ := own_kind hr (g := g) rfl
  have ho : ∀ {v : Value} {m : Nat} {Y : Nat → Int}, RowI wr Lo v m Y → v.ownBlock ≠ some g → RowI (wr.setCell ⟨g, j, none⟩ (.int .i64 x)) Lo v m Y := fun h1 h2 => row_other (a := ⟨g, j, none⟩) h1 h2 _
  have hown : (lv p.st).ownBlock = some g := by rw [e]; rfl
  refine ⟨h.below.setCell (p := ⟨g, j, none⟩) (by have := h.hL; show B ≤ g; omega) _, h.hB, h.hL, by rw [World.size_setCell]; exact h.le, ?_, ?_, fun y hy => ?_⟩
  · rw [Below.heap_setCell _ _ _ X (ni_ne hg h.bx box_ni), h.bx]
    obtain ⟨pk, pt, pl, st, re, ma, mo, pg, pi, po⟩ := p
    dsimp only at e
    subst e
    rfl
  · exact ⟨hr.put j x, ho h.r4.re (h.r4.a1 g hown), ho h.r4.ma (h.r4.a2 g hown), ho h.r4.mo (h.r4.a3 g hown), fun g' h1 => h.r4.a1 g' (by rw [e]; exact h1), fun g' h1 => h.r4.a2 g' (by rw [e]; exact h1), fun g' h1 => h.r4.a3 g' (by rw [e]; exact h1), h.r4.a4, h.r4.a5, h.r4.a6⟩
  · obtain ⟨y1, y2, y3, y4⟩ := h.ex y hy
    exact ⟨(Below.heap_setCell _ _ _ y.1 (ni_ne hg y1 y4)).trans y1, y2, y3, y4⟩
/-- A number is laid into the list 're'. -/
theorem MR.put_re {p : Pl} {B Lo X : Nat} {E : List (Nat × Obj)} {w wr : World} {g n c : Nat} {Z : Nat → Int} (h : MR p B Lo X E w wr) (e : p.re = ⟨some ⟨g, 0, none⟩, n, c, Z⟩) (j : Nat) (x : Int) :
    MR ⟨p.k, p.t, p.l, p.st, ⟨some ⟨g, 0, none⟩, n, c, fun q => if q = j then x else Z q⟩, p.ma, p.mo, p.g, p.i, p.o⟩ B Lo X E w (wr.setCell ⟨g, j, none⟩ (.int .i64 x)) := by
  have hr : RowI wr Lo (.slice (some ⟨g, 0, none⟩) n c) n Z := by have := h.r4.re; rw [e] at this; exact this
  have hl := hr.lt g rfl
  obtain ⟨cs, hg⟩ := own_kind hr (g := g) rfl
  have ho : ∀ {v : Value} {m : Nat} {Y : Nat → Int}, RowI wr Lo v m Y → v.ownBlock ≠ some g → RowI (wr.setCell ⟨g, j, none⟩ (.int .i64 x)) Lo v m Y := fun h1 h2 => row_other (a := ⟨g, j, none⟩) h1 h2 _
  have hown : (lv p.re).ownBlock = some g := by rw [e]; rfl
  refine ⟨h.below.setCell (p := ⟨g, j, none⟩) (by have := h.hL; show B ≤ g; omega) _, h.hB, h.hL, by rw [World.size_setCell]; exact h.le, ?_, ?_, fun y hy => ?_⟩
  · rw [Below.heap_setCell _ _ _ X (ni_ne hg h.bx box_ni), h.bx]
    obtain ⟨pk, pt, pl, st, re, ma, mo, pg, pi, po⟩ := p
    dsimp only at e
    subst e
    rfl
  · exact ⟨ho h.r4.st (fun e2 => h.r4.a1 g e2 hown), hr.put j x, ho h.r4.ma (h.r4.a4 g hown), ho h.r4.mo (h.r4.a5 g hown), fun g' h1 h2 => h.r4.a1 g' h1 (by rw [e]; exact h2), h.r4.a2, h.r4.a3, fun g' h1 => h.r4.a4 g' (by rw [e]; exact h1), fun g' h1 => h.r4.a5 g' (by rw [e]; exact h1), h.r4.a6⟩
  · obtain ⟨y1, y2, y3, y4⟩ := h.ex y hy
    exact ⟨(Below.heap_setCell _ _ _ y.1 (ni_ne hg y1 y4)).trans y1, y2, y3, y4⟩
/-- A number is laid into the list 'ma'. -/
theorem MR.put_ma {p : Pl} {B Lo X : Nat} {E : List (Nat × Obj)} {w wr : World} {g n c : Nat} {Z : Nat → Int} (h : MR p B Lo X E w wr) (e : p.ma = ⟨some ⟨g, 0, none⟩, n, c, Z⟩) (j : Nat) (x : Int) :
    MR ⟨p.k, p.t, p.l, p.st, p.re, ⟨some ⟨g, 0, none⟩, n, c, fun q => if q = j then x else Z q⟩, p.mo, p.g, p.i, p.o⟩ B Lo X E w (wr.setCell ⟨g, j, none⟩ (.int .i64 x)) := by
  have hr : RowI wr Lo (.slice (some ⟨g, 0, none⟩) n c) n Z := by have := h.r4.ma; rw [e] at this; exact this
  have hl := hr.lt g rfl
  obtain ⟨cs, hg⟩ := own_kind hr (g := g) rfl
  have ho : ∀ {v : Value} {m : Nat} {Y : Nat → Int}, RowI wr Lo v m Y → v.ownBlock ≠ some g → RowI (wr.setCell ⟨g, j, none⟩ (.int .i64 x)) Lo v m Y := fun h1 h2 => row_other (a := ⟨g, j, none⟩) h1 h2 _
  have hown : (lv p.ma).ownBlock = some g := by rw [e]; rfl
  refine ⟨h.below.setCell (p := ⟨g, j, none⟩) (by have := h.hL; show B ≤ g; omega) _, h.hB, h.hL, by rw [World.size_setCell]; exact h.le, ?_, ?_, fun y hy => ?_⟩
  · rw [Below.heap_setCell _ _ _ X (ni_ne hg h.bx box_ni), h.bx]
    obtain ⟨pk, pt, pl, st, re, ma, mo, pg, pi, po⟩ := p
    dsimp only at e
    subst e
    rfl
  · exact ⟨ho h.r4.st (fun e2 => h.r4.a2 g e2 hown), ho h.r4.re (fun e2 => h.r4.a4 g e2 hown), hr.put j x, ho h.r4.mo (h.r4.a6 g hown), h.r4.a1, fun g' h1 h2 => h.r4.a2 g' h1 (by rw [e]; exact h2), h.r4.a3, fun g' h1 h2 => h.r4.a4 g' h1 (by rw [e]; exact h2), h.r4.a5, fun g' h1 => h.r4.a6 g' (by rw [e]; exact h1)⟩
  · obtain ⟨y1, y2, y3, y4⟩ := h.ex y hy
    exact ⟨(Below.heap_setCell _ _ _ y.1 (ni_ne hg y1 y4)).trans y1, y2, y3, y4⟩
/-- A number is laid into the list 'mo'. -/
theorem MR.put_mo {p : Pl} {B Lo X : Nat} {E : List (Nat × Obj)} {w wr : World} {g n c : Nat} {Z : Nat → Int} (h : MR p B Lo X E w wr) (e : p.mo = ⟨some ⟨g, 0, none⟩, n, c, Z⟩) (j : Nat) (x : Int) :
    MR ⟨p.k, p.t, p.l, p.st, p.re, p.ma, ⟨some ⟨g, 0, none⟩, n, c, fun q => if q = j then x else Z q⟩, p.g, p.i, p.o⟩ B Lo X E w (wr.setCell ⟨g, j, none⟩ (.int .i64 x)) := by
  have hr : RowI wr Lo (.slice (some ⟨g, 0, none⟩) n c) n Z := by have := h.r4.mo; rw [e] at this; exact this
  have hl := hr.lt g rfl
  obtain ⟨cs, hg⟩ := own_kind hr (g := g) rfl
  have ho : ∀ {v : Value} {m : Nat} {Y : Nat → Int}, RowI wr Lo v m Y → v.ownBlock ≠ some g → RowI (wr.setCell ⟨g, j, none⟩ (.int .i64 x)) Lo v m Y := fun h1 h2 => row_other (a := ⟨g, j, none⟩) h1 h2 _
  have hown : (lv p.mo).ownBlock = some g := by rw [e]; rfl
  refine ⟨h.below.setCell (p := ⟨g, j, none⟩) (by have := h.hL; show B ≤ g; omega) _, h.hB, h.hL, by rw [World.size_setCell]; exact h.le, ?_, ?_, fun y hy => ?_⟩
  · rw [Below.heap_setCell _ _ _ X (ni_ne hg h.bx box_ni), h.bx]
    obtain ⟨pk, pt, pl, st, re, ma, mo, pg, pi, po⟩ := p
    dsimp only at e
    subst e
    rfl
  · exact ⟨ho h.r4.st (fun e2 => h.r4.a3 g e2 hown), ho h.r4.re (fun e2 => h.r4.a5 g e2 hown), ho h.r4.ma (fun e2 => h.r4.a6 g e2 hown), hr.put j x, h.r4.a1, h.r4.a2, fun g' h1 h2 => h.r4.a3 g' h1 (by rw [e]; exact h2), h.r4.a4, fun g' h1 h2 => h.r4.a5 g' h1 (by rw [e]; exact h2), fun g' h1 h2 => h.r4.a6 g' h1 (by rw [e]; exact h2)⟩
  · obtain ⟨y1, y2, y3, y4⟩ := h.ex y hy
    exact ⟨(Below.heap_setCell _ _ _ y.1 (ni_ne hg y1 y4)).trans y1, y2, y3, y4⟩
theorem MR.set_l {p : Pl} {B Lo X : Nat} {E : List (Nat × Obj)} {w wr : World} (h : MR p B Lo X E w wr) (x : Int) : MR ⟨p.k, p.t, x, p.st, p.re, p.ma, p.mo, p.g, p.i, p.o⟩ B Lo X E w (wr.setCell ⟨X, 2, none⟩ (.int .i64 x)) := by
  have ho : ∀ {v : Value} {m : Nat} {Y : Nat → Int}, RowI wr Lo v m Y → RowI (wr.setCell ⟨X, 2, none⟩ (.int .i64 x)) Lo v m Y := fun h1 => row_other (a := ⟨X, 2, none⟩) h1 (fun e => by obtain ⟨cs, hc⟩ := own_kind h1 e; exact ni_ne hc h.bx box_ni rfl) _
  exact ⟨h.below.setCell (p := ⟨X, 2, none⟩) h.hB _, h.hB, h.hL, by rw [World.size_setCell]; exact h.le, heap_setCell_same _ X 2 _ _ (.int .i64 x) h.bx, ⟨ho h.r4.st, ho h.r4.re, ho h.r4.ma, ho h.r4.mo, h.r4.a1, h.r4.a2, h.r4.a3, h.r4.a4, h.r4.a5, h.r4.a6⟩,
    fun y hy => ⟨(Below.heap_setCell _ _ _ y.1 (h.ex y hy).2.1).trans (h.ex y hy).1, (h.ex y hy).2⟩⟩
theorem MR.set_g {p : Pl} {B Lo X : Nat} {E : List (Nat × Obj)} {w wr : World} (h : MR p B Lo X E w wr) (x : Int) : MR ⟨p.k, p.t, p.l, p.st, p.re, p.ma, p.mo, x, p.i, p.o⟩ B Lo X E w (wr.setCell ⟨X, 7, none⟩ (.int .i64 x)) := by
  have ho : ∀ {v : Value} {m : Nat} {Y : Nat → Int}, RowI wr Lo v m Y → RowI (wr.setCell ⟨X, 7, none⟩ (.int .i64 x)) Lo v m Y := fun h1 => row_other (a := ⟨X, 7, none⟩) h1 (fun e => by obtain ⟨cs, hc⟩ := own_kind h1 e; exact ni_ne hc h.bx box_ni rfl) _
  exact ⟨h.below.setCell (p := ⟨X, 7, none⟩) h.hB _, h.hB, h.hL, by rw [World.size_setCell]; exact h.le, heap_setCell_same _ X 7 _ _ (.int .i64 x) h.bx, ⟨ho h.r4.st, ho h.r4.re, ho h.r4.ma, ho h.r4.mo, h.r4.a1, h.r4.a2, h.r4.a3, h.r4.a4, h.r4.a5, h.r4.a6⟩,
    fun y hy => ⟨(Below.heap_setCell _ _ _ y.1 (h.ex y hy).2.1).trans (h.ex y hy).1, (h.ex y hy).2⟩⟩
theorem MR.set_i {p : Pl} {B Lo X : Nat} {E : List (Nat × Obj)} {w wr : World} (h : MR p B Lo X E w wr) (x : Int) : MR ⟨p.k, p.t, p.l, p.st, p.re, p.ma, p.mo, p.g, x, p.o⟩ B Lo X E w (wr.setCell ⟨X, 8, none⟩ (.int .i64 x)) := by
  have ho : ∀ {v : Value} {m : Nat} {Y : Nat → Int}, RowI wr Lo v m Y → RowI (wr.setCell ⟨X, 8, none⟩ (.int .i64 x)) Lo v m Y := fun h1 => row_other (a := ⟨X, 8, none⟩) h1 (fun e => by obtain ⟨cs, hc⟩ := own_kind h1 e; exact ni_ne hc h.bx box_ni rfl) _
  exact ⟨h.below.setCell (p := ⟨X, 8, none⟩) h.hB _, h.hB, h.hL, by rw [World.size_setCell]; exact h.le, heap_setCell_same _ X 8 _ _ (.int .i64 x) h.bx, ⟨ho h.r4.st, ho h.r4.re, ho h.r4.ma, ho h.r4.mo, h.r4.a1, h.r4.a2, h.r4.a3, h.r4.a4, h.r4.a5, h.r4.a6⟩,
    fun y hy => ⟨(Below.heap_setCell _ _ _ y.1 (h.ex y hy).2.1).trans (h.ex y hy).1, (h.ex y hy).2⟩⟩
theorem MR.set_o {p : Pl} {B Lo X : Nat} {E : List (Nat × Obj)} {w wr : World} (h : MR p B Lo X E w wr) (x : Bool) : MR ⟨p.k, p.t, p.l, p.st, p.re, p.ma, p.mo, p.g, p.i, x⟩ B Lo X E w (wr.setCell ⟨X, 9, none⟩ (.bool x)) := by
  have ho : ∀ {v : Value} {m : Nat} {Y : Nat → Int}, RowI wr Lo v m Y → RowI (wr.setCell ⟨X, 9, none⟩ (.bool x)) Lo v m Y := fun h1 => row_other (a := ⟨X, 9, none⟩) h1 (fun e => by obtain ⟨cs, hc⟩ := own_kind h1 e; exact ni_ne hc h.bx box_ni rfl) _
  exact ⟨h.below.setCell (p := ⟨X, 9, none⟩) h.hB _, h.hB, h.hL, by rw [World.size_setCell]; exact h.le, heap_setCell_same _ X 9 _ _ (.bool x) h.bx, ⟨ho h.r4.st, ho h.r4.re, ho h.r4.ma, ho h.r4.mo, h.r4.a1, h.r4.a2, h.r4.a3, h.r4.a4, h.r4.a5, h.r4.a6⟩,
    fun y hy => ⟨(Below.heap_setCell _ _ _ y.1 (h.ex y hy).2.1).trans (h.ex y hy).1, (h.ex y hy).2⟩⟩
/-- The plant is laid into the result's box. -/
theorem MR.out {p : Pl} {B Lo X Y : Nat} {E : List (Nat × Obj)} {w wr : World} (h : MR p B Lo X E w wr) (hY : (Y, zeroBox) ∈ E) (_hYL : True) :
    Below B w ((((((((((wr.setCell ⟨Y, 0, none⟩ (.int .i64 p.k)).setCell ⟨Y, 1, none⟩ (.int .i64 p.t)).setCell ⟨Y, 2, none⟩ (.int .i64 p.l)).setCell ⟨Y, 3, none⟩ (.slice p.st.a p.st.n p.st.c)).setCell ⟨Y, 4, none⟩ (.slice p.re.a p.re.n p.re.c)).setCell ⟨Y, 5, none⟩ (.slice p.ma.a p.ma.n p.ma.c)).setCell ⟨Y, 6, none⟩ (.slice p.mo.a p.mo.n p.mo.c)).setCell ⟨Y, 7, none⟩ (.int .i64 p.g)).setCell ⟨Y, 8, none⟩ (.int .i64 p.i)).setCell ⟨Y, 9, none⟩ (.bool p.o)) ∧ ((((((((((wr.setCell ⟨Y, 0, none⟩ (.int .i64 p.k)).setCell ⟨Y, 1, none⟩ (.int .i64 p.t)).setCell ⟨Y, 2, none⟩ (.int .i64 p.l)).setCell ⟨Y, 3, none⟩ (.slice p.st.a p.st.n p.st.c)).setCell ⟨Y, 4, none⟩ (.slice p.re.a p.re.n p.re.c)).setCell ⟨Y, 5, none⟩ (.slice p.ma.a p.ma.n p.ma.c)).setCell ⟨Y, 6, none⟩ (.slice p.mo.a p.mo.n p.mo.c)).setCell ⟨Y, 7, none⟩ (.int .i64 p.g)).setCell ⟨Y, 8, none⟩ (.int .i64 p.i)).setCell ⟨Y, 9, none⟩ (.bool p.o)).heap[Y]? = some (boxOf p) ∧ R4 ((((((((((wr.setCell ⟨Y, 0, none⟩ (.int .i64 p.k)).setCell ⟨Y, 1, none⟩ (.int .i64 p.t)).setCell ⟨Y, 2, none⟩ (.int .i64 p.l)).setCell ⟨Y, 3, none⟩ (.slice p.st.a p.st.n p.st.c)).setCell ⟨Y, 4, none⟩ (.slice p.re.a p.re.n p.re.c)).setCell ⟨Y, 5, none⟩ (.slice p.ma.a p.ma.n p.ma.c)).setCell ⟨Y, 6, none⟩ (.slice p.mo.a p.mo.n p.mo.c)).setCell ⟨Y, 7, none⟩ (.int .i64 p.g)).setCell ⟨Y, 8, none⟩ (.int .i64 p.i)).setCell ⟨Y, 9, none⟩ (.bool p.o)) B p := by
  obtain ⟨h1, _, h3, h4⟩ := h.ex _ hY
  have ho : ∀ {v : Value} {m : Nat} {Z : Nat → Int}, RowI wr Lo v m Z → RowI ((((((((((wr.setCell ⟨Y, 0, none⟩ (.int .i64 p.k)).setCell ⟨Y, 1, none⟩ (.int .i64 p.t)).setCell ⟨Y, 2, none⟩ (.int .i64 p.l)).setCell ⟨Y, 3, none⟩ (.slice p.st.a p.st.n p.st.c)).setCell ⟨Y, 4, none⟩ (.slice p.re.a p.re.n p.re.c)).setCell ⟨Y, 5, none⟩ (.slice p.ma.a p.ma.n p.ma.c)).setCell ⟨Y, 6, none⟩ (.slice p.mo.a p.mo.n p.mo.c)).setCell ⟨Y, 7, none⟩ (.int .i64 p.g)).setCell ⟨Y, 8, none⟩ (.int .i64 p.i)).setCell ⟨Y, 9, none⟩ (.bool p.o)) Lo v m Z := fun h1 => set10_row h1 (fun e => by obtain ⟨cs, hc⟩ := own_kind h1 e; exact ni_ne hc (h.ex _ hY).1 h4 rfl) (.int .i64 p.k) (.int .i64 p.t) (.int .i64 p.l) (.slice p.st.a p.st.n p.st.c) (.slice p.re.a p.re.n p.re.c) (.slice p.ma.a p.ma.n p.ma.c) (.slice p.mo.a p.mo.n p.mo.c) (.int .i64 p.g) (.int .i64 p.i) (.bool p.o)
  exact ⟨set10_below h.below h3 (.int .i64 p.k) (.int .i64 p.t) (.int .i64 p.l) (.slice p.st.a p.st.n p.st.c) (.slice p.re.a p.re.n p.re.c) (.slice p.ma.a p.ma.n p.ma.c) (.slice p.mo.a p.mo.n p.mo.c) (.int .i64 p.g) (.int .i64 p.i) (.bool p.o), set10 h1 (.int .i64 p.k) (.int .i64 p.t) (.int .i64 p.l) (.slice p.st.a p.st.n p.st.c) (.slice p.re.a p.re.n p.re.c) (.slice p.ma.a p.ma.n p.ma.c) (.slice p.mo.a p.mo.n p.mo.c) (.int .i64 p.g) (.int .i64 p.i) (.bool p.o), R4.mono ⟨ho h.r4.st, ho h.r4.re, ho h.r4.ma, ho h.r4.mo, h.r4.a1, h.r4.a2, h.r4.a3, h.r4.a4, h.r4.a5, h.r4.a6⟩ h.hL⟩
/-- The reference's copy in a box of its own. -/
theorem PZ.fresh {p0 p : Pl} {B N : Nat} {w wr : World} (h : PZ p0 B w wr) (hr : R4 wr N p) (hN : B + 2 ≤ N) : MR p B (B + 2) wr.heap.size [(B, boxOf p0), (B + 1, zeroBox)] w (wr.alloc (boxOf p)) := by
  have hb : Below wr.heap.size wr (wr.alloc (boxOf p)) := (Below.refl _ _).alloc (Nat.le_refl _) _
  have h' := h.stays hb
  have hle := h.le
  refine ⟨h'.below, by omega, by omega, h'.le, heap_new _ _, (hr.mono hN).stays hb, fun x hx => ?_⟩
  simp only [List.mem_cons, List.not_mem_nil, or_false] at hx
  rcases hx with rfl | rfl
  · exact ⟨h'.bx, by show B ≠ _; omega, Nat.le_refl _, box_ni⟩
  · exact ⟨h'.br, by show B + 1 ≠ _; omega, by show B ≤ B + 1; omega, by show 25 ≠ 3; decide⟩

end Go.Proofs.Ytnhkblkijiipeaa
