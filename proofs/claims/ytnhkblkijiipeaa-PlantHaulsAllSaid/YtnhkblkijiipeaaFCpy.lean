/-
  Plants with lists of the call's own: the walks of copied and of the reference's again.
-/
import Derived.Test.YtnhkblkijiipeaaFRPlt
namespace Go.Proofs.Ytnhkblkijiipeaa
open Go.RowKit

theorem own_ne {w : World} {B : Nat} {e : TypeId} {size n : Nat} {v : Value} {xs : List Value} (h : w.ownsRow B e size v n xs) {a : Addr} (ha : a.block < B) : v.ownBlock ≠ some a.block := fun hk => by
  have := (h.lt _ hk).1; omega
theorem set10 {w : World} {g : Nat} {t : TypeId} {u0 u1 u2 u3 u4 u5 u6 u7 u8 u9 : Value} (h : w.heap[g]? = some (.cells #[u0, u1, u2, u3, u4, u5, u6, u7, u8, u9] t (0, 0))) (x0 x1 x2 x3 x4 x5 x6 x7 x8 x9 : Value) :
    ((((((((((w.setCell ⟨g, 0, none⟩ x0).setCell ⟨g, 1, none⟩ x1).setCell ⟨g, 2, none⟩ x2).setCell ⟨g, 3, none⟩ x3).setCell ⟨g, 4, none⟩ x4).setCell ⟨g, 5, none⟩ x5).setCell ⟨g, 6, none⟩ x6).setCell ⟨g, 7, none⟩ x7).setCell ⟨g, 8, none⟩ x8).setCell ⟨g, 9, none⟩ x9).heap[g]? = some (.cells #[x0, x1, x2, x3, x4, x5, x6, x7, x8, x9] t (0, 0)) := by
  have h : (w.setCell ⟨g, 0, none⟩ x0).heap[g]? = some (.cells #[x0, u1, u2, u3, u4, u5, u6, u7, u8, u9] t (0, 0)) := heap_setCell_same _ g 0 _ _ x0 h
  have h : ((w.setCell ⟨g, 0, none⟩ x0).setCell ⟨g, 1, none⟩ x1).heap[g]? = some (.cells #[x0, x1, u2, u3, u4, u5, u6, u7, u8, u9] t (0, 0)) := heap_setCell_same _ g 1 _ _ x1 h
  have h : (((w.setCell ⟨g, 0, none⟩ x0).setCell ⟨g, 1, none⟩ x1).setCell ⟨g, 2, none⟩ x2).heap[g]? = some (.cells #[x0, x1, x2, u3, u4, u5, u6, u7, u8, u9] t (0, 0)) := heap_setCell_same _ g 2 _ _ x2 h
  have h : ((((w.setCell ⟨g, 0, none⟩ x0).setCell ⟨g, 1, none⟩ x1).setCell ⟨g, 2, none⟩ x2).setCell ⟨g, 3, none⟩ x3).heap[g]? = some (.cells #[x0, x1, x2, x3, u4, u5, u6, u7, u8, u9] t (0, 0)) := heap_setCell_same _ g 3 _ _ x3 h
  have h : (((((w.setCell ⟨g, 0, none⟩ x0).setCell ⟨g, 1, none⟩ x1).setCell ⟨g, 2, none⟩ x2).setCell ⟨g, 3, none⟩ x3).setCell ⟨g, 4, none⟩ x4).heap[g]? = some (.cells #[x0, x1, x2, x3, x4, u5, u6, u7, u8, u9] t (0, 0)) := heap_setCell_same _ g 4 _ _ x4 h
  have h : ((((((w.setCell ⟨g, 0, none⟩ x0).setCell ⟨g, 1, none⟩ x1).setCell ⟨g, 2, none⟩ x2).setCell ⟨g, 3, none⟩ x3).setCell ⟨g, 4, none⟩ x4).setCell ⟨g, 5, none⟩ x5).heap[g]? = some (.cells #[x0, x1, x2, x3, x4, x5, u6, u7, u8, u9] t (0, 0)) := heap_setCell_same _ g 5 _ _ x5 h
  have h : (((((((w.setCell ⟨g, 0, none⟩ x0).setCell ⟨g, 1, none⟩ x1).setCell ⟨g, 2, none⟩ x2).setCell ⟨g, 3, none⟩ x3).setCell ⟨g, 4, none⟩ x4).setCell ⟨g, 5, none⟩ x5).setCell ⟨g, 6, none⟩ x6).heap[g]? = some (.cells #[x0, x1, x2, x3, x4, x5, x6, u7, u8, u9] t (0, 0)) := heap_setCell_same _ g 6 _ _ x6 h
  have h : ((((((((w.setCell ⟨g, 0, none⟩ x0).setCell ⟨g, 1, none⟩ x1).setCell ⟨g, 2, none⟩ x2).setCell ⟨g, 3, none⟩ x3).setCell ⟨g, 4, none⟩ x4).setCell ⟨g, 5, none⟩ x5).setCell ⟨g, 6, none⟩ x6).setCell ⟨g, 7, none⟩ x7).heap[g]? = some (.cells #[x0, x1, x2, x3, x4, x5, x6, x7, u8, u9] t (0, 0)) := heap_setCell_same _ g 7 _ _ x7 h
  have h : (((((((((w.setCell ⟨g, 0, none⟩ x0).setCell ⟨g, 1, none⟩ x1).setCell ⟨g, 2, none⟩ x2).setCell ⟨g, 3, none⟩ x3).setCell ⟨g, 4, none⟩ x4).setCell ⟨g, 5, none⟩ x5).setCell ⟨g, 6, none⟩ x6).setCell ⟨g, 7, none⟩ x7).setCell ⟨g, 8, none⟩ x8).heap[g]? = some (.cells #[x0, x1, x2, x3, x4, x5, x6, x7, x8, u9] t (0, 0)) := heap_setCell_same _ g 8 _ _ x8 h
  have h : ((((((((((w.setCell ⟨g, 0, none⟩ x0).setCell ⟨g, 1, none⟩ x1).setCell ⟨g, 2, none⟩ x2).setCell ⟨g, 3, none⟩ x3).setCell ⟨g, 4, none⟩ x4).setCell ⟨g, 5, none⟩ x5).setCell ⟨g, 6, none⟩ x6).setCell ⟨g, 7, none⟩ x7).setCell ⟨g, 8, none⟩ x8).setCell ⟨g, 9, none⟩ x9).heap[g]? = some (.cells #[x0, x1, x2, x3, x4, x5, x6, x7, x8, x9] t (0, 0)) := heap_setCell_same _ g 9 _ _ x9 h
  exact h
theorem set10_other {w : World} {g k : Nat} (x0 x1 x2 x3 x4 x5 x6 x7 x8 x9 : Value) (h : k ≠ g) : ((((((((((w.setCell ⟨g, 0, none⟩ x0).setCell ⟨g, 1, none⟩ x1).setCell ⟨g, 2, none⟩ x2).setCell ⟨g, 3, none⟩ x3).setCell ⟨g, 4, none⟩ x4).setCell ⟨g, 5, none⟩ x5).setCell ⟨g, 6, none⟩ x6).setCell ⟨g, 7, none⟩ x7).setCell ⟨g, 8, none⟩ x8).setCell ⟨g, 9, none⟩ x9).heap[k]? = w.heap[k]? := ((Below.heap_setCell _ _ _ k h).trans ((Below.heap_setCell _ _ _ k h).trans ((Below.heap_setCell _ _ _ k h).trans ((Below.heap_setCell _ _ _ k h).trans ((Below.heap_setCell _ _ _ k h).trans ((Below.heap_setCell _ _ _ k h).trans ((Below.heap_setCell _ _ _ k h).trans ((Below.heap_setCell _ _ _ k h).trans ((Below.heap_setCell _ _ _ k h).trans (Below.heap_setCell _ _ _ k h))))))))))
theorem set10_below {w0 w : World} {B g : Nat} (h : Below B w0 w) (hg : B ≤ g) (x0 x1 x2 x3 x4 x5 x6 x7 x8 x9 : Value) : Below B w0 ((((((((((w.setCell ⟨g, 0, none⟩ x0).setCell ⟨g, 1, none⟩ x1).setCell ⟨g, 2, none⟩ x2).setCell ⟨g, 3, none⟩ x3).setCell ⟨g, 4, none⟩ x4).setCell ⟨g, 5, none⟩ x5).setCell ⟨g, 6, none⟩ x6).setCell ⟨g, 7, none⟩ x7).setCell ⟨g, 8, none⟩ x8).setCell ⟨g, 9, none⟩ x9) := ((((((((((h.setCell (p := ⟨g, 0, none⟩) hg x0).setCell (p := ⟨g, 1, none⟩) hg x1).setCell (p := ⟨g, 2, none⟩) hg x2).setCell (p := ⟨g, 3, none⟩) hg x3).setCell (p := ⟨g, 4, none⟩) hg x4).setCell (p := ⟨g, 5, none⟩) hg x5).setCell (p := ⟨g, 6, none⟩) hg x6).setCell (p := ⟨g, 7, none⟩) hg x7).setCell (p := ⟨g, 8, none⟩) hg x8).setCell (p := ⟨g, 9, none⟩) hg x9)
theorem set10_row {w : World} {g B : Nat} {e : TypeId} {size n : Nat} {v : Value} {xs : List Value} (h : w.ownsRow B e size v n xs) (hv : v.ownBlock ≠ some g) (x0 x1 x2 x3 x4 x5 x6 x7 x8 x9 : Value) : World.ownsRow ((((((((((w.setCell ⟨g, 0, none⟩ x0).setCell ⟨g, 1, none⟩ x1).setCell ⟨g, 2, none⟩ x2).setCell ⟨g, 3, none⟩ x3).setCell ⟨g, 4, none⟩ x4).setCell ⟨g, 5, none⟩ x5).setCell ⟨g, 6, none⟩ x6).setCell ⟨g, 7, none⟩ x7).setCell ⟨g, 8, none⟩ x8).setCell ⟨g, 9, none⟩ x9) B e size v n xs := (row_other (a := ⟨g, 9, none⟩) (row_other (a := ⟨g, 8, none⟩) (row_other (a := ⟨g, 7, none⟩) (row_other (a := ⟨g, 6, none⟩) (row_other (a := ⟨g, 5, none⟩) (row_other (a := ⟨g, 4, none⟩) (row_other (a := ⟨g, 3, none⟩) (row_other (a := ⟨g, 2, none⟩) (row_other (a := ⟨g, 1, none⟩) (row_other (a := ⟨g, 0, none⟩) h hv x0) hv x1) hv x2) hv x3) hv x4) hv x5) hv x6) hv x7) hv x8) hv x9)
theorem set10_size {w : World} {g : Nat} (x0 x1 x2 x3 x4 x5 x6 x7 x8 x9 : Value) : ((((((((((w.setCell ⟨g, 0, none⟩ x0).setCell ⟨g, 1, none⟩ x1).setCell ⟨g, 2, none⟩ x2).setCell ⟨g, 3, none⟩ x3).setCell ⟨g, 4, none⟩ x4).setCell ⟨g, 5, none⟩ x5).setCell ⟨g, 6, none⟩ x6).setCell ⟨g, 7, none⟩ x7).setCell ⟨g, 8, none⟩ x8).setCell ⟨g, 9, none⟩ x9).heap.size = w.heap.size := by simp
/-- Two lists apart. -/
def Ap (a b : Value) : Prop := ∀ g, a.ownBlock = some g → b.ownBlock ≠ some g
abbrev RV := Value × Nat × (Nat → Int)
/-- What lies in memory while lists are copied: the box at B, the result's box behind it, the lists that are made. -/
structure CS (B : Nat) (cs : Array Value) (rows : List RV) (w wr : World) : Prop where
  below : Below B w wr
  le : B + 2 ≤ wr.heap.size
  bx : wr.heap[B]? = some (.cells cs 25 (0, 0))
  br : wr.heap[B + 1]? = some (.cells #[.int .i64 0, .int .i64 0, .int .i64 0, .slice none 0 0, .slice none 0 0, .slice none 0 0, .slice none 0 0, .int .i64 0, .int .i64 0, .bool false] 25 (0, 0))
  rw : ∀ r ∈ rows, RowI wr (B + 2) r.1 r.2.1 r.2.2
  ap : rows.Pairwise (fun a b => Ap a.1 b.1)
theorem CS.start (w : World) (cs : Array Value) : CS w.heap.size cs [] w ((w.alloc (.cells cs 25)).alloc (.cells #[.int .i64 0, .int .i64 0, .int .i64 0, .slice none 0 0, .slice none 0 0, .slice none 0 0, .slice none 0 0, .int .i64 0, .int .i64 0, .bool false] 25)) :=
  ⟨Joins.below_alloc2 _ _ _, by rw [World.size_alloc, World.size_alloc]; omega, (Below.heap_alloc _ _ _ (by simp)).trans (heap_new _ _), by have := heap_new (w.alloc (.cells cs 25)) (.cells #[.int .i64 0, .int .i64 0, .int .i64 0, .slice none 0 0, .slice none 0 0, .slice none 0 0, .slice none 0 0, .int .i64 0, .int .i64 0, .bool false] 25); rwa [World.size_alloc] at this, fun r hr => (by cases hr), List.Pairwise.nil⟩
theorem CS.mid {B : Nat} {cs : Array Value} {rows : List RV} {w wr w2 : World} (h : CS B cs rows w wr) (hb : Below wr.heap.size wr w2) : w2.heap[B]? = some (.cells cs 25 (0, 0)) :=
  (hb.block _ (heap_lt h.bx)).trans h.bx
theorem CS.add {B : Nat} {cs cs' : Array Value} {rows : List RV} {w wr w2 : World} {v : Value} {n j : Nat} {Z : Nat → Int} (h : CS B cs rows w wr) (hr : RowI w2 wr.heap.size v n Z) (hb : Below wr.heap.size wr w2)
    (hcs : (w2.setCell ⟨B, j, none⟩ v).heap[B]? = some (.cells cs' 25 (0, 0))) : CS B cs' (rows ++ [(v, n, Z)]) w (w2.setCell ⟨B, j, none⟩ v) := by
  have hle := h.le
  have hs := hb.size
  refine ⟨(h.below.trans (hb.mono (by omega))).setCell (p := ⟨B, j, none⟩) (Nat.le_refl _) v, by rw [World.size_setCell]; omega, hcs, ?_, ?_, ?_⟩
  · exact (Below.heap_setCell _ _ _ (B + 1) (by show B + 1 ≠ B; omega)).trans ((hb.block _ (heap_lt h.br)).trans h.br)
  · intro r hr'
    rcases List.mem_append.1 hr' with hr' | hr'
    · have h1 := h.rw r hr'
      exact row_other (row_stays h1 hb) (own_ne (row_stays h1 hb) (a := ⟨B, j, none⟩) (by show B < B + 2; omega)) v
    · simp only [List.mem_singleton] at hr'
      subst hr'
      exact row_other (row_mono hr hle) (own_ne hr (a := ⟨B, j, none⟩) (by show B < _; omega)) v
  · rw [List.pairwise_append]
    refine ⟨h.ap, List.pairwise_singleton _ _, fun x hx y hy => ?_⟩
    simp only [List.mem_singleton] at hy
    subst hy
    intro g hg hg2
    have h1 := (h.rw x hx).lt g hg
    have h2 := hr.lt g hg2
    omega
/-- The four lists of a plant are the call's own, and lie apart. -/
structure R4 (w : World) (B : Nat) (p : Pl) : Prop where
  st : RowI w B (lv p.st) p.st.n p.st.Z
  re : RowI w B (lv p.re) p.re.n p.re.Z
  ma : RowI w B (lv p.ma) p.ma.n p.ma.Z
  mo : RowI w B (lv p.mo) p.mo.n p.mo.Z
  a1 : Ap (lv p.st) (lv p.re)
  a2 : Ap (lv p.st) (lv p.ma)
  a3 : Ap (lv p.st) (lv p.mo)
  a4 : Ap (lv p.re) (lv p.ma)
  a5 : Ap (lv p.re) (lv p.mo)
  a6 : Ap (lv p.ma) (lv p.mo)
theorem R4.stays {w w' : World} {B : Nat} {p : Pl} (h : R4 w B p) (hb : Below w.heap.size w w') : R4 w' B p :=
  ⟨row_stays h.st hb, row_stays h.re hb, row_stays h.ma hb, row_stays h.mo hb, h.a1, h.a2, h.a3, h.a4, h.a5, h.a6⟩
theorem R4.mono {w : World} {B B' : Nat} {p : Pl} (h : R4 w B p) (hb : B' ≤ B) : R4 w B' p :=
  ⟨row_mono h.st hb, row_mono h.re hb, row_mono h.ma hb, row_mono h.mo hb, h.a1, h.a2, h.a3, h.a4, h.a5, h.a6⟩
theorem R4.at {w : World} {B : Nat} {p : Pl} (h : R4 w B p) : PlAt w p := ⟨RowI.ints h.st, RowI.ints h.re, RowI.ints h.ma, RowI.ints h.mo⟩
/-- A plant with other lists that say the same. -/
def own4 (p : Pl) (a1 a2 a3 a4 : Option Addr) (c1 c2 c3 c4 : Nat) : Pl := ⟨p.k, p.t, p.l, ⟨a1, p.st.n, c1, p.st.Z⟩, ⟨a2, p.re.n, c2, p.re.Z⟩, ⟨a3, p.ma.n, c3, p.ma.Z⟩, ⟨a4, p.mo.n, c4, p.mo.Z⟩, p.g, p.i, p.o⟩
/-- What a copy of a plant leaves. -/
def CpPost (p : Pl) (w : World) (e : Ending) (w' : World) : Prop := ∃ a1 a2 a3 a4 c1 c2 c3 c4, e = .returned (pv (own4 p a1 a2 a3 a4 c1 c2 c3 c4)) ∧ R4 w' w.heap.size (own4 p a1 a2 a3 a4 c1 c2 c3 c4) ∧ Below w.heap.size w w'
set_option maxRecDepth 100000 in
set_option maxHeartbeats 12800000 in
theorem copied_any (p : Pl) (hs : SmallP p) (w : World) (h : PlAt w p) : Calls Try.prog 39 #[pv p] w (CpPost p w) := by
  have HP := hid (fun (e : Ending) (w' : World) (h : CpPost p w e w') => h)
  unfold CpPost
  obtain ⟨pk, t, l, ⟨sa, sn, sc, sZ⟩, ⟨ra, rn, rc, rZ⟩, ⟨ma, mn, mc, mZ⟩, ⟨va, vn, vc, vZ⟩, g, d, o⟩ := p
  show Calls _ _ #[.agg #[.int .i64 pk, .int .i64 t, .int .i64 l, .slice sa sn sc, .slice ra rn rc, .slice ma mn mc, .slice va vn vc, .int .i64 g, .int .i64 d, .bool o]] w _
  have H0 := hid (CS.start w #[.int .i64 pk, .int .i64 t, .int .i64 l, .slice sa sn sc, .slice ra rn rc, .slice ma mn mc, .slice va vn vc, .int .i64 g, .int .i64 d, .bool o])
  have HSP := hid hs
  have HIN := hid (fun W (hb : Below w.heap.size w W) => h.stays hb)
  clear HP hs h
  obtain ⟨B, hB⟩ : ∃ B, w.heap.size = B := ⟨_, rfl⟩
  have HBW := hid hB
  rw [hB] at H0 HIN ⊢
  have HC3 := hid (fun W h => copyof_any sa sn sc sZ HSP.out.st W h)
  have HC4 := hid (fun W h => copyof_any ra rn rc rZ HSP.out.re W h)
  have HC5 := hid (fun W h => copyof_any ma mn mc mZ HSP.out.ma W h)
  have HC6 := hid (fun W h => copyof_any va vn vc vZ HSP.out.mo W h)
  go_enter Try.func39, Try.ntmps39
  go_upto_region 1 with fail
  clear hB
  generalize World.alloc (World.alloc w _) _ = w1 at H0 ⊢
  have b : w1.cell? ⟨B, 3, none⟩ = some (.slice sa sn sc) := cell_of_row _ B 3 _ _ _ H0.out.bx
  go_upto_region 2 with (go_at_call 62; refine (HC3.out _ ((HIN.out _ H0.out.below).st)).mono ?_; rintro e w' ⟨g1, rfl, hr, hb⟩; clear b; have fb : World.frozen? _ ⟨B, 3, none⟩ = false := frozen_of_row _ B 3 _ _ (H0.out.mid hb); have b : World.cell? _ ⟨B, 3, none⟩ = some (.slice sa sn sc) := cell_of_row _ B 3 _ _ _ (H0.out.mid hb))
  have H1 := hid (H0.out.add (j := 3) hr hb (heap_setCell_same _ B 3 _ _ (.slice (some ⟨g1, 0, none⟩) sn sn) (H0.out.mid hb)))
  clear b fb hr hb
  generalize World.setCell w' _ _ = w2 at H1 ⊢
  clear H0
  have b : w2.cell? ⟨B, 4, none⟩ = some (.slice ra rn rc) := cell_of_row _ B 4 _ _ _ H1.out.bx
  go_upto_region 3 with (go_at_call 62; refine (HC4.out _ ((HIN.out _ H1.out.below).re)).mono ?_; rintro e w' ⟨g2, rfl, hr, hb⟩; clear b; have fb : World.frozen? _ ⟨B, 4, none⟩ = false := frozen_of_row _ B 4 _ _ (H1.out.mid hb); have b : World.cell? _ ⟨B, 4, none⟩ = some (.slice ra rn rc) := cell_of_row _ B 4 _ _ _ (H1.out.mid hb))
  have H2 := hid (H1.out.add (j := 4) hr hb (heap_setCell_same _ B 4 _ _ (.slice (some ⟨g2, 0, none⟩) rn rn) (H1.out.mid hb)))
  clear b fb hr hb
  generalize World.setCell w' _ _ = w3 at H2 ⊢
  clear H1
  have b : w3.cell? ⟨B, 5, none⟩ = some (.slice ma mn mc) := cell_of_row _ B 5 _ _ _ H2.out.bx
  go_upto_region 4 with (go_at_call 62; refine (HC5.out _ ((HIN.out _ H2.out.below).ma)).mono ?_; rintro e w' ⟨g3, rfl, hr, hb⟩; clear b; have fb : World.frozen? _ ⟨B, 5, none⟩ = false := frozen_of_row _ B 5 _ _ (H2.out.mid hb); have b : World.cell? _ ⟨B, 5, none⟩ = some (.slice ma mn mc) := cell_of_row _ B 5 _ _ _ (H2.out.mid hb))
  have H3 := hid (H2.out.add (j := 5) hr hb (heap_setCell_same _ B 5 _ _ (.slice (some ⟨g3, 0, none⟩) mn mn) (H2.out.mid hb)))
  clear b fb hr hb
  generalize World.setCell w' _ _ = w4 at H3 ⊢
  clear H2
  have b : w4.cell? ⟨B, 6, none⟩ = some (.slice va vn vc) := cell_of_row _ B 6 _ _ _ H3.out.bx
  go_upto_region 5 with (go_at_call 62; refine (HC6.out _ ((HIN.out _ H3.out.below).mo)).mono ?_; rintro e w' ⟨g4, rfl, hr, hb⟩; clear b; have fb : World.frozen? _ ⟨B, 6, none⟩ = false := frozen_of_row _ B 6 _ _ (H3.out.mid hb); have b : World.cell? _ ⟨B, 6, none⟩ = some (.slice va vn vc) := cell_of_row _ B 6 _ _ _ (H3.out.mid hb))
  have H4 := hid (H3.out.add (j := 6) hr hb (heap_setCell_same _ B 6 _ _ (.slice (some ⟨g4, 0, none⟩) vn vn) (H3.out.mid hb)))
  clear b fb hr hb
  generalize World.setCell w' _ _ = w5 at H4 ⊢
  clear H3
  have b0 : w5.cell? ⟨B, 0, none⟩ = some (.int .i64 pk) := cell_of_row _ B 0 _ _ _ H4.out.bx
  have b1 : w5.cell? ⟨B, 1, none⟩ = some (.int .i64 t) := cell_of_row _ B 1 _ _ _ H4.out.bx
  have b2 : w5.cell? ⟨B, 2, none⟩ = some (.int .i64 l) := cell_of_row _ B 2 _ _ _ H4.out.bx
  have b3 : w5.cell? ⟨B, 3, none⟩ = some (.slice (some ⟨g1, 0, none⟩) sn sn) := cell_of_row _ B 3 _ _ _ H4.out.bx
  have b4 : w5.cell? ⟨B, 4, none⟩ = some (.slice (some ⟨g2, 0, none⟩) rn rn) := cell_of_row _ B 4 _ _ _ H4.out.bx
  have b5 : w5.cell? ⟨B, 5, none⟩ = some (.slice (some ⟨g3, 0, none⟩) mn mn) := cell_of_row _ B 5 _ _ _ H4.out.bx
  have b6 : w5.cell? ⟨B, 6, none⟩ = some (.slice (some ⟨g4, 0, none⟩) vn vn) := cell_of_row _ B 6 _ _ _ H4.out.bx
  have b7 : w5.cell? ⟨B, 7, none⟩ = some (.int .i64 g) := cell_of_row _ B 7 _ _ _ H4.out.bx
  have b8 : w5.cell? ⟨B, 8, none⟩ = some (.int .i64 d) := cell_of_row _ B 8 _ _ _ H4.out.bx
  have b9 : w5.cell? ⟨B, 9, none⟩ = some (.bool o) := cell_of_row _ B 9 _ _ _ H4.out.bx
  have r0 : w5.cell? ⟨B + 1, 0, none⟩ = some (.int .i64 0) := cell_of_row _ (B + 1) 0 _ _ _ H4.out.br
  have r1 : w5.cell? ⟨B + 1, 1, none⟩ = some (.int .i64 0) := cell_of_row _ (B + 1) 1 _ _ _ H4.out.br
  have r2 : w5.cell? ⟨B + 1, 2, none⟩ = some (.int .i64 0) := cell_of_row _ (B + 1) 2 _ _ _ H4.out.br
  have r3 : w5.cell? ⟨B + 1, 3, none⟩ = some (.slice none 0 0) := cell_of_row _ (B + 1) 3 _ _ _ H4.out.br
  have r4 : w5.cell? ⟨B + 1, 4, none⟩ = some (.slice none 0 0) := cell_of_row _ (B + 1) 4 _ _ _ H4.out.br
  have r5 : w5.cell? ⟨B + 1, 5, none⟩ = some (.slice none 0 0) := cell_of_row _ (B + 1) 5 _ _ _ H4.out.br
  have r6 : w5.cell? ⟨B + 1, 6, none⟩ = some (.slice none 0 0) := cell_of_row _ (B + 1) 6 _ _ _ H4.out.br
  have r7 : w5.cell? ⟨B + 1, 7, none⟩ = some (.int .i64 0) := cell_of_row _ (B + 1) 7 _ _ _ H4.out.br
  have r8 : w5.cell? ⟨B + 1, 8, none⟩ = some (.int .i64 0) := cell_of_row _ (B + 1) 8 _ _ _ H4.out.br
  have r9 : w5.cell? ⟨B + 1, 9, none⟩ = some (.bool false) := cell_of_row _ (B + 1) 9 _ _ _ H4.out.br
  have fz : ∀ j, w5.frozen? ⟨B + 1, j, none⟩ = false := fun j => frozen_of_row _ (B + 1) j _ _ H4.out.br
  go_wp2_with fail
  have k1 := set10 H4.out.br (.int .i64 pk) (.int .i64 t) (.int .i64 l) (.slice (some ⟨g1, 0, none⟩) sn sn) (.slice (some ⟨g2, 0, none⟩) rn rn) (.slice (some ⟨g3, 0, none⟩) mn mn) (.slice (some ⟨g4, 0, none⟩) vn vn) (.int .i64 g) (.int .i64 d) (.bool o)
  have k2 := set10_below (g := B + 1) H4.out.below (Nat.le_succ _) (.int .i64 pk) (.int .i64 t) (.int .i64 l) (.slice (some ⟨g1, 0, none⟩) sn sn) (.slice (some ⟨g2, 0, none⟩) rn rn) (.slice (some ⟨g3, 0, none⟩) mn mn) (.slice (some ⟨g4, 0, none⟩) vn vn) (.int .i64 g) (.int .i64 d) (.bool o)
  have HR := H4.out.rw
  have HA := H4.out.ap
  simp only [List.nil_append, List.cons_append, List.mem_cons, List.not_mem_nil, or_false, forall_eq_or_imp, forall_eq] at HR
  simp only [List.nil_append, List.cons_append, List.pairwise_cons, List.mem_cons, List.not_mem_nil, or_false, forall_eq_or_imp, forall_eq] at HA
  obtain ⟨h1, h2, h3, h4⟩ := HR
  have h1 := set10_row (g := B + 1) h1 (own_ne h1 (a := ⟨B + 1, 0, none⟩) (by show B + 1 < B + 2; omega)) (.int .i64 pk) (.int .i64 t) (.int .i64 l) (.slice (some ⟨g1, 0, none⟩) sn sn) (.slice (some ⟨g2, 0, none⟩) rn rn) (.slice (some ⟨g3, 0, none⟩) mn mn) (.slice (some ⟨g4, 0, none⟩) vn vn) (.int .i64 g) (.int .i64 d) (.bool o)
  have h2 := set10_row (g := B + 1) h2 (own_ne h2 (a := ⟨B + 1, 0, none⟩) (by show B + 1 < B + 2; omega)) (.int .i64 pk) (.int .i64 t) (.int .i64 l) (.slice (some ⟨g1, 0, none⟩) sn sn) (.slice (some ⟨g2, 0, none⟩) rn rn) (.slice (some ⟨g3, 0, none⟩) mn mn) (.slice (some ⟨g4, 0, none⟩) vn vn) (.int .i64 g) (.int .i64 d) (.bool o)
  have h3 := set10_row (g := B + 1) h3 (own_ne h3 (a := ⟨B + 1, 0, none⟩) (by show B + 1 < B + 2; omega)) (.int .i64 pk) (.int .i64 t) (.int .i64 l) (.slice (some ⟨g1, 0, none⟩) sn sn) (.slice (some ⟨g2, 0, none⟩) rn rn) (.slice (some ⟨g3, 0, none⟩) mn mn) (.slice (some ⟨g4, 0, none⟩) vn vn) (.int .i64 g) (.int .i64 d) (.bool o)
  have h4 := set10_row (g := B + 1) h4 (own_ne h4 (a := ⟨B + 1, 0, none⟩) (by show B + 1 < B + 2; omega)) (.int .i64 pk) (.int .i64 t) (.int .i64 l) (.slice (some ⟨g1, 0, none⟩) sn sn) (.slice (some ⟨g2, 0, none⟩) rn rn) (.slice (some ⟨g3, 0, none⟩) mn mn) (.slice (some ⟨g4, 0, none⟩) vn vn) (.int .i64 g) (.int .i64 d) (.bool o)
  clear b0 r0 b1 r1 b2 r2 b3 r3 b4 r4 b5 r5 b6 r6 b7 r7 b8 r8 b9 r9 fz H4
  generalize World.setCell (World.setCell _ _ _) _ _ = w6 at k1 k2 h1 h2 h3 h4 ⊢
  have q0 : w6.cell? ⟨B + 1, 0, none⟩ = some (.int .i64 pk) := cell_of_row _ (B + 1) 0 _ _ _ k1
  have q1 : w6.cell? ⟨B + 1, 1, none⟩ = some (.int .i64 t) := cell_of_row _ (B + 1) 1 _ _ _ k1
  have q2 : w6.cell? ⟨B + 1, 2, none⟩ = some (.int .i64 l) := cell_of_row _ (B + 1) 2 _ _ _ k1
  have q3 : w6.cell? ⟨B + 1, 3, none⟩ = some (.slice (some ⟨g1, 0, none⟩) sn sn) := cell_of_row _ (B + 1) 3 _ _ _ k1
  have q4 : w6.cell? ⟨B + 1, 4, none⟩ = some (.slice (some ⟨g2, 0, none⟩) rn rn) := cell_of_row _ (B + 1) 4 _ _ _ k1
  have q5 : w6.cell? ⟨B + 1, 5, none⟩ = some (.slice (some ⟨g3, 0, none⟩) mn mn) := cell_of_row _ (B + 1) 5 _ _ _ k1
  have q6 : w6.cell? ⟨B + 1, 6, none⟩ = some (.slice (some ⟨g4, 0, none⟩) vn vn) := cell_of_row _ (B + 1) 6 _ _ _ k1
  have q7 : w6.cell? ⟨B + 1, 7, none⟩ = some (.int .i64 g) := cell_of_row _ (B + 1) 7 _ _ _ k1
  have q8 : w6.cell? ⟨B + 1, 8, none⟩ = some (.int .i64 d) := cell_of_row _ (B + 1) 8 _ _ _ k1
  have q9 : w6.cell? ⟨B + 1, 9, none⟩ = some (.bool o) := cell_of_row _ (B + 1) 9 _ _ _ k1
  refine bodyPost_ret (v := .agg #[.int .i64 pk, .int .i64 t, .int .i64 l, .slice (some ⟨g1, 0, none⟩) sn sn, .slice (some ⟨g2, 0, none⟩) rn rn, .slice (some ⟨g3, 0, none⟩) mn mn, .slice (some ⟨g4, 0, none⟩) vn vn, .int .i64 g, .int .i64 d, .bool o]) (by simp [results, Try.results39, go_sem, q0, q1, q2, q3, q4, q5, q6, q7, q8, q9]) rfl ⟨some ⟨g1, 0, none⟩, some ⟨g2, 0, none⟩, some ⟨g3, 0, none⟩, some ⟨g4, 0, none⟩, sn, rn, mn, vn, rfl, ⟨row_mono h1 (by omega), row_mono h2 (by omega), row_mono h3 (by omega), row_mono h4 (by omega), HA.1.1, HA.1.2.1, HA.1.2.2, HA.2.1.1, HA.2.1.2, HA.2.2.1⟩, k2⟩
set_option maxRecDepth 100000 in
set_option maxHeartbeats 12800000 in
theorem again_any (p : Pl) (hs : SmallP p) (w : World) (h : PlAt w p) : Calls Try.prog 42 #[pv p] w (CpPost p w) := by
  have HP := hid (fun (e : Ending) (w' : World) (h : CpPost p w e w') => h)
  unfold CpPost
  obtain ⟨pk, t, l, ⟨sa, sn, sc, sZ⟩, ⟨ra, rn, rc, rZ⟩, ⟨ma, mn, mc, mZ⟩, ⟨va, vn, vc, vZ⟩, g, d, o⟩ := p
  show Calls _ _ #[.agg #[.int .i64 pk, .int .i64 t, .int .i64 l, .slice sa sn sc, .slice ra rn rc, .slice ma mn mc, .slice va vn vc, .int .i64 g, .int .i64 d, .bool o]] w _
  have H0 := hid (CS.start w #[.int .i64 pk, .int .i64 t, .int .i64 l, .slice sa sn sc, .slice ra rn rc, .slice ma mn mc, .slice va vn vc, .int .i64 g, .int .i64 d, .bool o])
  have HSP := hid hs
  have HIN := hid (fun W (hb : Below w.heap.size w W) => h.stays hb)
  clear HP hs h
  obtain ⟨B, hB⟩ : ∃ B, w.heap.size = B := ⟨_, rfl⟩
  have HBW := hid hB
  rw [hB] at H0 HIN ⊢
  go_enter Try.func42, Try.ntmps42
  go_upto_region 1 with fail
  clear hB
  generalize World.alloc (World.alloc w _) _ = w1 at H0 ⊢
  have b : w1.cell? ⟨B, 3, none⟩ = some (.slice sa sn sc) := cell_of_row _ B 3 _ _ _ H0.out.bx
  have HI := hid ((HIN.out _ H0.out.below).st)
  have hn : 0 + sn ≤ 1000000 := by have := HSP.out.st; dsimp only at this; omega
  go_upto_region 2 with (at_builtin; refine wpList_append_ints _ rfl _ _ rfl rfl w1.heap.size _ 0 (fun _ => 0) rfl (World.ownsRow_nil _ _ _ _) sa sn sc sZ rfl HI.out hn (Nat.le_refl _) ?_; intro v1 w' hr hb; have hr := RowI.congr (n := 0 + sn) hr (Y := sZ) (fun j hj => by simp); rw [Nat.zero_add] at hr; obtain ⟨a1, c1, rfl⟩ := row_slice hr; clear b; have fb : World.frozen? _ ⟨B, 3, none⟩ = false := frozen_of_row _ B 3 _ _ (H0.out.mid hb); have b : World.cell? _ ⟨B, 3, none⟩ = some (.slice sa sn sc) := cell_of_row _ B 3 _ _ _ (H0.out.mid hb))
  have H1 := hid (H0.out.add (j := 3) hr hb (heap_setCell_same _ B 3 _ _ (.slice a1 sn c1) (H0.out.mid hb)))
  clear b fb hr hb HI hn
  generalize World.setCell w' _ _ = w2 at H1 ⊢
  clear H0
  have b : w2.cell? ⟨B, 4, none⟩ = some (.slice ra rn rc) := cell_of_row _ B 4 _ _ _ H1.out.bx
  have HI := hid ((HIN.out _ H1.out.below).re)
  have hn : 0 + rn ≤ 1000000 := by have := HSP.out.re; dsimp only at this; omega
  go_upto_region 3 with (at_builtin; refine wpList_append_ints _ rfl _ _ rfl rfl w2.heap.size _ 0 (fun _ => 0) rfl (World.ownsRow_nil _ _ _ _) ra rn rc rZ rfl HI.out hn (Nat.le_refl _) ?_; intro v2 w' hr hb; have hr := RowI.congr (n := 0 + rn) hr (Y := rZ) (fun j hj => by simp); rw [Nat.zero_add] at hr; obtain ⟨a2, c2, rfl⟩ := row_slice hr; clear b; have fb : World.frozen? _ ⟨B, 4, none⟩ = false := frozen_of_row _ B 4 _ _ (H1.out.mid hb); have b : World.cell? _ ⟨B, 4, none⟩ = some (.slice ra rn rc) := cell_of_row _ B 4 _ _ _ (H1.out.mid hb))
  have H2 := hid (H1.out.add (j := 4) hr hb (heap_setCell_same _ B 4 _ _ (.slice a2 rn c2) (H1.out.mid hb)))
  clear b fb hr hb HI hn
  generalize World.setCell w' _ _ = w3 at H2 ⊢
  clear H1
  have b : w3.cell? ⟨B, 5, none⟩ = some (.slice ma mn mc) := cell_of_row _ B 5 _ _ _ H2.out.bx
  have HI := hid ((HIN.out _ H2.out.below).ma)
  have hn : 0 + mn ≤ 1000000 := by have := HSP.out.ma; dsimp only at this; omega
  go_upto_region 4 with (at_builtin; refine wpList_append_ints _ rfl _ _ rfl rfl w3.heap.size _ 0 (fun _ => 0) rfl (World.ownsRow_nil _ _ _ _) ma mn mc mZ rfl HI.out hn (Nat.le_refl _) ?_; intro v3 w' hr hb; have hr := RowI.congr (n := 0 + mn) hr (Y := mZ) (fun j hj => by simp); rw [Nat.zero_add] at hr; obtain ⟨a3, c3, rfl⟩ := row_slice hr; clear b; have fb : World.frozen? _ ⟨B, 5, none⟩ = false := frozen_of_row _ B 5 _ _ (H2.out.mid hb); have b : World.cell? _ ⟨B, 5, none⟩ = some (.slice ma mn mc) := cell_of_row _ B 5 _ _ _ (H2.out.mid hb))
  have H3 := hid (H2.out.add (j := 5) hr hb (heap_setCell_same _ B 5 _ _ (.slice a3 mn c3) (H2.out.mid hb)))
  clear b fb hr hb HI hn
  generalize World.setCell w' _ _ = w4 at H3 ⊢
  clear H2
  have b : w4.cell? ⟨B, 6, none⟩ = some (.slice va vn vc) := cell_of_row _ B 6 _ _ _ H3.out.bx
  have HI := hid ((HIN.out _ H3.out.below).mo)
  have hn : 0 + vn ≤ 1000000 := by have := HSP.out.mo; dsimp only at this; omega
  go_upto_region 5 with (at_builtin; refine wpList_append_ints _ rfl _ _ rfl rfl w4.heap.size _ 0 (fun _ => 0) rfl (World.ownsRow_nil _ _ _ _) va vn vc vZ rfl HI.out hn (Nat.le_refl _) ?_; intro v4 w' hr hb; have hr := RowI.congr (n := 0 + vn) hr (Y := vZ) (fun j hj => by simp); rw [Nat.zero_add] at hr; obtain ⟨a4, c4, rfl⟩ := row_slice hr; clear b; have fb : World.frozen? _ ⟨B, 6, none⟩ = false := frozen_of_row _ B 6 _ _ (H3.out.mid hb); have b : World.cell? _ ⟨B, 6, none⟩ = some (.slice va vn vc) := cell_of_row _ B 6 _ _ _ (H3.out.mid hb))
  have H4 := hid (H3.out.add (j := 6) hr hb (heap_setCell_same _ B 6 _ _ (.slice a4 vn c4) (H3.out.mid hb)))
  clear b fb hr hb HI hn
  generalize World.setCell w' _ _ = w5 at H4 ⊢
  clear H3
  have b0 : w5.cell? ⟨B, 0, none⟩ = some (.int .i64 pk) := cell_of_row _ B 0 _ _ _ H4.out.bx
  have b1 : w5.cell? ⟨B, 1, none⟩ = some (.int .i64 t) := cell_of_row _ B 1 _ _ _ H4.out.bx
  have b2 : w5.cell? ⟨B, 2, none⟩ = some (.int .i64 l) := cell_of_row _ B 2 _ _ _ H4.out.bx
  have b3 : w5.cell? ⟨B, 3, none⟩ = some (.slice a1 sn c1) := cell_of_row _ B 3 _ _ _ H4.out.bx
  have b4 : w5.cell? ⟨B, 4, none⟩ = some (.slice a2 rn c2) := cell_of_row _ B 4 _ _ _ H4.out.bx
  have b5 : w5.cell? ⟨B, 5, none⟩ = some (.slice a3 mn c3) := cell_of_row _ B 5 _ _ _ H4.out.bx
  have b6 : w5.cell? ⟨B, 6, none⟩ = some (.slice a4 vn c4) := cell_of_row _ B 6 _ _ _ H4.out.bx
  have b7 : w5.cell? ⟨B, 7, none⟩ = some (.int .i64 g) := cell_of_row _ B 7 _ _ _ H4.out.bx
  have b8 : w5.cell? ⟨B, 8, none⟩ = some (.int .i64 d) := cell_of_row _ B 8 _ _ _ H4.out.bx
  have b9 : w5.cell? ⟨B, 9, none⟩ = some (.bool o) := cell_of_row _ B 9 _ _ _ H4.out.bx
  have r0 : w5.cell? ⟨B + 1, 0, none⟩ = some (.int .i64 0) := cell_of_row _ (B + 1) 0 _ _ _ H4.out.br
  have r1 : w5.cell? ⟨B + 1, 1, none⟩ = some (.int .i64 0) := cell_of_row _ (B + 1) 1 _ _ _ H4.out.br
  have r2 : w5.cell? ⟨B + 1, 2, none⟩ = some (.int .i64 0) := cell_of_row _ (B + 1) 2 _ _ _ H4.out.br
  have r3 : w5.cell? ⟨B + 1, 3, none⟩ = some (.slice none 0 0) := cell_of_row _ (B + 1) 3 _ _ _ H4.out.br
  have r4 : w5.cell? ⟨B + 1, 4, none⟩ = some (.slice none 0 0) := cell_of_row _ (B + 1) 4 _ _ _ H4.out.br
  have r5 : w5.cell? ⟨B + 1, 5, none⟩ = some (.slice none 0 0) := cell_of_row _ (B + 1) 5 _ _ _ H4.out.br
  have r6 : w5.cell? ⟨B + 1, 6, none⟩ = some (.slice none 0 0) := cell_of_row _ (B + 1) 6 _ _ _ H4.out.br
  have r7 : w5.cell? ⟨B + 1, 7, none⟩ = some (.int .i64 0) := cell_of_row _ (B + 1) 7 _ _ _ H4.out.br
  have r8 : w5.cell? ⟨B + 1, 8, none⟩ = some (.int .i64 0) := cell_of_row _ (B + 1) 8 _ _ _ H4.out.br
  have r9 : w5.cell? ⟨B + 1, 9, none⟩ = some (.bool false) := cell_of_row _ (B + 1) 9 _ _ _ H4.out.br
  have fz : ∀ j, w5.frozen? ⟨B + 1, j, none⟩ = false := fun j => frozen_of_row _ (B + 1) j _ _ H4.out.br
  go_wp2_with fail
  have k1 := set10 H4.out.br (.int .i64 pk) (.int .i64 t) (.int .i64 l) (.slice a1 sn c1) (.slice a2 rn c2) (.slice a3 mn c3) (.slice a4 vn c4) (.int .i64 g) (.int .i64 d) (.bool o)
  have k2 := set10_below (g := B + 1) H4.out.below (Nat.le_succ _) (.int .i64 pk) (.int .i64 t) (.int .i64 l) (.slice a1 sn c1) (.slice a2 rn c2) (.slice a3 mn c3) (.slice a4 vn c4) (.int .i64 g) (.int .i64 d) (.bool o)
  have HR := H4.out.rw
  have HA := H4.out.ap
  simp only [List.nil_append, List.cons_append, List.mem_cons, List.not_mem_nil, or_false, forall_eq_or_imp, forall_eq] at HR
  simp only [List.nil_append, List.cons_append, List.pairwise_cons, List.mem_cons, List.not_mem_nil, or_false, forall_eq_or_imp, forall_eq] at HA
  obtain ⟨h1, h2, h3, h4⟩ := HR
  have h1 := set10_row (g := B + 1) h1 (own_ne h1 (a := ⟨B + 1, 0, none⟩) (by show B + 1 < B + 2; omega)) (.int .i64 pk) (.int .i64 t) (.int .i64 l) (.slice a1 sn c1) (.slice a2 rn c2) (.slice a3 mn c3) (.slice a4 vn c4) (.int .i64 g) (.int .i64 d) (.bool o)
  have h2 := set10_row (g := B + 1) h2 (own_ne h2 (a := ⟨B + 1, 0, none⟩) (by show B + 1 < B + 2; omega)) (.int .i64 pk) (.int .i64 t) (.int .i64 l) (.slice a1 sn c1) (.slice a2 rn c2) (.slice a3 mn c3) (.slice a4 vn c4) (.int .i64 g) (.int .i64 d) (.bool o)
  have h3 := set10_row (g := B + 1) h3 (own_ne h3 (a := ⟨B + 1, 0, none⟩) (by show B + 1 < B + 2; omega)) (.int .i64 pk) (.int .i64 t) (.int .i64 l) (.slice a1 sn c1) (.slice a2 rn c2) (.slice a3 mn c3) (.slice a4 vn c4) (.int .i64 g) (.int .i64 d) (.bool o)
  have h4 := set10_row (g := B + 1) h4 (own_ne h4 (a := ⟨B + 1, 0, none⟩) (by show B + 1 < B + 2; omega)) (.int .i64 pk) (.int .i64 t) (.int .i64 l) (.slice a1 sn c1) (.slice a2 rn c2) (.slice a3 mn c3) (.slice a4 vn c4) (.int .i64 g) (.int .i64 d) (.bool o)
  clear b0 r0 b1 r1 b2 r2 b3 r3 b4 r4 b5 r5 b6 r6 b7 r7 b8 r8 b9 r9 fz H4
  generalize World.setCell (World.setCell _ _ _) _ _ = w6 at k1 k2 h1 h2 h3 h4 ⊢
  have q0 : w6.cell? ⟨B + 1, 0, none⟩ = some (.int .i64 pk) := cell_of_row _ (B + 1) 0 _ _ _ k1
  have q1 : w6.cell? ⟨B + 1, 1, none⟩ = some (.int .i64 t) := cell_of_row _ (B + 1) 1 _ _ _ k1
  have q2 : w6.cell? ⟨B + 1, 2, none⟩ = some (.int .i64 l) := cell_of_row _ (B + 1) 2 _ _ _ k1
  have q3 : w6.cell? ⟨B + 1, 3, none⟩ = some (.slice a1 sn c1) := cell_of_row _ (B + 1) 3 _ _ _ k1
  have q4 : w6.cell? ⟨B + 1, 4, none⟩ = some (.slice a2 rn c2) := cell_of_row _ (B + 1) 4 _ _ _ k1
  have q5 : w6.cell? ⟨B + 1, 5, none⟩ = some (.slice a3 mn c3) := cell_of_row _ (B + 1) 5 _ _ _ k1
  have q6 : w6.cell? ⟨B + 1, 6, none⟩ = some (.slice a4 vn c4) := cell_of_row _ (B + 1) 6 _ _ _ k1
  have q7 : w6.cell? ⟨B + 1, 7, none⟩ = some (.int .i64 g) := cell_of_row _ (B + 1) 7 _ _ _ k1
  have q8 : w6.cell? ⟨B + 1, 8, none⟩ = some (.int .i64 d) := cell_of_row _ (B + 1) 8 _ _ _ k1
  have q9 : w6.cell? ⟨B + 1, 9, none⟩ = some (.bool o) := cell_of_row _ (B + 1) 9 _ _ _ k1
  refine bodyPost_ret (v := .agg #[.int .i64 pk, .int .i64 t, .int .i64 l, .slice a1 sn c1, .slice a2 rn c2, .slice a3 mn c3, .slice a4 vn c4, .int .i64 g, .int .i64 d, .bool o]) (by simp [results, Try.results42, go_sem, q0, q1, q2, q3, q4, q5, q6, q7, q8, q9]) rfl ⟨a1, a2, a3, a4, c1, c2, c3, c4, rfl, ⟨row_mono h1 (by omega), row_mono h2 (by omega), row_mono h3 (by omega), row_mono h4 (by omega), HA.1.1, HA.1.2.1, HA.1.2.2, HA.2.1.1, HA.2.1.2, HA.2.2.1⟩, k2⟩
end Go.Proofs.Ytnhkblkijiipeaa
