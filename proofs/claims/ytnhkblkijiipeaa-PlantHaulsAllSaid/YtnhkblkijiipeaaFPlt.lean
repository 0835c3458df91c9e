/-
  The walks of isPlant and of Validate: a plant of kinds.
-/
import Derived.Test.YtnhkblkijiipeaaFRVK
import Derived.Deep.RegionHeld3
namespace Go.Proofs.Ytnhkblkijiipeaa
open Go.RowKit

/-- What lies in memory: the plant's box at X, its lists. -/
structure PB (p : Pl) (B X : Nat) (w wr : World) : Prop where
  below : Below B w wr
  le : B ≤ wr.heap.size
  bx : wr.heap[X]? = some (.cells #[.int .i64 p.k, .int .i64 p.t, .int .i64 p.l, .slice p.st.a p.st.n p.st.c, .slice p.re.a p.re.n p.re.c, .slice p.ma.a p.ma.n p.ma.c, .slice p.mo.a p.mo.n p.mo.c, .int .i64 p.g, .int .i64 p.i, .bool p.o] 25 (0, 0))
  lists : PlAt wr p
theorem PB.stays {p : Pl} {B X : Nat} {w wr w' : World} (h : PB p B X w wr) (hb : Below wr.heap.size wr w') : PB p B X w w' :=
  ⟨h.below.trans (hb.mono h.le), Nat.le_trans h.le hb.size, (hb.block _ (heap_lt h.bx)).trans h.bx, h.lists.stays hb⟩
theorem PB.c0 {p : Pl} {B X : Nat} {w wr : World} (h : PB p B X w wr) : wr.cell? ⟨X, 0, none⟩ = some (.int .i64 p.k) := cell_of_row _ _ 0 _ _ _ h.bx
theorem PB.c1 {p : Pl} {B X : Nat} {w wr : World} (h : PB p B X w wr) : wr.cell? ⟨X, 1, none⟩ = some (.int .i64 p.t) := cell_of_row _ _ 1 _ _ _ h.bx
theorem PB.c2 {p : Pl} {B X : Nat} {w wr : World} (h : PB p B X w wr) : wr.cell? ⟨X, 2, none⟩ = some (.int .i64 p.l) := cell_of_row _ _ 2 _ _ _ h.bx
theorem PB.c3 {p : Pl} {B X : Nat} {w wr : World} (h : PB p B X w wr) : wr.cell? ⟨X, 3, none⟩ = some (.slice p.st.a p.st.n p.st.c) := cell_of_row _ _ 3 _ _ _ h.bx
theorem PB.c4 {p : Pl} {B X : Nat} {w wr : World} (h : PB p B X w wr) : wr.cell? ⟨X, 4, none⟩ = some (.slice p.re.a p.re.n p.re.c) := cell_of_row _ _ 4 _ _ _ h.bx
theorem PB.c5 {p : Pl} {B X : Nat} {w wr : World} (h : PB p B X w wr) : wr.cell? ⟨X, 5, none⟩ = some (.slice p.ma.a p.ma.n p.ma.c) := cell_of_row _ _ 5 _ _ _ h.bx
theorem PB.c6 {p : Pl} {B X : Nat} {w wr : World} (h : PB p B X w wr) : wr.cell? ⟨X, 6, none⟩ = some (.slice p.mo.a p.mo.n p.mo.c) := cell_of_row _ _ 6 _ _ _ h.bx
theorem PB.c7 {p : Pl} {B X : Nat} {w wr : World} (h : PB p B X w wr) : wr.cell? ⟨X, 7, none⟩ = some (.int .i64 p.g) := cell_of_row _ _ 7 _ _ _ h.bx
theorem PB.c8 {p : Pl} {B X : Nat} {w wr : World} (h : PB p B X w wr) : wr.cell? ⟨X, 8, none⟩ = some (.int .i64 p.i) := cell_of_row _ _ 8 _ _ _ h.bx
theorem PB.c9 {p : Pl} {B X : Nat} {w wr : World} (h : PB p B X w wr) : wr.cell? ⟨X, 9, none⟩ = some (.bool p.o) := cell_of_row _ _ 9 _ _ _ h.bx
theorem PB.start {p : Pl} {w : World} (h : PlAt w p) : PB p w.heap.size w.heap.size w (w.alloc (.cells #[.int .i64 p.k, .int .i64 p.t, .int .i64 p.l, .slice p.st.a p.st.n p.st.c, .slice p.re.a p.re.n p.re.c, .slice p.ma.a p.ma.n p.ma.c, .slice p.mo.a p.mo.n p.mo.c, .int .i64 p.g, .int .i64 p.i, .bool p.o] 25)) :=
  ⟨Joins.below_alloc1 _ _, by rw [World.size_alloc]; omega, heap_new _ _, h.stays (Joins.below_alloc1 _ _)⟩
theorem PB.start2 {p : Pl} {w : World} (h : PlAt w p) (o : Obj) : PB p w.heap.size (w.heap.size + 1) w ((w.alloc o).alloc (.cells #[.int .i64 p.k, .int .i64 p.t, .int .i64 p.l, .slice p.st.a p.st.n p.st.c, .slice p.re.a p.re.n p.re.c, .slice p.ma.a p.ma.n p.ma.c, .slice p.mo.a p.mo.n p.mo.c, .int .i64 p.g, .int .i64 p.i, .bool p.o] 25)) :=
  ⟨Joins.below_alloc2 _ _ _, by rw [World.size_alloc, World.size_alloc]; omega, by have := heap_new (w.alloc o) (.cells #[.int .i64 p.k, .int .i64 p.t, .int .i64 p.l, .slice p.st.a p.st.n p.st.c, .slice p.re.a p.re.n p.re.c, .slice p.ma.a p.ma.n p.ma.c, .slice p.mo.a p.mo.n p.mo.c, .int .i64 p.g, .int .i64 p.i, .bool p.o] 25); rwa [World.size_alloc] at this, h.stays (Joins.below_alloc2 _ _ _)⟩
/-- What is asked of the sizes of a plant. -/
structure SmallP (p : Pl) : Prop where
  st : p.st.n ≤ 1000
  re : p.re.n ≤ 1000
  ma : p.ma.n ≤ 1000
  mo : p.mo.n ≤ 1000
set_option maxRecDepth 100000 in
set_option maxHeartbeats 12800000 in
theorem isplant_any (k : Kd) (p : Pl) (n : Nat) (hkn : k.mn = n) (hn : n ≤ 1000) (hs : SmallP p) (q : Bool) (hq : okP n p = q) (w : World) (h : PlAt w p) :
    Calls Try.prog 35 #[kv k, pv p] w fun e w' => e = .returned (.bool q) ∧ Below w.heap.size w w' := by
  have H0 := hid (PB.start2 h (.cells #[.string k.nm, .slice k.ta k.tn k.tc, .slice k.ma k.mn k.mc] 40))
  obtain ⟨nm, ta, tn, tc, T, kma, kmn, kmc, C, A⟩ := k
  obtain ⟨pk, t, l, ⟨sa, sn, sc, sZ⟩, ⟨ra, rn, rc, rZ⟩, ⟨ma, mn, mc, mZ⟩, ⟨va, vn, vc, vZ⟩, g, d, o⟩ := p
  show Calls _ _ #[.agg #[.string nm, .slice ta tn tc, .slice kma kmn kmc], .agg #[.int .i64 pk, .int .i64 t, .int .i64 l, .slice sa sn sc, .slice ra rn rc, .slice ma mn mc, .slice va vn vc, .int .i64 g, .int .i64 d, .bool o]] w _
  obtain rfl : kmn = n := hkn
  obtain ⟨q1, e1⟩ : ∃ q, inB 0 t 1000000 = q := ⟨_, rfl⟩
  obtain ⟨q2, e2⟩ : ∃ q, inB 1 l 64 = q := ⟨_, rfl⟩
  obtain ⟨q3, e3⟩ : ∃ q, okN ⟨sa, sn, sc, sZ⟩ kmn 1000000 = q := ⟨_, rfl⟩
  obtain ⟨q4, e4⟩ : ∃ q, okN ⟨ra, rn, rc, rZ⟩ kmn 7 = q := ⟨_, rfl⟩
  obtain ⟨q5, e5⟩ : ∃ q, okN ⟨ma, mn, mc, mZ⟩ kmn 1000000 = q := ⟨_, rfl⟩
  obtain ⟨q6, e6⟩ : ∃ q, okN ⟨va, vn, vc, vZ⟩ kmn 1000000 = q := ⟨_, rfl⟩
  obtain ⟨q7, e7⟩ : ∃ q, inB 0 g 1000000 = q := ⟨_, rfl⟩
  obtain ⟨q8, e8⟩ : ∃ q, inB 0 d 1000000 = q := ⟨_, rfl⟩
  have HQ : Hid ((q1 && q2 && q3 && q4 && q5 && q6 && q7 && q8) = q) := hid (by rw [← hq, ← e1, ← e2, ← e3, ← e4, ← e5, ← e6, ← e7, ← e8]; rfl)
  have HW1 := hid (fun W => within_any 0 t 1000000 q1 e1 W)
  have HW2 := hid (fun W => within_any 1 l 64 q2 e2 W)
  have HW3 := hid (fun W h => arecounts_any ⟨sa, sn, sc, sZ⟩ kmn 1000000 hs.st hn q3 e3 W h)
  have HW4 := hid (fun W h => arecounts_any ⟨ra, rn, rc, rZ⟩ kmn 7 hs.re hn q4 e4 W h)
  have HW5 := hid (fun W h => arecounts_any ⟨ma, mn, mc, mZ⟩ kmn 1000000 hs.ma hn q5 e5 W h)
  have HW6 := hid (fun W h => arecounts_any ⟨va, vn, vc, vZ⟩ kmn 1000000 hs.mo hn q6 e6 W h)
  have HW7 := hid (fun W => within_any 0 g 1000000 q7 e7 W)
  have HW8 := hid (fun W => within_any 0 d 1000000 q8 e8 W)
  obtain ⟨B, hB⟩ : ∃ B, w.heap.size = B := ⟨_, rfl⟩
  rw [hB] at H0 ⊢
  clear e1 e2 e3 e4 e5 e6 e7 e8 hq h
  cases q1
  · have HF : Hid (q = false) := hid (by rw [← HQ.out]; simp)
    go_enter Try.func35, Try.ntmps35
    go_upto_region 2 with fail
    generalize World.alloc (World.alloc w _) _ = w1 at H0 ⊢
    have c0 := H0.out.c0; have c1 := H0.out.c1; have c2 := H0.out.c2; have c3 := H0.out.c3; have c4 := H0.out.c4; have c5 := H0.out.c5; have c6 := H0.out.c6; have c7 := H0.out.c7; have c8 := H0.out.c8; have c9 := H0.out.c9
    go_wp2_with (first
      | (go_at_call 34; with_reducible refine (HW1.out _).mono ?_; rintro e w2 ⟨rfl, rfl⟩))
    go_ret
    exact ⟨by rw [HF.out]; rfl, H0.out.below⟩
  · skip
    cases q2
    · have HF : Hid (q = false) := hid (by rw [← HQ.out]; simp)
      go_enter Try.func35, Try.ntmps35
      go_upto_region 2 with fail
      generalize World.alloc (World.alloc w _) _ = w1 at H0 ⊢
      have c0 := H0.out.c0; have c1 := H0.out.c1; have c2 := H0.out.c2; have c3 := H0.out.c3; have c4 := H0.out.c4; have c5 := H0.out.c5; have c6 := H0.out.c6; have c7 := H0.out.c7; have c8 := H0.out.c8; have c9 := H0.out.c9
      go_wp2_with (first
        | (go_at_call 34; with_reducible refine (HW1.out _).mono ?_; rintro e w2 ⟨rfl, rfl⟩)
        | (go_at_call 34; with_reducible refine (HW2.out _).mono ?_; rintro e w2 ⟨rfl, rfl⟩))
      go_ret
      exact ⟨by rw [HF.out]; rfl, H0.out.below⟩
    · skip
      cases q3
      · have HF : Hid (q = false) := hid (by rw [← HQ.out]; simp)
        go_enter Try.func35, Try.ntmps35
        go_upto_region 2 with fail
        generalize World.alloc (World.alloc w _) _ = w1 at H0 ⊢
        have c0 := H0.out.c0; have c1 := H0.out.c1; have c2 := H0.out.c2; have c3 := H0.out.c3; have c4 := H0.out.c4; have c5 := H0.out.c5; have c6 := H0.out.c6; have c7 := H0.out.c7; have c8 := H0.out.c8; have c9 := H0.out.c9
        go_wp2_with (first
          | (go_at_call 34; with_reducible refine (HW1.out _).mono ?_; rintro e w2 ⟨rfl, rfl⟩)
          | (go_at_call 34; with_reducible refine (HW2.out _).mono ?_; rintro e w2 ⟨rfl, rfl⟩)
          | (go_at_call 60; with_reducible refine (HW3.out _ H0.out.lists.st).mono ?_; rintro e w3 ⟨rfl, hb⟩; have H1 := hid (H0.out.stays hb); clear c0 c1 c2 c3 c4 c5 c6 c7 c8 c9; clear hb; have c0 := H1.out.c0; have c1 := H1.out.c1; have c2 := H1.out.c2; have c3 := H1.out.c3; have c4 := H1.out.c4; have c5 := H1.out.c5; have c6 := H1.out.c6; have c7 := H1.out.c7; have c8 := H1.out.c8; have c9 := H1.out.c9))
        go_ret
        exact ⟨by rw [HF.out]; rfl, H1.out.below⟩
      · skip
        cases q4
        · have HF : Hid (q = false) := hid (by rw [← HQ.out]; simp)
          go_enter Try.func35, Try.ntmps35
          go_upto_region 2 with fail
          generalize World.alloc (World.alloc w _) _ = w1 at H0 ⊢
          have c0 := H0.out.c0; have c1 := H0.out.c1; have c2 := H0.out.c2; have c3 := H0.out.c3; have c4 := H0.out.c4; have c5 := H0.out.c5; have c6 := H0.out.c6; have c7 := H0.out.c7; have c8 := H0.out.c8; have c9 := H0.out.c9
          go_wp2_with (first
            | (go_at_call 34; with_reducible refine (HW1.out _).mono ?_; rintro e w2 ⟨rfl, rfl⟩)
            | (go_at_call 34; with_reducible refine (HW2.out _).mono ?_; rintro e w2 ⟨rfl, rfl⟩)
            | (go_at_call 60; with_reducible refine (HW3.out _ H0.out.lists.st).mono ?_; rintro e w3 ⟨rfl, hb⟩; have H1 := hid (H0.out.stays hb); clear c0 c1 c2 c3 c4 c5 c6 c7 c8 c9; clear hb; have c0 := H1.out.c0; have c1 := H1.out.c1; have c2 := H1.out.c2; have c3 := H1.out.c3; have c4 := H1.out.c4; have c5 := H1.out.c5; have c6 := H1.out.c6; have c7 := H1.out.c7; have c8 := H1.out.c8; have c9 := H1.out.c9)
            | (go_at_call 60; with_reducible refine (HW4.out _ H1.out.lists.re).mono ?_; rintro e w4 ⟨rfl, hb⟩; have H2 := hid (H1.out.stays hb); clear c0 c1 c2 c3 c4 c5 c6 c7 c8 c9; clear hb; have c0 := H2.out.c0; have c1 := H2.out.c1; have c2 := H2.out.c2; have c3 := H2.out.c3; have c4 := H2.out.c4; have c5 := H2.out.c5; have c6 := H2.out.c6; have c7 := H2.out.c7; have c8 := H2.out.c8; have c9 := H2.out.c9))
          go_ret
          exact ⟨by rw [HF.out]; rfl, H2.out.below⟩
        · skip
          cases q5
          · have HF : Hid (q = false) := hid (by rw [← HQ.out]; simp)
            go_enter Try.func35, Try.ntmps35
            go_upto_region 2 with fail
            generalize World.alloc (World.alloc w _) _ = w1 at H0 ⊢
            have c0 := H0.out.c0; have c1 := H0.out.c1; have c2 := H0.out.c2; have c3 := H0.out.c3; have c4 := H0.out.c4; have c5 := H0.out.c5; have c6 := H0.out.c6; have c7 := H0.out.c7; have c8 := H0.out.c8; have c9 := H0.out.c9
            go_wp2_with (first
              | (go_at_call 34; with_reducible refine (HW1.out _).mono ?_; rintro e w2 ⟨rfl, rfl⟩)
              | (go_at_call 34; with_reducible refine (HW2.out _).mono ?_; rintro e w2 ⟨rfl, rfl⟩)
              | (go_at_call 60; with_reducible refine (HW3.out _ H0.out.lists.st).mono ?_; rintro e w3 ⟨rfl, hb⟩; have H1 := hid (H0.out.stays hb); clear c0 c1 c2 c3 c4 c5 c6 c7 c8 c9; clear hb; have c0 := H1.out.c0; have c1 := H1.out.c1; have c2 := H1.out.c2; have c3 := H1.out.c3; have c4 := H1.out.c4; have c5 := H1.out.c5; have c6 := H1.out.c6; have c7 := H1.out.c7; have c8 := H1.out.c8; have c9 := H1.out.c9)
              | (go_at_call 60; with_reducible refine (HW4.out _ H1.out.lists.re).mono ?_; rintro e w4 ⟨rfl, hb⟩; have H2 := hid (H1.out.stays hb); clear c0 c1 c2 c3 c4 c5 c6 c7 c8 c9; clear hb; have c0 := H2.out.c0; have c1 := H2.out.c1; have c2 := H2.out.c2; have c3 := H2.out.c3; have c4 := H2.out.c4; have c5 := H2.out.c5; have c6 := H2.out.c6; have c7 := H2.out.c7; have c8 := H2.out.c8; have c9 := H2.out.c9)
              | (go_at_call 60; with_reducible refine (HW5.out _ H2.out.lists.ma).mono ?_; rintro e w5 ⟨rfl, hb⟩; have H3 := hid (H2.out.stays hb); clear c0 c1 c2 c3 c4 c5 c6 c7 c8 c9; clear hb; have c0 := H3.out.c0; have c1 := H3.out.c1; have c2 := H3.out.c2; have c3 := H3.out.c3; have c4 := H3.out.c4; have c5 := H3.out.c5; have c6 := H3.out.c6; have c7 := H3.out.c7; have c8 := H3.out.c8; have c9 := H3.out.c9))
            go_ret
            exact ⟨by rw [HF.out]; rfl, H3.out.below⟩
          · skip
            cases q6
            · have HF : Hid (q = false) := hid (by rw [← HQ.out]; simp)
              go_enter Try.func35, Try.ntmps35
              go_upto_region 2 with fail
              generalize World.alloc (World.alloc w _) _ = w1 at H0 ⊢
              have c0 := H0.out.c0; have c1 := H0.out.c1; have c2 := H0.out.c2; have c3 := H0.out.c3; have c4 := H0.out.c4; have c5 := H0.out.c5; have c6 := H0.out.c6; have c7 := H0.out.c7; have c8 := H0.out.c8; have c9 := H0.out.c9
              go_wp2_with (first
                | (go_at_call 34; with_reducible refine (HW1.out _).mono ?_; rintro e w2 ⟨rfl, rfl⟩)
                | (go_at_call 34; with_reducible refine (HW2.out _).mono ?_; rintro e w2 ⟨rfl, rfl⟩)
                | (go_at_call 60; with_reducible refine (HW3.out _ H0.out.lists.st).mono ?_; rintro e w3 ⟨rfl, hb⟩; have H1 := hid (H0.out.stays hb); clear c0 c1 c2 c3 c4 c5 c6 c7 c8 c9; clear hb; have c0 := H1.out.c0; have c1 := H1.out.c1; have c2 := H1.out.c2; have c3 := H1.out.c3; have c4 := H1.out.c4; have c5 := H1.out.c5; have c6 := H1.out.c6; have c7 := H1.out.c7; have c8 := H1.out.c8; have c9 := H1.out.c9)
                | (go_at_call 60; with_reducible refine (HW4.out _ H1.out.lists.re).mono ?_; rintro e w4 ⟨rfl, hb⟩; have H2 := hid (H1.out.stays hb); clear c0 c1 c2 c3 c4 c5 c6 c7 c8 c9; clear hb; have c0 := H2.out.c0; have c1 := H2.out.c1; have c2 := H2.out.c2; have c3 := H2.out.c3; have c4 := H2.out.c4; have c5 := H2.out.c5; have c6 := H2.out.c6; have c7 := H2.out.c7; have c8 := H2.out.c8; have c9 := H2.out.c9)
                | (go_at_call 60; with_reducible refine (HW5.out _ H2.out.lists.ma).mono ?_; rintro e w5 ⟨rfl, hb⟩; have H3 := hid (H2.out.stays hb); clear c0 c1 c2 c3 c4 c5 c6 c7 c8 c9; clear hb; have c0 := H3.out.c0; have c1 := H3.out.c1; have c2 := H3.out.c2; have c3 := H3.out.c3; have c4 := H3.out.c4; have c5 := H3.out.c5; have c6 := H3.out.c6; have c7 := H3.out.c7; have c8 := H3.out.c8; have c9 := H3.out.c9)
                | (go_at_call 60; with_reducible refine (HW6.out _ H3.out.lists.mo).mono ?_; rintro e w6 ⟨rfl, hb⟩; have H4 := hid (H3.out.stays hb); clear c0 c1 c2 c3 c4 c5 c6 c7 c8 c9; clear hb; have c0 := H4.out.c0; have c1 := H4.out.c1; have c2 := H4.out.c2; have c3 := H4.out.c3; have c4 := H4.out.c4; have c5 := H4.out.c5; have c6 := H4.out.c6; have c7 := H4.out.c7; have c8 := H4.out.c8; have c9 := H4.out.c9))
              go_ret
              exact ⟨by rw [HF.out]; rfl, H4.out.below⟩
            · skip
              cases q7
              · have HF : Hid (q = false) := hid (by rw [← HQ.out]; simp)
                go_enter Try.func35, Try.ntmps35
                go_upto_region 2 with fail
                generalize World.alloc (World.alloc w _) _ = w1 at H0 ⊢
                have c0 := H0.out.c0; have c1 := H0.out.c1; have c2 := H0.out.c2; have c3 := H0.out.c3; have c4 := H0.out.c4; have c5 := H0.out.c5; have c6 := H0.out.c6; have c7 := H0.out.c7; have c8 := H0.out.c8; have c9 := H0.out.c9
                go_wp2_with (first
                  | (go_at_call 34; with_reducible refine (HW1.out _).mono ?_; rintro e w2 ⟨rfl, rfl⟩)
                  | (go_at_call 34; with_reducible refine (HW2.out _).mono ?_; rintro e w2 ⟨rfl, rfl⟩)
                  | (go_at_call 60; with_reducible refine (HW3.out _ H0.out.lists.st).mono ?_; rintro e w3 ⟨rfl, hb⟩; have H1 := hid (H0.out.stays hb); clear c0 c1 c2 c3 c4 c5 c6 c7 c8 c9; clear hb; have c0 := H1.out.c0; have c1 := H1.out.c1; have c2 := H1.out.c2; have c3 := H1.out.c3; have c4 := H1.out.c4; have c5 := H1.out.c5; have c6 := H1.out.c6; have c7 := H1.out.c7; have c8 := H1.out.c8; have c9 := H1.out.c9)
                  | (go_at_call 60; with_reducible refine (HW4.out _ H1.out.lists.re).mono ?_; rintro e w4 ⟨rfl, hb⟩; have H2 := hid (H1.out.stays hb); clear c0 c1 c2 c3 c4 c5 c6 c7 c8 c9; clear hb; have c0 := H2.out.c0; have c1 := H2.out.c1; have c2 := H2.out.c2; have c3 := H2.out.c3; have c4 := H2.out.c4; have c5 := H2.out.c5; have c6 := H2.out.c6; have c7 := H2.out.c7; have c8 := H2.out.c8; have c9 := H2.out.c9)
                  | (go_at_call 60; with_reducible refine (HW5.out _ H2.out.lists.ma).mono ?_; rintro e w5 ⟨rfl, hb⟩; have H3 := hid (H2.out.stays hb); clear c0 c1 c2 c3 c4 c5 c6 c7 c8 c9; clear hb; have c0 := H3.out.c0; have c1 := H3.out.c1; have c2 := H3.out.c2; have c3 := H3.out.c3; have c4 := H3.out.c4; have c5 := H3.out.c5; have c6 := H3.out.c6; have c7 := H3.out.c7; have c8 := H3.out.c8; have c9 := H3.out.c9)
                  | (go_at_call 60; with_reducible refine (HW6.out _ H3.out.lists.mo).mono ?_; rintro e w6 ⟨rfl, hb⟩; have H4 := hid (H3.out.stays hb); clear c0 c1 c2 c3 c4 c5 c6 c7 c8 c9; clear hb; have c0 := H4.out.c0; have c1 := H4.out.c1; have c2 := H4.out.c2; have c3 := H4.out.c3; have c4 := H4.out.c4; have c5 := H4.out.c5; have c6 := H4.out.c6; have c7 := H4.out.c7; have c8 := H4.out.c8; have c9 := H4.out.c9)
                  | (go_at_call 34; with_reducible refine (HW7.out _).mono ?_; rintro e w2 ⟨rfl, rfl⟩))
                go_ret
                exact ⟨by rw [HF.out]; rfl, H4.out.below⟩
              · skip
                have HF : Hid (q8 = q) := hid (by rw [← HQ.out]; rfl)
                go_enter Try.func35, Try.ntmps35
                go_upto_region 2 with fail
                generalize World.alloc (World.alloc w _) _ = w1 at H0 ⊢
                have c0 := H0.out.c0; have c1 := H0.out.c1; have c2 := H0.out.c2; have c3 := H0.out.c3; have c4 := H0.out.c4; have c5 := H0.out.c5; have c6 := H0.out.c6; have c7 := H0.out.c7; have c8 := H0.out.c8; have c9 := H0.out.c9
                go_wp2_with (first
                  | (go_at_call 34; with_reducible refine (HW1.out _).mono ?_; rintro e w2 ⟨rfl, rfl⟩)
                  | (go_at_call 34; with_reducible refine (HW2.out _).mono ?_; rintro e w2 ⟨rfl, rfl⟩)
                  | (go_at_call 60; with_reducible refine (HW3.out _ H0.out.lists.st).mono ?_; rintro e w3 ⟨rfl, hb⟩; have H1 := hid (H0.out.stays hb); clear c0 c1 c2 c3 c4 c5 c6 c7 c8 c9; clear hb; have c0 := H1.out.c0; have c1 := H1.out.c1; have c2 := H1.out.c2; have c3 := H1.out.c3; have c4 := H1.out.c4; have c5 := H1.out.c5; have c6 := H1.out.c6; have c7 := H1.out.c7; have c8 := H1.out.c8; have c9 := H1.out.c9)
                  | (go_at_call 60; with_reducible refine (HW4.out _ H1.out.lists.re).mono ?_; rintro e w4 ⟨rfl, hb⟩; have H2 := hid (H1.out.stays hb); clear c0 c1 c2 c3 c4 c5 c6 c7 c8 c9; clear hb; have c0 := H2.out.c0; have c1 := H2.out.c1; have c2 := H2.out.c2; have c3 := H2.out.c3; have c4 := H2.out.c4; have c5 := H2.out.c5; have c6 := H2.out.c6; have c7 := H2.out.c7; have c8 := H2.out.c8; have c9 := H2.out.c9)
                  | (go_at_call 60; with_reducible refine (HW5.out _ H2.out.lists.ma).mono ?_; rintro e w5 ⟨rfl, hb⟩; have H3 := hid (H2.out.stays hb); clear c0 c1 c2 c3 c4 c5 c6 c7 c8 c9; clear hb; have c0 := H3.out.c0; have c1 := H3.out.c1; have c2 := H3.out.c2; have c3 := H3.out.c3; have c4 := H3.out.c4; have c5 := H3.out.c5; have c6 := H3.out.c6; have c7 := H3.out.c7; have c8 := H3.out.c8; have c9 := H3.out.c9)
                  | (go_at_call 60; with_reducible refine (HW6.out _ H3.out.lists.mo).mono ?_; rintro e w6 ⟨rfl, hb⟩; have H4 := hid (H3.out.stays hb); clear c0 c1 c2 c3 c4 c5 c6 c7 c8 c9; clear hb; have c0 := H4.out.c0; have c1 := H4.out.c1; have c2 := H4.out.c2; have c3 := H4.out.c3; have c4 := H4.out.c4; have c5 := H4.out.c5; have c6 := H4.out.c6; have c7 := H4.out.c7; have c8 := H4.out.c8; have c9 := H4.out.c9)
                  | (go_at_call 34; with_reducible refine (HW7.out _).mono ?_; rintro e w2 ⟨rfl, rfl⟩)
                  | (go_at_call 34; with_reducible refine (HW8.out _).mono ?_; rintro e w2 ⟨rfl, rfl⟩))
                go_ret
                exact ⟨ret_bool HF.out, H4.out.below⟩
theorem val_keep {pk t l g d : Int} {sa ra ma va : Option Addr} {sn sc rn rc mn mc vn vc : Nat} {sZ rZ mZ vZ : Nat → Int} {o : Bool} {B X b off m k : Nat} {K : Nat → Kd} {w w1 w2 : World}
    (h : PB ⟨pk, t, l, ⟨sa, sn, sc, sZ⟩, ⟨ra, rn, rc, rZ⟩, ⟨ma, mn, mc, mZ⟩, ⟨va, vn, vc, vZ⟩, g, d, o⟩ B X w w1) (hk : Kds w1 (some ⟨b, off, none⟩) m K) (hkm : k < m) (hb : Below w1.heap.size w1 w2) :
    (fun w' => PB ⟨pk, t, l, ⟨sa, sn, sc, sZ⟩, ⟨ra, rn, rc, rZ⟩, ⟨ma, mn, mc, mZ⟩, ⟨va, vn, vc, vZ⟩, g, d, o⟩ B X w w' ∧ Kds w' (some ⟨b, off, none⟩) m K ∧ (w'.cell? ⟨b, off + k * 3, none⟩ = some (.string (K k).nm) ∧ w'.cell? ⟨b, off + k * 3 + 1, none⟩ = some (.slice (K k).ta (K k).tn (K k).tc) ∧ w'.cell? ⟨b, off + k * 3 + 2, none⟩ = some (.slice (K k).ma (K k).mn (K k).mc)) ∧ w'.cell? ⟨X, 0, none⟩ = some (.int .i64 pk) ∧ w'.cell? ⟨X, 1, none⟩ = some (.int .i64 t) ∧ w'.cell? ⟨X, 2, none⟩ = some (.int .i64 l) ∧ w'.cell? ⟨X, 3, none⟩ = some (.slice sa sn sc) ∧ w'.cell? ⟨X, 4, none⟩ = some (.slice ra rn rc) ∧ w'.cell? ⟨X, 5, none⟩ = some (.slice ma mn mc) ∧ w'.cell? ⟨X, 6, none⟩ = some (.slice va vn vc) ∧ w'.cell? ⟨X, 7, none⟩ = some (.int .i64 g) ∧ w'.cell? ⟨X, 8, none⟩ = some (.int .i64 d) ∧ w'.cell? ⟨X, 9, none⟩ = some (.bool o)) w2 := by
  have h' := h.stays hb
  have hk' := hk.stays hb
  obtain ⟨b', off', e, _, k0, k1, k2⟩ := kat hk' hkm
  cases e
  exact ⟨h', hk', ⟨k0, k1, k2⟩, h'.c0, h'.c1, h'.c2, h'.c3, h'.c4, h'.c5, h'.c6, h'.c7, h'.c8, h'.c9⟩
theorem PErr_k {m : Nat} {K : Nat → Kd} {p : Pl} {r : Int} (h : KErr m K = r) (h0 : ¬ r = 0) : PErr m K p = r := by unfold PErr; rw [h, if_pos h0]
theorem PErr_2 {m : Nat} {K : Nat → Kd} {p : Pl} (h : KErr m K = 0) (h0 : inB 0 p.k (m - 1) = false) : PErr m K p = 2 := by unfold PErr; rw [if_neg (by simpa using h), if_pos h0]
theorem PErr_q {m k : Nat} {K : Nat → Kd} {p : Pl} {q : Bool} (h : KErr m K = 0) (hk : p.k = k) (h0 : inB 0 p.k (m - 1) = true) (hq : okP (K k).mn p = q) : PErr m K p = if q = true then 0 else 1 := by
  unfold PErr; rw [if_neg (by simpa using h), if_neg (by rw [h0]; simp), hk, Int.toNat_natCast, hq]
set_option maxRecDepth 100000 in
set_option maxHeartbeats 12800000 in
theorem validate_any (ko : Option Addr) (m kc : Nat) (K : Nat → Kd) (hm : m ≤ 1000) (hs : Small m K) (p : Pl) (hp : SmallP p) (r : Int) (hr : PErr m K p = r) (w : World) (hK : Kds w ko m K) (hP : PlAt w p) :
    Calls Try.prog 15 #[.slice ko m kc, pv p] w fun e w' => e = .returned (.int .i64 r) ∧ Below w.heap.size w w' := by
  have H0 := hid (PB.start hP)
  have HKD := hid (hK.stays (Joins.below_alloc1 w (.cells #[.int .i64 p.k, .int .i64 p.t, .int .i64 p.l, .slice p.st.a p.st.n p.st.c, .slice p.re.a p.re.n p.re.c, .slice p.ma.a p.ma.n p.ma.c, .slice p.mo.a p.mo.n p.mo.c, .int .i64 p.g, .int .i64 p.i, .bool p.o] 25)))
  have HR := hid hr
  have HSM := hid hs
  have HSP := hid hp
  clear hr hK hP hs
  obtain ⟨pk, t, l, ⟨sa, sn, sc, sZ⟩, ⟨ra, rn, rc, rZ⟩, ⟨ma, mn, mc, mZ⟩, ⟨va, vn, vc, vZ⟩, g, d, o⟩ := p
  show Calls _ _ #[.slice ko m kc, .agg #[.int .i64 pk, .int .i64 t, .int .i64 l, .slice sa sn sc, .slice ra rn rc, .slice ma mn mc, .slice va vn vc, .int .i64 g, .int .i64 d, .bool o]] w _
  obtain ⟨f, hf⟩ : ∃ f, KErr m K = f := ⟨_, rfl⟩
  have HKF := hid hf
  have HVK := hid (fun W h => vkinds_any ko m kc K HSM.out W h)
  rw [hf] at HVK
  obtain ⟨B, hB⟩ : ∃ B, w.heap.size = B := ⟨_, rfl⟩
  rw [hB] at H0 ⊢
  clear hf hp
  by_cases h0 : f = 0
  · subst h0
    have hw1 : IntKind.i64.wrap ((m : Int) - 1) = (m : Int) - 1 := by rw [IntKind.wrap_i64]; omega
    cases hk : inB 0 pk ((m : Int) - 1)
    · have HW := hid (fun W => within_any 0 pk ((m : Int) - 1) false hk W)
      have HF : Hid (r = 2) := hid (by rw [← HR.out]; exact PErr_2 HKF.out hk)
      clear hk
      go_enter Try.func15, Try.ntmps15
      go_upto_region 1 with fail
      generalize World.alloc w _ = w1 at H0 HKD ⊢
      have c0 := H0.out.c0; have c1 := H0.out.c1; have c2 := H0.out.c2; have c3 := H0.out.c3; have c4 := H0.out.c4; have c5 := H0.out.c5; have c6 := H0.out.c6; have c7 := H0.out.c7; have c8 := H0.out.c8; have c9 := H0.out.c9
      go_wp2_with (first
        | (go_at_call 33; refine (HVK.out _ HKD.out).mono ?_; rintro e w2 ⟨rfl, hb⟩; have H1 := hid (H0.out.stays hb); have HK1 := hid (HKD.out.stays hb); clear c0 c1 c2 c3 c4 c5 c6 c7 c8 c9; clear hb; have c0 := H1.out.c0; have c1 := H1.out.c1; have c2 := H1.out.c2; have c3 := H1.out.c3; have c4 := H1.out.c4; have c5 := H1.out.c5; have c6 := H1.out.c6; have c7 := H1.out.c7; have c8 := H1.out.c8; have c9 := H1.out.c9)
        | (go_at_call 34; refine (HW.out _).mono ?_; rintro e w3 ⟨rfl, rfl⟩))
      go_ret
      exact ⟨by rw [HF.out]; rfl, H1.out.below⟩
    · have HW := hid (fun W => within_any 0 pk ((m : Int) - 1) true hk W)
      have HKK := hid hk
      obtain ⟨hk1, hk2⟩ := inB_iff.1 hk
      obtain ⟨k, rfl⟩ : ∃ k : Nat, pk = k := ⟨pk.toNat, by omega⟩
      have hkm : k < m := by omega
      have hkm' : (k : Int) < (m : Int) := by omega
      obtain ⟨b, off, e, _⟩ := kat HKD.out hkm
      subst e
      obtain ⟨q, hq⟩ : ∃ q, okP (K k).mn ⟨(k : Int), t, l, ⟨sa, sn, sc, sZ⟩, ⟨ra, rn, rc, rZ⟩, ⟨ma, mn, mc, mZ⟩, ⟨va, vn, vc, vZ⟩, g, d, o⟩ = q := ⟨_, rfl⟩
      have HF : Hid (r = if q = true then 0 else 1) := hid (by rw [← HR.out]; exact PErr_q HKF.out rfl HKK.out hq)
      have HI := hid (fun W h => isplant_any (K k) ⟨(k : Int), t, l, ⟨sa, sn, sc, sZ⟩, ⟨ra, rn, rc, rZ⟩, ⟨ma, mn, mc, mZ⟩, ⟨va, vn, vc, vZ⟩, g, d, o⟩ (K k).mn rfl (HSM.out.mn k hkm) HSP.out q hq W h)
      have HKM := hid hkm
      clear hk hk1 hk2 hq hkm
      cases q
      · skip
        go_enter Try.func15, Try.ntmps15
        go_upto_region 1 with fail
        generalize World.alloc w _ = w1 at H0 HKD ⊢
        have c0 := H0.out.c0; have c1 := H0.out.c1; have c2 := H0.out.c2; have c3 := H0.out.c3; have c4 := H0.out.c4; have c5 := H0.out.c5; have c6 := H0.out.c6; have c7 := H0.out.c7; have c8 := H0.out.c8; have c9 := H0.out.c9
        go_upto_region 6 with (first
          | (go_at_call 33; refine (HVK.out _ HKD.out).mono ?_; rintro e w2 ⟨rfl, hb⟩; have H1 := hid (H0.out.stays hb); have HK1 := hid (HKD.out.stays hb); clear c0 c1 c2 c3 c4 c5 c6 c7 c8 c9; clear hb; have c0 := H1.out.c0; have c1 := H1.out.c1; have c2 := H1.out.c2; have c3 := H1.out.c3; have c4 := H1.out.c4; have c5 := H1.out.c5; have c6 := H1.out.c6; have c7 := H1.out.c7; have c8 := H1.out.c8; have c9 := H1.out.c9)
          | (go_at_call 34; refine (HW.out _).mono ?_; rintro e w3 ⟨rfl, rfl⟩))
        have hx := val_keep H1.out HK1.out HKM.out (Below.refl _ _)
        clear c0 c1 c2 c3 c4 c5 c6 c7 c8 c9
        go_region_held3 (fun w' => PB ⟨(k : Int), t, l, ⟨sa, sn, sc, sZ⟩, ⟨ra, rn, rc, rZ⟩, ⟨ma, mn, mc, mZ⟩, ⟨va, vn, vc, vZ⟩, g, d, o⟩ B B w w' ∧ Kds w' (some ⟨b, off, none⟩) m K ∧ (w'.cell? ⟨b, off + k * 3, none⟩ = some (.string (K k).nm) ∧ w'.cell? ⟨b, off + k * 3 + 1, none⟩ = some (.slice (K k).ta (K k).tn (K k).tc) ∧ w'.cell? ⟨b, off + k * 3 + 2, none⟩ = some (.slice (K k).ma (K k).mn (K k).mc)) ∧ w'.cell? ⟨B, 0, none⟩ = some (.int .i64 (k : Int)) ∧ w'.cell? ⟨B, 1, none⟩ = some (.int .i64 t) ∧ w'.cell? ⟨B, 2, none⟩ = some (.int .i64 l) ∧ w'.cell? ⟨B, 3, none⟩ = some (.slice sa sn sc) ∧ w'.cell? ⟨B, 4, none⟩ = some (.slice ra rn rc) ∧ w'.cell? ⟨B, 5, none⟩ = some (.slice ma mn mc) ∧ w'.cell? ⟨B, 6, none⟩ = some (.slice va vn vc) ∧ w'.cell? ⟨B, 7, none⟩ = some (.int .i64 g) ∧ w'.cell? ⟨B, 8, none⟩ = some (.int .i64 d) ∧ w'.cell? ⟨B, 9, none⟩ = some (.bool o))
          (first
            | exact val_keep H1.out HK1.out HKM.out ((Below.refl _ _).drew)
            | exact val_keep (And.left (by assumption)) (And.left (And.right (by assumption))) HKM.out hn
            | assumption)
          (first
            | (go_at_call 35; refine (HI.out _ (PB.lists (And.left (by assumption)))).mono ?_; rintro e wx ⟨rfl, hn⟩))
        all_goals go_wp2_with fail
        rename_i hh
        have HE := hid hh.1.below
        clear hh hn hx
        go_ret
        exact ⟨by rw [HF.out]; rfl, HE.out⟩
      · skip
        go_enter Try.func15, Try.ntmps15
        go_upto_region 1 with fail
        generalize World.alloc w _ = w1 at H0 HKD ⊢
        have c0 := H0.out.c0; have c1 := H0.out.c1; have c2 := H0.out.c2; have c3 := H0.out.c3; have c4 := H0.out.c4; have c5 := H0.out.c5; have c6 := H0.out.c6; have c7 := H0.out.c7; have c8 := H0.out.c8; have c9 := H0.out.c9
        go_upto_region 6 with (first
          | (go_at_call 33; refine (HVK.out _ HKD.out).mono ?_; rintro e w2 ⟨rfl, hb⟩; have H1 := hid (H0.out.stays hb); have HK1 := hid (HKD.out.stays hb); clear c0 c1 c2 c3 c4 c5 c6 c7 c8 c9; clear hb; have c0 := H1.out.c0; have c1 := H1.out.c1; have c2 := H1.out.c2; have c3 := H1.out.c3; have c4 := H1.out.c4; have c5 := H1.out.c5; have c6 := H1.out.c6; have c7 := H1.out.c7; have c8 := H1.out.c8; have c9 := H1.out.c9)
          | (go_at_call 34; refine (HW.out _).mono ?_; rintro e w3 ⟨rfl, rfl⟩))
        have hx := val_keep H1.out HK1.out HKM.out (Below.refl _ _)
        clear c0 c1 c2 c3 c4 c5 c6 c7 c8 c9
        go_region_held3 (fun w' => PB ⟨(k : Int), t, l, ⟨sa, sn, sc, sZ⟩, ⟨ra, rn, rc, rZ⟩, ⟨ma, mn, mc, mZ⟩, ⟨va, vn, vc, vZ⟩, g, d, o⟩ B B w w' ∧ Kds w' (some ⟨b, off, none⟩) m K ∧ (w'.cell? ⟨b, off + k * 3, none⟩ = some (.string (K k).nm) ∧ w'.cell? ⟨b, off + k * 3 + 1, none⟩ = some (.slice (K k).ta (K k).tn (K k).tc) ∧ w'.cell? ⟨b, off + k * 3 + 2, none⟩ = some (.slice (K k).ma (K k).mn (K k).mc)) ∧ w'.cell? ⟨B, 0, none⟩ = some (.int .i64 (k : Int)) ∧ w'.cell? ⟨B, 1, none⟩ = some (.int .i64 t) ∧ w'.cell? ⟨B, 2, none⟩ = some (.int .i64 l) ∧ w'.cell? ⟨B, 3, none⟩ = some (.slice sa sn sc) ∧ w'.cell? ⟨B, 4, none⟩ = some (.slice ra rn rc) ∧ w'.cell? ⟨B, 5, none⟩ = some (.slice ma mn mc) ∧ w'.cell? ⟨B, 6, none⟩ = some (.slice va vn vc) ∧ w'.cell? ⟨B, 7, none⟩ = some (.int .i64 g) ∧ w'.cell? ⟨B, 8, none⟩ = some (.int .i64 d) ∧ w'.cell? ⟨B, 9, none⟩ = some (.bool o))
          (first
            | exact val_keep H1.out HK1.out HKM.out ((Below.refl _ _).drew)
            | exact val_keep (And.left (by assumption)) (And.left (And.right (by assumption))) HKM.out hn
            | assumption)
          (first
            | (go_at_call 35; refine (HI.out _ (PB.lists (And.left (by assumption)))).mono ?_; rintro e wx ⟨rfl, hn⟩))
        all_goals go_wp2_with fail
        rename_i hh
        have HE := hid hh.1.below
        clear hh hn hx
        go_ret
        exact ⟨by rw [HF.out]; rfl, HE.out⟩
  · have HF : Hid (r = f) := hid (by rw [← HR.out]; exact PErr_k HKF.out h0)
    have h0' : (f != 0) = true := by simpa using h0
    go_enter Try.func15, Try.ntmps15
    go_upto_region 1 with fail
    generalize World.alloc w _ = w1 at H0 HKD ⊢
    have c0 := H0.out.c0; have c1 := H0.out.c1; have c2 := H0.out.c2; have c3 := H0.out.c3; have c4 := H0.out.c4; have c5 := H0.out.c5; have c6 := H0.out.c6; have c7 := H0.out.c7; have c8 := H0.out.c8; have c9 := H0.out.c9
    go_wp2_with (go_at_call 33; refine (HVK.out _ HKD.out).mono ?_; rintro e w2 ⟨rfl, hb⟩; have H1 := hid (H0.out.stays hb); have HK1 := hid (HKD.out.stays hb); clear c0 c1 c2 c3 c4 c5 c6 c7 c8 c9; clear hb; have c0 := H1.out.c0; have c1 := H1.out.c1; have c2 := H1.out.c2; have c3 := H1.out.c3; have c4 := H1.out.c4; have c5 := H1.out.c5; have c6 := H1.out.c6; have c7 := H1.out.c7; have c8 := H1.out.c8; have c9 := H1.out.c9)
    go_ret
    exact ⟨by rw [HF.out]; rfl, H1.out.below⟩
end Go.Proofs.Ytnhkblkijiipeaa
