/-
  The walk of isKind: a kind's name, its cargoes and amounts.
-/
import Derived.Test.YtnhkblkijiipeaaFMem
namespace Go.Proofs.Ytnhkblkijiipeaa
open Go.RowKit

/-- What lies in memory: the kind's box at X, its lists. -/
structure KB (k : Kd) (B X : Nat) (w wr : World) : Prop where
  below : Below B w wr
  le : B ≤ wr.heap.size
  bx : wr.heap[X]? = some (.cells #[.string k.nm, .slice k.ta k.tn k.tc, .slice k.ma k.mn k.mc] 40 (0, 0))
  lists : KdAt wr k
theorem KB.stays {k : Kd} {B X : Nat} {w wr w' : World} (h : KB k B X w wr) (hb : Below wr.heap.size wr w') : KB k B X w w' :=
  ⟨h.below.trans (hb.mono h.le), Nat.le_trans h.le hb.size, (hb.block _ (heap_lt h.bx)).trans h.bx, h.lists.stays hb⟩
theorem KB.c0 {k : Kd} {B X : Nat} {w wr : World} (h : KB k B X w wr) : wr.cell? ⟨X, 0, none⟩ = some (.string k.nm) := cell_of_row _ _ 0 _ _ _ h.bx
theorem KB.c1 {k : Kd} {B X : Nat} {w wr : World} (h : KB k B X w wr) : wr.cell? ⟨X, 1, none⟩ = some (.slice k.ta k.tn k.tc) := cell_of_row _ _ 1 _ _ _ h.bx
theorem KB.c2 {k : Kd} {B X : Nat} {w wr : World} (h : KB k B X w wr) : wr.cell? ⟨X, 2, none⟩ = some (.slice k.ma k.mn k.mc) := cell_of_row _ _ 2 _ _ _ h.bx
theorem KB.start {k : Kd} {w : World} (h : KdAt w k) : KB k w.heap.size w.heap.size w (w.alloc (.cells #[.string k.nm, .slice k.ta k.tn k.tc, .slice k.ma k.mn k.mc] 40)) :=
  ⟨Joins.below_alloc1 _ _, by rw [World.size_alloc]; omega, heap_new _ _, h.stays (Joins.below_alloc1 _ _)⟩
theorem amount_any (x y : Int) (q : Bool) (hq : inB 1 y 1000 = q) (w : World) : Calls Try.prog 65 #[.agg #[.int .i64 x, .int .i64 y]] w fun e w' => e = .returned (.bool (!q)) ∧ Below w.heap.size w w' := by
  have HH := hid hq
  have HB := hid (Joins.below_alloc1 w (.cells #[.int .i64 x, .int .i64 y] 42))
  clear hq
  go_enter Try.func65, Try.ntmps65
  go_wp2_with (go_at_call 34; refine (within_any 1 y 1000 q HH.out _).mono ?_; rintro e w' ⟨rfl, rfl⟩)
  go_ret
  exact ⟨by cases q <;> rfl, HB.out⟩
set_option maxRecDepth 100000 in
set_option maxHeartbeats 6400000 in
theorem iskind_any (k : Kd) (htn : k.tn ≤ 1000) (hmn : k.mn ≤ 1000) (hs : k.nm.size ≤ maxLen) (q : Bool) (hq : okK k = q) (w : World) (h : KdAt w k) :
    Calls Try.prog 58 #[kv k] w fun e w' => e = .returned (.bool q) ∧ Below w.heap.size w w' := by
  have H0 := hid (KB.start h)
  obtain ⟨nm, ta, tn, tc, T, ma, mn, mc, C, A⟩ := k
  dsimp only at htn hmn hs
  show Calls _ _ #[.agg #[.string nm, .slice ta tn tc, .slice ma mn mc]] w _
  obtain ⟨q1, e1⟩ : ∃ q, isNm nm = q := ⟨_, rfl⟩
  obtain ⟨q2, e2⟩ : ∃ q, okL tn T = q := ⟨_, rfl⟩
  obtain ⟨q3, e3⟩ : ∃ q, okL mn C = q := ⟨_, rfl⟩
  obtain ⟨q4, e4⟩ : ∃ q, anyP mn (badA A) = q := ⟨_, rfl⟩
  have HQ : Hid ((q1 && q2 && q3 && !q4) = q) := hid (by rw [← hq, ← e1, ← e2, ← e3, ← e4]; rfl)
  have HN := hid (fun W => isname_any nm hs q1 e1 W)
  have HT := hid (fun W h => arecargoes_any ta tn tc T htn q2 e2 W h)
  have HM := hid (fun W h => made_any nm (.slice ta tn tc) ⟨_, _, _, rfl⟩ ma mn mc C A hmn W h)
  have HC := hid (fun vo vc W h => arecargoes_any vo mn vc C hmn q3 e3 W h)
  have HA : Hid (∀ W, Mks W ma mn C A → Calls Try.prog 68 #[.slice ma mn mc, .func (.func 65) #[] #[]] W (AnyPost q4 W)) := hid (fun W hW => by
    have := containsM_any 65 #[] (enters_of Try.func65 (by kernel_rfl) rfl) ma mn mc C A (badA A) (by omega) W hW (fun i hi W' hW' => amount_any (C i) (A i) _ rfl W')
    rw [e4] at this; exact this)
  obtain ⟨B, hB⟩ : ∃ B, w.heap.size = B := ⟨_, rfl⟩
  rw [hB] at H0 ⊢
  clear e1 e2 e3 e4 hq h
  cases q1
  · have HF : Hid (q = false) := hid (by rw [← HQ.out]; simp)
    go_enter Try.func58, Try.ntmps58
    go_upto_region 1 with fail
    generalize World.alloc w _ = w1 at H0 ⊢
    have c0 := H0.out.c0
    have c1 := H0.out.c1
    have c2 := H0.out.c2
    go_wp2_with (first
      | (go_at_call 66; refine (HN.out _).mono ?_; rintro e w2 ⟨rfl, hb2⟩; have H1 := hid (H0.out.stays hb2); clear c0 c1 c2 hb2; have c0 := H1.out.c0; have c1 := H1.out.c1; have c2 := H1.out.c2))
    go_ret
    exact ⟨by rw [HF.out]; rfl, H1.out.below⟩
  · skip
    cases q2
    · have HF : Hid (q = false) := hid (by rw [← HQ.out]; simp)
      go_enter Try.func58, Try.ntmps58
      go_upto_region 1 with fail
      generalize World.alloc w _ = w1 at H0 ⊢
      have c0 := H0.out.c0
      have c1 := H0.out.c1
      have c2 := H0.out.c2
      go_wp2_with (first
        | (go_at_call 66; refine (HN.out _).mono ?_; rintro e w2 ⟨rfl, hb2⟩; have H1 := hid (H0.out.stays hb2); clear c0 c1 c2 hb2; have c0 := H1.out.c0; have c1 := H1.out.c1; have c2 := H1.out.c2)
        | (go_at_call 67; with_reducible refine (HT.out _ H1.out.lists.t).mono ?_; rintro e w3 ⟨rfl, rfl⟩))
      go_ret
      exact ⟨by rw [HF.out]; rfl, H1.out.below⟩
    · skip
      cases q3
      · have HF : Hid (q = false) := hid (by rw [← HQ.out]; simp)
        go_enter Try.func58, Try.ntmps58
        go_upto_region 1 with fail
        generalize World.alloc w _ = w1 at H0 ⊢
        have c0 := H0.out.c0
        have c1 := H0.out.c1
        have c2 := H0.out.c2
        go_wp2_with (first
          | (go_at_call 66; refine (HN.out _).mono ?_; rintro e w2 ⟨rfl, hb2⟩; have H1 := hid (H0.out.stays hb2); clear c0 c1 c2 hb2; have c0 := H1.out.c0; have c1 := H1.out.c1; have c2 := H1.out.c2)
          | (go_at_call 67; with_reducible refine (HT.out _ H1.out.lists.t).mono ?_; rintro e w3 ⟨rfl, rfl⟩)
          | (go_at_call 48; refine (HM.out _ H1.out.lists.m).mono ?_; rintro e w4 ⟨v, rfl, hrow, hb4⟩; obtain ⟨vo, vc, rfl⟩ := row_slice hrow; have HR := hid (RowI.ints hrow); have H2 := hid (H1.out.stays hb4); clear c0 c1 c2 hb4 hrow; have c0 := H2.out.c0; have c1 := H2.out.c1; have c2 := H2.out.c2)
          | (go_at_call 67; with_reducible refine (HC.out _ _ _ HR.out).mono ?_; rintro e w5 ⟨rfl, rfl⟩))
        go_ret
        exact ⟨by rw [HF.out]; rfl, H2.out.below⟩
      · skip
        have HF : Hid ((!q4) = q) := hid (by rw [← HQ.out]; rfl)
        go_enter Try.func58, Try.ntmps58
        go_upto_region 1 with fail
        generalize World.alloc w _ = w1 at H0 ⊢
        have c0 := H0.out.c0
        have c1 := H0.out.c1
        have c2 := H0.out.c2
        go_wp2_with (first
          | (go_at_call 66; refine (HN.out _).mono ?_; rintro e w2 ⟨rfl, hb2⟩; have H1 := hid (H0.out.stays hb2); clear c0 c1 c2 hb2; have c0 := H1.out.c0; have c1 := H1.out.c1; have c2 := H1.out.c2)
          | (go_at_call 67; with_reducible refine (HT.out _ H1.out.lists.t).mono ?_; rintro e w3 ⟨rfl, rfl⟩)
          | (go_at_call 48; refine (HM.out _ H1.out.lists.m).mono ?_; rintro e w4 ⟨v, rfl, hrow, hb4⟩; obtain ⟨vo, vc, rfl⟩ := row_slice hrow; have HR := hid (RowI.ints hrow); have H2 := hid (H1.out.stays hb4); clear c0 c1 c2 hb4 hrow; have c0 := H2.out.c0; have c1 := H2.out.c1; have c2 := H2.out.c2)
          | (go_at_call 67; with_reducible refine (HC.out _ _ _ HR.out).mono ?_; rintro e w5 ⟨rfl, rfl⟩)
          | (go_at_call 68; refine (HA.out _ H2.out.lists.m).mono ?_; rintro e w6 ⟨rfl, hb6⟩; have H3 := hid (H2.out.stays hb6); clear c0 c1 c2 hb6; have c0 := H3.out.c0; have c1 := H3.out.c1; have c2 := H3.out.c2))
        go_ret
        exact ⟨ret_bool (a := !q4) HF.out, H3.out.below⟩
end Go.Proofs.Ytnhkblkijiipeaa
