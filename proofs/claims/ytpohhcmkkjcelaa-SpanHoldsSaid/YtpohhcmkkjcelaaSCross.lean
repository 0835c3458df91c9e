/-
  The walk of crosses of the program: is a tile between the heads?
-/
import Derived.Test.YtpohhcmkkjcelaaSIter
namespace Go.Proofs.Ytpohhcmkkjcelaa
open Go.RowKit Go.Shelf
attribute [local go_sem] Oper.semAt_some wide_fn wide_depth

/-- A tile lies between. -/
def Mid (W a b : Nat) (t : Int) : Prop := ∃ i, i < cnt (stp W a b) a b ∧ t = tl a (stp W a b) i
set_option maxRecDepth 100000 in
set_option maxHeartbeats 3200000 in
theorem crosses_any {W H : Nat} (hW1 : 4 ≤ W) (hW : W ≤ 32) (ao : Option Addr) (n cap : Nat) (Z : Nat → Int) (k u : Int) (a b : Nat) (ha : a ≤ 1024) (hb0 : b ≤ 1024) (hl : Line W a b) (t : Int) (r : Bool) (hr : r = true ↔ Mid W a b t) (w : World) (hI : Ints w ao n Z) :
    Calls Try.prog 45 #[lv W H (.slice ao n cap), sv k a b u, .int .i64 t] w fun e w' => e = .returned (.bool r) ∧ Below w.heap.size w w' := by
  obtain ⟨d, hd⟩ : ∃ d, d = stp W a b := ⟨_, rfl⟩
  obtain ⟨c, hc⟩ : ∃ c, c = cnt d a b := ⟨_, rfl⟩
  unfold Mid at hr
  rw [← hd, ← hc] at hr
  obtain ⟨w4, hw4⟩ : ∃ w4, w4 = (((w.alloc (.cells #[.int .i64 W, .int .i64 H, .slice ao n cap] 24)).alloc (.cells #[.int .i64 k, .int .i64 a, .int .i64 b, .int .i64 u] 26)).alloc (.cells #[.int .i64 t] 3)).alloc (.cells #[.bool false] 4) := ⟨_, rfl⟩
  have hs4 : w4.heap.size = w.heap.size + 1 + 1 + 1 + 1 := by rw [hw4]; simp
  have hB4 : Below w.heap.size w w4 := by rw [hw4]; exact (((Joins.below_alloc2 w _ _).alloc (by simp; omega) _).alloc (by simp; omega) _)
  have h1 : w4.heap[w.heap.size + 1 + 1]? = some (.cells #[.int .i64 t] 3 (0, 0)) := by
    rw [hw4]
    show ((((w.heap.push _).push _).push _).push _)[_]? = _
    rw [Array.getElem?_push, if_neg (by simp), Array.getElem?_push, if_pos (by simp)]
  have h2 : w4.heap[w.heap.size + 1 + 1 + 1]? = some (.cells #[.bool false] 4 (0, 0)) := by
    rw [hw4]
    show ((((w.heap.push _).push _).push _).push _)[_]? = _
    rw [Array.getElem?_push, if_pos (by simp)]
  have x1 : w4.cell? ⟨w.heap.size + 1 + 1, 0, none⟩ = some (.int .i64 t) := cell_of_row w4 _ 0 _ _ _ h1
  have x2 : w4.cell? ⟨w.heap.size + 1 + 1 + 1, 0, none⟩ = some (.bool false) := cell_of_row w4 _ 0 _ _ _ h2
  have x3 : w4.frozen? ⟨w.heap.size + 1 + 1 + 1, 0, none⟩ = false := frozen_of_row w4 _ 0 _ _ h2
  have H4 := hid (mb_start (W := W) (H := H) (cap := cap) (k := k) (a := a) (b := b) (u := u) (hI.stays hB4))
  have X := hid (And.intro hs4 (And.intro hB4 (And.intro x1 (And.intro x2 x3))))
  have HR := hid hr
  have HW4 := hid hw4
  have HD := hid hd
  have HC := hid hc
  clear hd hc hI h1 h2 x1 x2 x3 hB4 hs4 hr hw4
  refine (callsIn_wide (n := 9)).1 ?_
  refine callsIn_of_wp_marks Try.func45 rfl trivial ?_ rfl
  simp only [Try.ntmps45, List.size_toArray, List.length_cons, List.length_nil, Nat.reduceAdd, Nat.reduceSub, Array.replicate_succ, Array.replicate_zero, List.push_toArray, List.append_toArray, List.nil_append, List.cons_append]
  gi_wp2_with (gi_at_call 50; refine (callsIn_wide.2 (between_any W H _ k a b u _)).mono ?_; rintro e w' ⟨rfl, rfl⟩)
  rw [← HW4.out]
  have X' := hid X.out
  clear HW4 X
  generalize World.alloc (World.alloc w4 _) _ = W6 at H4 ⊢
  have hs4 := X'.out.1
  have hB6 : Below w.heap.size w W6 := X'.out.2.1.trans (H4.out.below.mono (by omega))
  have x1 := (H4.out.below.cell (p := ⟨w.heap.size + 1 + 1, 0, none⟩) (by show w.heap.size + 1 + 1 < _; omega)).trans X'.out.2.2.1
  have x2 := (H4.out.below.cell (p := ⟨w.heap.size + 1 + 1 + 1, 0, none⟩) (by show w.heap.size + 1 + 1 + 1 < _; omega)).trans X'.out.2.2.2.1
  have x3 := (H4.out.below.frozen (p := ⟨w.heap.size + 1 + 1 + 1, 0, none⟩) (by show w.heap.size + 1 + 1 + 1 < _; omega)).trans X'.out.2.2.2.2
  have hz6 := H4.out.size
  refine wpIn_rangeFunc_ownF rfl (by omega : 1 ≤ 9) (gf := 74) (lb := #[.pointer (some ⟨w.heap.size + 1 + 1 + 1 + 1, 0, none⟩), .pointer (some ⟨w.heap.size + 1 + 1 + 1 + 1 + 1, 0, none⟩)]) rfl trivial (enters_of Try.func74 (by kernel_rfl) rfl)
    (iter_stops _ hW1 hW ha hb0 hl d c HD.out HC.out H4.out (A := w.heap.size + 1 + 1 + 1 + 1) hs4.symm) belowK_t (belowK_b (by omega)) (Below.refl _ _) (fun _ => rfl)
    (fun pre W' => ((∀ i ∈ pre, t ≠ tl a d i.val) ∧ W'.cell? ⟨w.heap.size + 1 + 1, 0, none⟩ = some (.int .i64 t) ∧ W'.cell? ⟨w.heap.size + 1 + 1 + 1, 0, none⟩ = some (.bool false) ∧ W'.frozen? ⟨w.heap.size + 1 + 1 + 1, 0, none⟩ = false) ∧ Below w.heap.size w W')
    (fun cc _ W' => (cc = .ret ∧ r = true ∧ W'.cell? ⟨w.heap.size + 1 + 1 + 1, 0, none⟩ = some (.bool true)) ∧ Below w.heap.size w W')
    (OwnFrom.and (Own.from (fun s A B row hs hg hr => ⟨hs.1, cell_kept hs.2.1 hg hr, cell_kept hs.2.2.1 hg hr, (frozen_kept hs.2.2.1 hg hr).trans hs.2.2.2⟩) _) (ownFrom_below (Nat.le_refl _) (by omega)))
    (fun cc => OwnFrom.and (Own.from (fun s A B row hs hg hr => ⟨hs.1, hs.2.1, cell_kept hs.2.2 hg hr⟩) _) (ownFrom_below (Nat.le_refl _) (by omega)))
    ⟨⟨by simp, x1, x2, x3⟩, hB6⟩
    (fun x => { tmps := #[lv W H (.slice ao n cap), sv k a b u, .int .i64 t, .pointer (some ⟨w.heap.size, 0, none⟩), .pointer (some ⟨w.heap.size + 1, 0, none⟩), .pointer (some ⟨w.heap.size + 1 + 1, 0, none⟩), .pointer (some ⟨w.heap.size + 1 + 1 + 1, 0, none⟩), .int .i64 (tl a d x.val), lv W H (.slice ao n cap), sv k a b u,
      .func (.func 74) #[] #[.pointer (some ⟨w.heap.size + 1 + 1 + 1 + 1, 0, none⟩), .pointer (some ⟨w.heap.size + 1 + 1 + 1 + 1 + 1, 0, none⟩)], .int .i64 (tl a d x.val), undef, undef, undef], defers := [] }) ?assign ?body ?done ?stop
  case assign =>
    intro l x W K hK
    gi_wp2
    exact hK
  case body =>
    rintro l pre x W' ⟨⟨hp, hcw, hcr, hfr⟩, hB⟩ _
    obtain ⟨y, hy⟩ : ∃ y : Int, y = (tl a d x.val) := ⟨_, rfl⟩
    rw [← hy]
    have HP := hid hp
    have HY := hid hy
    clear hp hy
    by_cases hyt : y = t
    · subst hyt
      gi_wp2
      exact ⟨KeepsOthers.setCell _ _ _, ⟨rfl, HR.out.2 ⟨x.val, x.isLt, HY.out⟩, World.cell?_setCell_same' _ _ _ (by rw [hcr]; rfl)⟩, hB.setCell (p := ⟨w.heap.size + 1 + 1 + 1, 0, none⟩) (by show w.heap.size ≤ w.heap.size + 1 + 1 + 1; omega) _⟩
    · have g : (y == t) = false := by simpa using hyt
      gi_wp2
      exact ⟨KeepsOthers.refl _, Below.refl _ _, ⟨fun i hi => (List.mem_append.1 hi).elim (HP.out i) (fun e => by simp at e; subst e; rw [← HY.out]; exact fun q => hyt q.symm), hcw, hcr, hfr⟩, hB⟩
  case done =>
    rintro D ys W' hD rfl ⟨⟨hne, _, hcr, hfr⟩, hB⟩ hK
    have hrf : r = false := by
      rw [Bool.eq_false_iff]; intro h
      obtain ⟨i, hi, e⟩ := HR.out.1 h
      exact hne ⟨i, hi⟩ (List.mem_finRange _) e
    subst hrf
    gi_wp2
    have hK' := (KeepsOthers.setCell W' ⟨w.heap.size + 1 + 1 + 1, 0, none⟩ (.bool false)).same D _ hK rfl
    refine ⟨by simp, .inl ⟨_, _, rfl, run_takeDeferred hK', ?_⟩⟩
    have hc5 := cell_kept (World.cell?_setCell_same' W' ⟨w.heap.size + 1 + 1 + 1, 0, none⟩ (.bool false) (by rw [hcr]; rfl)) (grownBy_putObj' _ D (.deferred none)) (fun r e => by cases e; exact ⟨_, hK', rfl⟩)
    refine ⟨.bool false, ?_, rfl, (hB.setCell (p := ⟨w.heap.size + 1 + 1 + 1, 0, none⟩) (by show w.heap.size ≤ w.heap.size + 1 + 1 + 1; omega) _).trans (belowK_b (w := w) (Nat.le_refl _) _ D _ _ (by omega) hK' rfl rfl)⟩
    simp [results, Try.f45, go_sem, hc5]
  case stop =>
    rintro D cc pre W' hD hpre ⟨⟨rfl, hin, hcr⟩, hB⟩ hK
    subst hin
    gi_wp2
    refine ⟨by simp, .inl ⟨_, _, rfl, run_takeDeferred hK, ?_⟩⟩
    have hc5 := cell_kept hcr (grownBy_putObj' _ D (.deferred none)) (fun r e => by cases e; exact ⟨_, hK, rfl⟩)
    refine ⟨.bool true, ?_, rfl, hB.trans (belowK_b (w := w) (Nat.le_refl _) W' D _ _ (by omega) hK rfl rfl)⟩
    simp [results, Try.f45, go_sem, hc5]
end Go.Proofs.Ytpohhcmkkjcelaa
