/-
  Whether a train may pass: the walks of at of the reference, of May of both, and of the law.
-/
import Derived.Test.YtbfpcolkbfljoaaDoorBLVal
import Derived.Test.YtbfpcolkbfljoaaDoorRWalkHas
import Derived.Test.YtbfpcolkbfljoaaDoorRLawNext
namespace Go.Proofs.YtbfpcolkbfljoaaDoor
open Go.RowKit Go.Maps

/-- The place of the first signal at a spot; -1: none. -/
def AtIs (l : Nat) (S : Nat → Sg) (t p o v : Int) : Prop := (v = -1 ∧ ∀ i, i < l → ¬ ((S i).t = t ∧ (S i).p = p ∧ (S i).o = o)) ∨ ∃ i : Nat, v = i ∧ i < l ∧ ((S i).t = t ∧ (S i).p = p ∧ (S i).o = o) ∧ ∀ j, j < i → ¬ ((S j).t = t ∧ (S j).p = p ∧ (S j).o = o)
theorem AtIs.ex (l : Nat) (S : Nat → Sg) (t p o : Int) : ∃ v, AtIs l S t p o v := by
  obtain ⟨P, hP⟩ := dec_of fun i => ¬ ((S i).t = t ∧ (S i).p = p ∧ (S i).o = o)
  rcases first_of P l with h | ⟨i, h1, h2, h3⟩
  · exact ⟨-1, .inl ⟨rfl, fun i hi => (hP i).1 (h i hi)⟩⟩
  · refine ⟨i, .inr ⟨i, rfl, h1, ?_, fun j hj => (hP j).1 (h3 j hj)⟩⟩
    by_cases h : (S i).t = t ∧ (S i).p = p ∧ (S i).o = o
    · exact h
    · rw [(hP i).2 h] at h2; cases h2
set_option maxRecDepth 20000 in
set_option maxHeartbeats 6400000 in
theorem at_any (lo : Option Addr) (l lcap : Nat) (S : Nat → Sg) (hl : l ≤ 1000) (t p o v : Int) (hv : AtIs l S t p o v) (w : World) (hS : SigsAt w lo l S) :
    Calls Tryd.prog 60 #[.slice lo l lcap, .int .i64 t, .int .i64 p, .int .i64 o] w fun r w' => r = .returned (.int .i64 v) ∧ Below w.heap.size w w' := by
  have HV := hid hv
  have HS := hid hS
  clear hv hS
  go_enter Tryd.func60, Tryd.ntmps60
  go_wp2_with fail
  go_loopw [9] (fun iv wr => ∃ i : Nat, i ≤ l ∧ iv = .int .i64 i ∧ wr = w ∧ Hid (∀ j, j < i → ¬ ((S j).t = t ∧ (S j).p = p ∧ (S j).o = o))) (fun iv _ => l - (intOf iv).toNat)
  case atStart => exact ⟨0, Nat.zero_le _, rfl, rfl, hid (fun j hj => by omega)⟩
  case round =>
    obtain ⟨i, hi, rfl, rfl, hk⟩ := hrel
    by_cases hlt : i < l
    · obtain ⟨bl, off, rfl, hbz, c0, c1, c2, c3⟩ := HS.out i hlt
      obtain ⟨x, hx⟩ : ∃ x, x = (S i).t := ⟨_, rfl⟩
      obtain ⟨y, hy⟩ : ∃ y, y = (S i).p := ⟨_, rfl⟩
      obtain ⟨z, hz⟩ : ∃ z, z = (S i).o := ⟨_, rfl⟩
      rw [← hx] at c0
      rw [← hy] at c1
      rw [← hz] at c2
      have HX := hid (And.intro hx (And.intro hy hz))
      have a4 : (i : Int) < (l : Int) := by omega
      clear hx hy hz
      by_cases ha : x = t ∧ y = p ∧ z = o
      · have hvi : Hid (v = i) := hid (by
          obtain ⟨h1, h2, h3⟩ := HX.out
          rw [h1, h2, h3] at ha
          rcases HV.out with ⟨_, h⟩ | ⟨q, rfl, hq, hs, hm⟩
          · exact absurd ha (h i hlt)
          · by_cases e : q < i
            · exact absurd hs (hk.out q e)
            · by_cases e' : i < q
              · exact absurd ha (hm i e')
              · omega)
        obtain ⟨rfl, rfl, rfl⟩ := ha
        go_wp2_with fail
        go_ret
        exact ⟨ret_int hvi.out.symm, Below.refl _ _⟩
      · have hqj : Hid (∀ j, j < i + 1 → ¬ ((S j).t = t ∧ (S j).p = p ∧ (S j).o = o)) := hid (fun j hj h => by
          by_cases e : j < i
          · exact hk.out j e h
          · obtain rfl : j = i := by omega
            obtain ⟨h1, h2, h3⟩ := HX.out
            exact ha ⟨h1.trans h.1, h2.trans h.2.1, h3.trans h.2.2⟩)
        have hcs : (x == t) = false ∨ (x = t ∧ (y == p) = false) ∨ (x = t ∧ y = p ∧ (z == o) = false) := by
          by_cases h1 : x = t
          · by_cases h2 : y = p
            · exact .inr (.inr ⟨h1, h2, by simpa using fun h3 => ha ⟨h1, h2, h3⟩⟩)
            · exact .inr (.inl ⟨h1, by simpa using h2⟩)
          · exact .inl (by simpa using h1)
        clear ha
        rcases hcs with h1 | ⟨rfl, h2⟩ | ⟨rfl, rfl, h3⟩
        all_goals
          go_wp2_with fail
          exact ⟨⟨i + 1, by omega, by go_num, trivial, hqj⟩, by simp [intOf]; omega⟩
    · obtain rfl : i = l := by omega
      have hvi : Hid (v = -1) := hid (by
        rcases HV.out with ⟨h, _⟩ | ⟨q, rfl, hq, hs, _⟩
        · exact h
        · exact absurd hs (hk.out q hq))
      go_wp2_with fail
      go_ret
      exact ⟨ret_int hvi.out.symm, Below.refl _ _⟩

/-- Whether a signal at a spot stands against who comes from there: one that is no path signal. -/
def agB (d : Rl) (t p o : Int) : Bool := (List.range d.l).any fun i => (d.S i).t == t && (d.S i).p == p && (d.S i).o == o && (d.S i).k != 4
theorem agB_iff (d : Rl) (t p o : Int) : agB d t p o = true ↔ ∃ i, i < d.l ∧ (d.S i).t = t ∧ (d.S i).p = p ∧ (d.S i).o = o ∧ (d.S i).k ≠ 4 := by
  unfold agB; simp only [List.any_eq_true, List.mem_range, Bool.and_eq_true, beq_iff_eq, bne_iff_ne, and_assoc]
/-- What May gives. -/
def MayIs (d : Rl) (t p o t' p' o' : Int) (b : Bool) (e : Int) : Prop :=
  (e ≠ 0 ∧ b = false ∧ DErr d e) ∨ (DErr d 0 ∧ ∃ L e1, NextIs d.W d.H d.n d.m d.Z d.B t p o L e1 ∧ ((e1 ≠ 0 ∧ b = false ∧ e = e1) ∨ (e1 = 0 ∧ (((t', p', o') ∉ L ∧ b = false ∧ e = 8) ∨ ((t', p', o') ∈ L ∧ e = 0 ∧ b = (cutB d t p o || !agB d t' p' ((o + 2) % 4))))))) 
theorem MayIs.ex (d : Rl) (t p o t' p' o' : Int) : ∃ b e, MayIs d t p o t' p' o' b e := by
  obtain ⟨e, he⟩ := BErr.ex d.W d.H d.n d.m d.Z d.B d.l d.S
  by_cases h0 : e = 0
  · subst h0
    obtain ⟨L, e1, hn⟩ := NextIs.ex d.W d.H d.n d.m d.Z d.B t p o
    by_cases h1 : e1 = 0
    · by_cases hm : (t', p', o') ∈ L
      · exact ⟨_, 0, .inr ⟨he, L, e1, hn, .inr ⟨h1, .inr ⟨hm, rfl, rfl⟩⟩⟩⟩
      · exact ⟨false, 8, .inr ⟨he, L, e1, hn, .inr ⟨h1, .inl ⟨hm, rfl, rfl⟩⟩⟩⟩
    · exact ⟨false, e1, .inr ⟨he, L, e1, hn, .inl ⟨h1, rfl, rfl⟩⟩⟩
  · exact ⟨false, e, .inl ⟨h0, rfl, he⟩⟩
/-- A spot behind a spot comes in at the side through which one left. -/
theorem nxt_ends {W H : Int} {Z : Nat → Int} {t o : Int} {t' p' o' : Int} (h : (t', p', o') ∈ nxt W H Z t o) : 0 ≤ oth p' o' ∧ oth p' o' = (o + 2) % 4 := by
  have hf : ∀ (b d : Int) k, (t', p', o') ∈ fol Z b d k → 0 ≤ oth p' o' ∧ oth p' o' = d := by
    intro b d k
    induction k with
    | zero => intro h; cases h
    | succ k ih =>
      intro h
      by_cases hc : 0 ≤ oth k d ∧ has (Z b.toNat) k = true
      · rw [fol_yes hc.1 hc.2] at h
        simp at h
        rcases h with h | ⟨rfl, rfl, rfl⟩
        · exact ih h
        · have hb := oth_back hc.1
          have hy := (oth_yes hc.1).2.1
          rw [hb]; exact ⟨hy, rfl⟩
      · rw [fol_no hc] at h; exact ih h
  unfold nxt at h
  split at h
  · exact hf _ _ _ h
  · cases h

theorem three_heap (w : World) (a b c : Obj) : (((w.alloc a).alloc b).alloc c).heap[w.heap.size + 1]? = some b ∧ (((w.alloc a).alloc b).alloc c).heap[w.heap.size + 1 + 1]? = some c := by
  refine ⟨?_, ?_⟩
  · show (((w.heap.push _).push _).push _)[_]? = _
    rw [Array.getElem?_push, if_neg (by simp), Array.getElem?_push, if_pos (by simp)]
  · show (((w.heap.push _).push _).push _)[_]? = _
    rw [Array.getElem?_push, if_pos (by simp)]
/-- The boxes of rails and of two spots. -/
structure SM (d : Rl) (t p o t' p' o' : Int) (w wr : World) : Prop where
  below : Below w.heap.size w wr
  rx : RX d w.heap.size wr
  size : w.heap.size + 1 + 1 < wr.heap.size
  s0 : wr.cell? ⟨w.heap.size + 1, 0, none⟩ = some (.int .i64 t)
  s1 : wr.cell? ⟨w.heap.size + 1, 1, none⟩ = some (.int .i64 p)
  s2 : wr.cell? ⟨w.heap.size + 1, 2, none⟩ = some (.int .i64 o)
  n0 : wr.cell? ⟨w.heap.size + 1 + 1, 0, none⟩ = some (.int .i64 t')
  n1 : wr.cell? ⟨w.heap.size + 1 + 1, 1, none⟩ = some (.int .i64 p')
  n2 : wr.cell? ⟨w.heap.size + 1 + 1, 2, none⟩ = some (.int .i64 o')
theorem SM.stays {d : Rl} {t p o t' p' o' : Int} {w wr w' : World} (h : SM d t p o t' p' o' w wr) (k : Below wr.heap.size wr w') : SM d t p o t' p' o' w w' :=
  have a : ∀ i, w'.cell? ⟨w.heap.size + 1, i, none⟩ = wr.cell? ⟨w.heap.size + 1, i, none⟩ := fun i => k.cell (p := ⟨w.heap.size + 1, i, none⟩) (Nat.lt_of_succ_lt h.size)
  have b : ∀ i, w'.cell? ⟨w.heap.size + 1 + 1, i, none⟩ = wr.cell? ⟨w.heap.size + 1 + 1, i, none⟩ := fun i => k.cell (p := ⟨w.heap.size + 1 + 1, i, none⟩) h.size
  ⟨step h.below k, h.rx.stays k, Nat.lt_of_lt_of_le h.size k.size, (a 0).trans h.s0, (a 1).trans h.s1, (a 2).trans h.s2, (b 0).trans h.n0, (b 1).trans h.n1, (b 2).trans h.n2⟩
theorem SM.start (d : Rl) (t p o t' p' o' : Int) {w : World} (h : Has d w) : SM d t p o t' p' o' w (((w.alloc (.cells #[.int .i64 d.W, .int .i64 d.H, d.as, d.bs] 25)).alloc (.cells #[.int .i64 t, .int .i64 p, .int .i64 o] 50)).alloc (.cells #[.int .i64 t', .int .i64 p', .int .i64 o'] 50)) :=
  have q := three_heap w (.cells #[.int .i64 d.W, .int .i64 d.H, d.as, d.bs] 25) (.cells #[.int .i64 t, .int .i64 p, .int .i64 o] 50) (.cells #[.int .i64 t', .int .i64 p', .int .i64 o'] 50)
  ⟨(Joins.below_alloc2 _ _ _).alloc (by simp; omega) _, ((RX.start h).stays (Joins.below_alloc1 _ _)).stays (Joins.below_alloc1 _ _), heap_lt q.2, cell_of_row _ _ 0 _ _ _ q.1, cell_of_row _ _ 1 _ _ _ q.1, cell_of_row _ _ 2 _ _ _ q.1, cell_of_row _ _ 0 _ _ _ q.2, cell_of_row _ _ 1 _ _ _ q.2, cell_of_row _ _ 2 _ _ _ q.2⟩
theorem SM.has {d : Rl} {t p o t' p' o' : Int} {w wr : World} (h : SM d t p o t' p' o' w wr) : Has d wr := h.rx.has
theorem dnext_to (d : Rl) (hb : Bnd d) (t p s : Int) (L : List (Int × Int × Int)) (e : Int) (h : NextIs d.W d.H d.n d.m d.Z d.B t p s L e) (w : World) (hH : Has d w) : Calls Tryd.prog 73 #[d.rv, sv t p s] w (NextOut L e w) :=
  next_to d.W d.H d.ao d.n d.cap d.Z d.bo d.m d.bcap d.B hb.n hb.m t p s L e h w hH.tab hH.ints hH.bools
theorem drnext_to (d : Rl) (hb : Bnd d) (t p s : Int) (L : List (Int × Int × Int)) (e : Int) (h : NextIs d.W d.H d.n d.m d.Z d.B t p s L e) (w : World) (hH : Has d w) : Calls Tryd.prog 71 #[d.rv, sv t p s] w (NextOut L e w) :=
  refnext_to d.W d.H d.ao d.n d.cap d.Z d.bo d.m d.bcap d.B hb.n hb.m t p s L e h w hH.tab hH.ints hH.bools

set_option maxRecDepth 20000 in
set_option maxHeartbeats 12800000 in
theorem may_to (d : Rl) (hb : Bnd d) (t p o t' p' o' : Int) (b : Bool) (e : Int) (h : MayIs d t p o t' p' o' b e) (w : World) (hH : Has d w) :
    Calls Tryd.prog 38 #[d.rv, d.ls, sv t p o, sv t' p' o'] w fun r w' => r = .returned (.tuple #[.bool b, .int .i64 e]) ∧ Below w.heap.size w w' := by
  have HM := hid (SM.start d t p o t' p' o' hH)
  clear hH
  rcases h with ⟨h0, rfl, hd⟩ | ⟨hd, L, e1, hn, h⟩
  · have HV := hid (fun w hH => dvalidate_to d hb e hd w hH)
    have g : (e != 0) = true := by simpa using h0
    have g2 : (e == 0) = false := by simpa using h0
    go_enter Tryd.func38, Tryd.ntmps38
    go_upto_region 1 with fail
    generalize World.alloc (World.alloc (World.alloc w _) _) _ = wm at HM ⊢
    have c0 := HM.out.rx.c0
    have c1 := HM.out.rx.c1
    have c2 := HM.out.rx.c2
    have c3 := HM.out.rx.c3
    have s0 := HM.out.s0
    have s1 := HM.out.s1
    have s2 := HM.out.s2
    have n0 := HM.out.n0
    have n1 := HM.out.n1
    have n2 := HM.out.n2
    have hz := HM.out.size
    go_wp2_with (go_at_call 19; (refine (HV.out _ HM.out.has).mono ?_); rintro r w1 ⟨rfl, hb⟩; have HN := hid (HM.out.stays hb); clear hb c0 c1 c2 c3 s0 s1 s2 n0 n1 n2 hz HM; have HM := HN; clear HN; have c0 := HM.out.rx.c0; have c1 := HM.out.rx.c1; have c2 := HM.out.rx.c2; have c3 := HM.out.rx.c3; have s0 := HM.out.s0; have s1 := HM.out.s1; have s2 := HM.out.s2; have n0 := HM.out.n0; have n1 := HM.out.n1; have n2 := HM.out.n2; have hz := HM.out.size)
    go_ret2
    exact ⟨rfl, HM.out.below⟩
  · have HV := hid (fun w hH => dvalidate_to d hb 0 hd w hH)
    have HX := hid (fun w hH => dnext_to d hb t p o L e1 hn w hH)
    have hok := hd.gd.ok
    have hll := hn.len
    rcases h with ⟨h1, rfl, rfl⟩ | ⟨rfl, h⟩
    · have g : (e != 0) = true := by simpa using h1
      have g2 : (e == 0) = false := by simpa using h1
      clear hd hn hok
      go_enter Tryd.func38, Tryd.ntmps38
      go_upto_region 1 with fail
      generalize World.alloc (World.alloc (World.alloc w _) _) _ = wm at HM ⊢
      have c0 := HM.out.rx.c0
      have c1 := HM.out.rx.c1
      have c2 := HM.out.rx.c2
      have c3 := HM.out.rx.c3
      have s0 := HM.out.s0
      have s1 := HM.out.s1
      have s2 := HM.out.s2
      have n0 := HM.out.n0
      have n1 := HM.out.n1
      have n2 := HM.out.n2
      have hz := HM.out.size
      go_wp2_with (first
        | (go_at_call 19; (refine (HV.out _ HM.out.has).mono ?_); rintro r w1 ⟨rfl, hb⟩; have HN := hid (HM.out.stays hb); clear hb c0 c1 c2 c3 s0 s1 s2 n0 n1 n2 hz HM; have HM := HN; clear HN; have c0 := HM.out.rx.c0; have c1 := HM.out.rx.c1; have c2 := HM.out.rx.c2; have c3 := HM.out.rx.c3; have s0 := HM.out.s0; have s1 := HM.out.s1; have s2 := HM.out.s2; have n0 := HM.out.n0; have n1 := HM.out.n1; have n2 := HM.out.n2; have hz := HM.out.size)
        | (go_at_call 73; (refine (HX.out _ HM.out.has).mono ?_); rintro r w1 ⟨lst, rfl, hrow, hb⟩; have HN := hid (HM.out.stays hb); clear hb c0 c1 c2 c3 s0 s1 s2 n0 n1 n2 hz HM; have HM := HN; clear HN; have c0 := HM.out.rx.c0; have c1 := HM.out.rx.c1; have c2 := HM.out.rx.c2; have c3 := HM.out.rx.c3; have s0 := HM.out.s0; have s1 := HM.out.s1; have s2 := HM.out.s2; have n0 := HM.out.n0; have n1 := HM.out.n1; have n2 := HM.out.n2; have hz := HM.out.size))
      go_ret2
      exact ⟨rfl, HM.out.below⟩
    · rcases h with ⟨hm, rfl, rfl⟩ | ⟨hm, rfl, hbb⟩
      · have HCN := hid (fun A al cl w hr => contains_any L (by omega) A al cl t' p' o' false ⟨fun h => (by cases h), fun h => absurd h hm⟩ w hr)
        clear hd hn hok hm
        go_enter Tryd.func38, Tryd.ntmps38
        go_upto_region 1 with fail
        generalize World.alloc (World.alloc (World.alloc w _) _) _ = wm at HM ⊢
        have c0 := HM.out.rx.c0
        have c1 := HM.out.rx.c1
        have c2 := HM.out.rx.c2
        have c3 := HM.out.rx.c3
        have s0 := HM.out.s0
        have s1 := HM.out.s1
        have s2 := HM.out.s2
        have n0 := HM.out.n0
        have n1 := HM.out.n1
        have n2 := HM.out.n2
        have hz := HM.out.size
        go_wp2_with (first
          | (go_at_call 19; (refine (HV.out _ HM.out.has).mono ?_); rintro r w1 ⟨rfl, hb⟩; have HN := hid (HM.out.stays hb); clear hb c0 c1 c2 c3 s0 s1 s2 n0 n1 n2 hz HM; have HM := HN; clear HN; have c0 := HM.out.rx.c0; have c1 := HM.out.rx.c1; have c2 := HM.out.rx.c2; have c3 := HM.out.rx.c3; have s0 := HM.out.s0; have s1 := HM.out.s1; have s2 := HM.out.s2; have n0 := HM.out.n0; have n1 := HM.out.n1; have n2 := HM.out.n2; have hz := HM.out.size)
          | (go_at_call 73; (refine (HX.out _ HM.out.has).mono ?_); rintro r w1 ⟨lst, rfl, hrow, hb⟩; obtain ⟨al, cl, rfl⟩ := slice_of_row hrow; have HR := hid hrow; have HN := hid (HM.out.stays hb); clear hb c0 c1 c2 c3 s0 s1 s2 n0 n1 n2 hz HM; have HM := HN; clear HN; have c0 := HM.out.rx.c0; have c1 := HM.out.rx.c1; have c2 := HM.out.rx.c2; have c3 := HM.out.rx.c3; have s0 := HM.out.s0; have s1 := HM.out.s1; have s2 := HM.out.s2; have n0 := HM.out.n0; have n1 := HM.out.n1; have n2 := HM.out.n2; have hz := HM.out.size; clear hrow)
          | (go_at_call 77; (refine (HCN.out _ _ _ _ HR.out).mono ?_); rintro r w1 ⟨rfl, hb⟩; have HN := hid (HM.out.stays hb); clear hb c0 c1 c2 c3 s0 s1 s2 n0 n1 n2 hz HM; have HM := HN; clear HN; have c0 := HM.out.rx.c0; have c1 := HM.out.rx.c1; have c2 := HM.out.rx.c2; have c3 := HM.out.rx.c3; have s0 := HM.out.s0; have s1 := HM.out.s1; have s2 := HM.out.s2; have n0 := HM.out.n0; have n1 := HM.out.n1; have n2 := HM.out.n2; have hz := HM.out.size))
        go_ret2
        exact ⟨rfl, HM.out.below⟩
      · have hnb : 0 ≤ oth p' o' ∧ oth p' o' = (o + 2) % 4 := by
          rcases hn with ⟨h, _⟩ | ⟨_, h, _⟩
          · exact absurd rfl h
          · rw [h] at hm; exact nxt_ends hm
        have HCN := hid (fun A al cl w hr => contains_any L (by omega) A al cl t' p' o' true ⟨fun _ => hm, fun _ => rfl⟩ w hr)
        obtain ⟨q, hq⟩ : ∃ q, q = (o + 2) % 4 := ⟨_, rfl⟩
        have HBK := hid (fun w hT => back_yes (t := t') (p := p') (s := o') (o := q) (by rw [hq, ← hnb.2]; exact hnb.1) (by rw [hq]; exact hnb.2) w hT)
        obtain ⟨k, f, hF⟩ := FindIs.ex hok.asc t' p' q
        have HFI := hid (fun w hS => find_any d.lo d.l d.lcap d.S hok.few t' p' q k f hF w hS)
        obtain ⟨c, hc⟩ : ∃ c, c = cutB d t p o := ⟨_, rfl⟩
        have HST := hid (fun w hH => stands_to d hok t p o c hc w hH)
        rw [← hc, ← hq] at hbb
        have hag : agB d t' p' q = (f && ((d.S k).k != 4)) := by
          rw [Bool.eq_iff_iff, agB_iff]
          constructor
          · rintro ⟨i, hi, e1, e2, e3, h4⟩
            obtain ⟨rfl, hf⟩ := hF.found hok.asc hi e1 e2 e3
            rw [hf]; simpa using h4
          · intro h
            simp at h
            have := hF.hit.1 h.1
            exact ⟨k, this.1, this.2.1, this.2.2.1, this.2.2.2, h.2⟩
        rw [hag] at hbb
        have HFF := hid hF
        have HBB := hid hbb
        clear hd hn hok hm hnb hq hc hag hbb hF
        cases f
        · have hbt : Hid (b = true) := hid (by rw [HBB.out]; simp)
          rw [hbt.out]
          cases c
          all_goals
            go_enter Tryd.func38, Tryd.ntmps38
            go_upto_region 1 with fail
            generalize World.alloc (World.alloc (World.alloc w _) _) _ = wm at HM ⊢
            have c0 := HM.out.rx.c0
            have c1 := HM.out.rx.c1
            have c2 := HM.out.rx.c2
            have c3 := HM.out.rx.c3
            have s0 := HM.out.s0
            have s1 := HM.out.s1
            have s2 := HM.out.s2
            have n0 := HM.out.n0
            have n1 := HM.out.n1
            have n2 := HM.out.n2
            have hz := HM.out.size
            go_wp2_with (first
              | (go_at_call 19; (refine (HV.out _ HM.out.has).mono ?_); rintro r w1 ⟨rfl, hb⟩; have HN := hid (HM.out.stays hb); clear hb c0 c1 c2 c3 s0 s1 s2 n0 n1 n2 hz HM; have HM := HN; clear HN; have c0 := HM.out.rx.c0; have c1 := HM.out.rx.c1; have c2 := HM.out.rx.c2; have c3 := HM.out.rx.c3; have s0 := HM.out.s0; have s1 := HM.out.s1; have s2 := HM.out.s2; have n0 := HM.out.n0; have n1 := HM.out.n1; have n2 := HM.out.n2; have hz := HM.out.size)
              | (go_at_call 73; (refine (HX.out _ HM.out.has).mono ?_); rintro r w1 ⟨lst, rfl, hrow, hb⟩; obtain ⟨al, cl, rfl⟩ := slice_of_row hrow; have HR := hid hrow; have HN := hid (HM.out.stays hb); clear hb c0 c1 c2 c3 s0 s1 s2 n0 n1 n2 hz HM; have HM := HN; clear HN; have c0 := HM.out.rx.c0; have c1 := HM.out.rx.c1; have c2 := HM.out.rx.c2; have c3 := HM.out.rx.c3; have s0 := HM.out.s0; have s1 := HM.out.s1; have s2 := HM.out.s2; have n0 := HM.out.n0; have n1 := HM.out.n1; have n2 := HM.out.n2; have hz := HM.out.size; clear hrow)
              | (go_at_call 77; (refine (HCN.out _ _ _ _ HR.out).mono ?_); rintro r w1 ⟨rfl, hb⟩; have HN := hid (HM.out.stays hb); clear hb c0 c1 c2 c3 s0 s1 s2 n0 n1 n2 hz HM; have HM := HN; clear HN; have c0 := HM.out.rx.c0; have c1 := HM.out.rx.c1; have c2 := HM.out.rx.c2; have c3 := HM.out.rx.c3; have s0 := HM.out.s0; have s1 := HM.out.s1; have s2 := HM.out.s2; have n0 := HM.out.n0; have n1 := HM.out.n1; have n2 := HM.out.n2; have hz := HM.out.size)
              | (go_at_call 78; (refine (HBK.out _ HM.out.has.tab).mono ?_); rintro r w1 ⟨rfl, hb⟩; have HN := hid (HM.out.stays hb); clear hb c0 c1 c2 c3 s0 s1 s2 n0 n1 n2 hz HM; have HM := HN; clear HN; have c0 := HM.out.rx.c0; have c1 := HM.out.rx.c1; have c2 := HM.out.rx.c2; have c3 := HM.out.rx.c3; have s0 := HM.out.s0; have s1 := HM.out.s1; have s2 := HM.out.s2; have n0 := HM.out.n0; have n1 := HM.out.n1; have n2 := HM.out.n2; have hz := HM.out.size; have HMB := hid (HM.out.stays (Joins.below_alloc1 w1 (.cells #[.int .i64 t', .int .i64 p', .int .i64 q] 50))))
              | (go_at_call 61; (refine (HFI.out _ HMB.out.has.sigs).mono ?_); rintro r w1 ⟨rfl, hb⟩; clear HM; have HM := HMB; clear HMB; have HN := hid (HM.out.stays hb); clear hb c0 c1 c2 c3 s0 s1 s2 n0 n1 n2 hz HM; have HM := HN; clear HN; have c0 := HM.out.rx.c0; have c1 := HM.out.rx.c1; have c2 := HM.out.rx.c2; have c3 := HM.out.rx.c3; have s0 := HM.out.s0; have s1 := HM.out.s1; have s2 := HM.out.s2; have n0 := HM.out.n0; have n1 := HM.out.n1; have n2 := HM.out.n2; have hz := HM.out.size)
              | (go_at_call 79; (refine (HST.out _ HM.out.has).mono ?_); rintro r w1 ⟨rfl, hb⟩; have HN := hid (HM.out.stays hb); clear hb c0 c1 c2 c3 s0 s1 s2 n0 n1 n2 hz HM; have HM := HN; clear HN; have c0 := HM.out.rx.c0; have c1 := HM.out.rx.c1; have c2 := HM.out.rx.c2; have c3 := HM.out.rx.c3; have s0 := HM.out.s0; have s1 := HM.out.s1; have s2 := HM.out.s2; have n0 := HM.out.n0; have n1 := HM.out.n1; have n2 := HM.out.n2; have hz := HM.out.size))
            go_ret2
            exact ⟨rfl, HM.out.below⟩
        · have hkl := (HFF.out.hit.1 rfl).1
          obtain ⟨z, hz4⟩ : ∃ z, z = ((d.S k).k != 4) := ⟨_, rfl⟩
          have hbt : Hid (b = (c || !z)) := hid (by rw [HBB.out, hz4]; simp)
          rw [hbt.out]
          obtain ⟨kk, hkk⟩ : ∃ kk, kk = (d.S k).k := ⟨_, rfl⟩
          rw [← hkk] at hz4
          have HK := hid hkk
          have hz5 := hz4.symm
          clear hkk hz4
          obtain ⟨bl, off, hlo, hbz0, _⟩ := HM.out.has.sigs k hkl
          obtain ⟨dW, dH, dn, dcap, dm, dbcap, dl, dlcap, dao, dbo, dlo, dZ, dB, dS⟩ := d
          dsimp only at hlo hkl HK
          subst hlo
          simp only [Rl.ls]
          have hk2 : (k : Int) < (dl : Int) := by omega
          cases c <;> cases z
          all_goals
            go_enter Tryd.func38, Tryd.ntmps38
            go_upto_region 1 with fail
            generalize World.alloc (World.alloc (World.alloc w _) _) _ = wm at HM ⊢
            have c0 := HM.out.rx.c0
            have c1 := HM.out.rx.c1
            have c2 := HM.out.rx.c2
            have c3 := HM.out.rx.c3
            have s0 := HM.out.s0
            have s1 := HM.out.s1
            have s2 := HM.out.s2
            have n0 := HM.out.n0
            have n1 := HM.out.n1
            have n2 := HM.out.n2
            have hz := HM.out.size
            go_wp2_with (first
              | (go_at_call 19; (refine (HV.out _ HM.out.has).mono ?_); rintro r w1 ⟨rfl, hb⟩; have HN := hid (HM.out.stays hb); clear hb c0 c1 c2 c3 s0 s1 s2 n0 n1 n2 hz HM; have HM := HN; clear HN; have c0 := HM.out.rx.c0; have c1 := HM.out.rx.c1; have c2 := HM.out.rx.c2; have c3 := HM.out.rx.c3; have s0 := HM.out.s0; have s1 := HM.out.s1; have s2 := HM.out.s2; have n0 := HM.out.n0; have n1 := HM.out.n1; have n2 := HM.out.n2; have hz := HM.out.size)
              | (go_at_call 73; (refine (HX.out _ HM.out.has).mono ?_); rintro r w1 ⟨lst, rfl, hrow, hb⟩; obtain ⟨al, cl, rfl⟩ := slice_of_row hrow; have HR := hid hrow; have HN := hid (HM.out.stays hb); clear hb c0 c1 c2 c3 s0 s1 s2 n0 n1 n2 hz HM; have HM := HN; clear HN; have c0 := HM.out.rx.c0; have c1 := HM.out.rx.c1; have c2 := HM.out.rx.c2; have c3 := HM.out.rx.c3; have s0 := HM.out.s0; have s1 := HM.out.s1; have s2 := HM.out.s2; have n0 := HM.out.n0; have n1 := HM.out.n1; have n2 := HM.out.n2; have hz := HM.out.size; clear hrow)
              | (go_at_call 77; (refine (HCN.out _ _ _ _ HR.out).mono ?_); rintro r w1 ⟨rfl, hb⟩; have HN := hid (HM.out.stays hb); clear hb c0 c1 c2 c3 s0 s1 s2 n0 n1 n2 hz HM; have HM := HN; clear HN; have c0 := HM.out.rx.c0; have c1 := HM.out.rx.c1; have c2 := HM.out.rx.c2; have c3 := HM.out.rx.c3; have s0 := HM.out.s0; have s1 := HM.out.s1; have s2 := HM.out.s2; have n0 := HM.out.n0; have n1 := HM.out.n1; have n2 := HM.out.n2; have hz := HM.out.size)
              | (go_at_call 78; (refine (HBK.out _ HM.out.has.tab).mono ?_); rintro r w1 ⟨rfl, hb⟩; have HN := hid (HM.out.stays hb); clear hb c0 c1 c2 c3 s0 s1 s2 n0 n1 n2 hz HM; have HM := HN; clear HN; have c0 := HM.out.rx.c0; have c1 := HM.out.rx.c1; have c2 := HM.out.rx.c2; have c3 := HM.out.rx.c3; have s0 := HM.out.s0; have s1 := HM.out.s1; have s2 := HM.out.s2; have n0 := HM.out.n0; have n1 := HM.out.n1; have n2 := HM.out.n2; have hz := HM.out.size; have HMB := hid (HM.out.stays (Joins.below_alloc1 w1 (.cells #[.int .i64 t', .int .i64 p', .int .i64 q] 50))))
              | (go_at_call 61; (refine (HFI.out _ HMB.out.has.sigs).mono ?_); rintro r w1 ⟨rfl, hb⟩; clear HM; have HM := HMB; clear HMB; have HN := hid (HM.out.stays hb); clear hb c0 c1 c2 c3 s0 s1 s2 n0 n1 n2 hz HM; have HM := HN; clear HN; have c0 := HM.out.rx.c0; have c1 := HM.out.rx.c1; have c2 := HM.out.rx.c2; have c3 := HM.out.rx.c3; have s0 := HM.out.s0; have s1 := HM.out.s1; have s2 := HM.out.s2; have n0 := HM.out.n0; have n1 := HM.out.n1; have n2 := HM.out.n2; have hz := HM.out.size; have k3 : w1.cell? ⟨bl, off + k * 4 + 3, none⟩ = some (.int .i64 kk) := (by obtain ⟨bl', off', hlo', _, _, _, _, k3'⟩ := HM.out.has.sigs k hkl; cases hlo'; rw [HK.out]; exact k3'); have hbz : bl < w1.heap.size := (by obtain ⟨bl', off', hlo', hz', _⟩ := HM.out.has.sigs k hkl; cases hlo'; exact hz'))
              | (go_at_call 79; (refine (HST.out _ HM.out.has).mono ?_); rintro r w1 ⟨rfl, hb⟩; have HN := hid (HM.out.stays hb); clear hb c0 c1 c2 c3 s0 s1 s2 n0 n1 n2 hz HM; have HM := HN; clear HN; have c0 := HM.out.rx.c0; have c1 := HM.out.rx.c1; have c2 := HM.out.rx.c2; have c3 := HM.out.rx.c3; have s0 := HM.out.s0; have s1 := HM.out.s1; have s2 := HM.out.s2; have n0 := HM.out.n0; have n1 := HM.out.n1; have n2 := HM.out.n2; have hz := HM.out.size))
            go_ret2
            exact ⟨rfl, HM.out.below⟩
end Go.Proofs.YtbfpcolkbfljoaaDoor
