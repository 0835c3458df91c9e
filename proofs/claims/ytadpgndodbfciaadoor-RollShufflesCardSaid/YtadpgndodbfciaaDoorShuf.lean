/-
  The order in which numbers come, in plain numbers; and the memory in which they are exchanged.
-/
import Derived.Test.YtadpgndodbfciaaDoorWalkPick
namespace Go.Proofs.YtadpgndodbfciaaDoor
open Go.RowKit

/-- The numbers at two places, exchanged. -/
def swapL (L : List Int) (i j : Nat) : List Int := (L.set i (L.getD j 0)).set j (L.getD i 0)
theorem swapL_length (L : List Int) (i j : Nat) : (swapL L i j).length = L.length := by simp [swapL]
theorem swapL_get (L : List Int) (i j p : Nat) (hi : i < L.length) (hj : j < L.length) (hp : p < L.length) :
    (swapL L i j).getD p 0 = L.getD (if p = j then i else if p = i then j else p) 0 := by
  unfold swapL
  simp only [List.getD_eq_getElem?_getD, List.getElem?_set, List.length_set]
  by_cases h1 : j = p
  · subst h1; simp [hj]
  · by_cases h2 : i = p
    · subst h2; simp [h1, hi, show ¬ i = j from fun h => h1 h.symm]
    · simp [h1, h2, show ¬ p = j from fun h => h1 h.symm, show ¬ p = i from fun h => h2 h.symm]

/-- Which draw is the first one that is taken, and what it gives. -/
noncomputable def kOf (a n : Int) : Nat := leastOf (fun k => Found a n k)
theorem kOf_found (a : Int) {n : Int} (h1 : 1 ≤ n) (h2 : n ≤ 9223372036854775807) : Found a n (kOf a n) := (leastOf_spec (found_ex a h1 h2)).1
noncomputable def jOf (a : Int) (i : Nat) : Nat := (numAt a (kOf a ((i : Int) + 1)) % ((i : Int) + 1)).toNat
theorem jOf_le (a : Int) (i : Nat) : jOf a i ≤ i := by
  unfold jOf
  have := Int.emod_lt_of_pos (numAt a (kOf a ((i : Int) + 1))) (show (0 : Int) < (i : Int) + 1 by omega)
  omega
theorem jOf_eq (a : Int) (i : Nat) : numAt a (kOf a ((i : Int) + 1)) % ((i : Int) + 1) = (jOf a i : Int) := by
  unfold jOf
  have := Int.emod_nonneg (numAt a (kOf a ((i : Int) + 1))) (show (i : Int) + 1 ≠ 0 by omega)
  omega
noncomputable def aOf (a : Int) (i : Nat) : Int := skipTo a (kOf a ((i : Int) + 1))
/-- The exchanges from the place i on downwards: the list and the stream behind them. -/
noncomputable def shuf : Nat → List Int → Int → List Int × Int
  | 0, L, a => (L, a)
  | i + 1, L, a => shuf i (swapL L (i + 1) (jOf a (i + 1))) (aOf a (i + 1))

theorem shuf_step (i : Nat) (L : List Int) (a : Int) (h : 1 ≤ i) : shuf i L a = shuf (i - 1) (swapL L i (jOf a i)) (aOf a i) := by
  obtain ⟨k, rfl⟩ : ∃ k, i = k + 1 := ⟨i - 1, by omega⟩
  rfl
/-- A list holds the numbers below n, each once. -/
def Good (L : List Int) (n : Nat) : Prop := L.length = n ∧ (∀ p, p < n → 0 ≤ L.getD p 0 ∧ L.getD p 0 < n) ∧ ∀ p q, p < n → q < n → L.getD p 0 = L.getD q 0 → p = q
theorem Good.swap {L : List Int} {n i j : Nat} (h : Good L n) (hi : i < n) (hj : j < n) : Good (swapL L i j) n := by
  obtain ⟨h1, h2, h3⟩ := h
  have hs : ∀ p, p < n → (if p = j then i else if p = i then j else p) < n := fun p hp => by (repeat' split) <;> omega
  refine ⟨by rw [swapL_length, h1], fun p hp => ?_, fun p q hp hq e => ?_⟩
  · rw [swapL_get L i j p (by omega) (by omega) (by omega)]
    exact h2 _ (hs p hp)
  · rw [swapL_get L i j p (by omega) (by omega) (by omega), swapL_get L i j q (by omega) (by omega) (by omega)] at e
    have := h3 _ _ (hs p hp) (hs q hq) e
    revert this
    (repeat' split) <;> omega
theorem Good.shuf {n : Nat} : ∀ {i : Nat} {L : List Int} {a : Int}, Good L n → (i < n ∨ i = 0) → Good (shuf i L a).1 n
  | 0, _, _, h, _ => h
  | i + 1, L, a, h, hi => by
    have := jOf_le a (i + 1)
    exact Good.shuf (i := i) (h.swap (by omega) (by omega)) (by omega)
/-- The numbers below n in their order. -/
def iota (n : Nat) : List Int := (List.range n).map fun k : Nat => (k : Int)
theorem iota_length (n : Nat) : (iota n).length = n := by simp [iota]
theorem iota_get (n p : Nat) (h : p < n) : (iota n).getD p 0 = p := by simp [iota, h]
theorem iota_snoc (n : Nat) : iota (n + 1) = iota n ++ [(n : Int)] := by simp [iota, List.range_succ]
theorem iota_good (n : Nat) : Good (iota n) n := by
  refine ⟨iota_length n, fun p hp => by rw [iota_get n p hp]; omega, fun p q hp hq e => ?_⟩
  rw [iota_get n p hp, iota_get n q hq] at e
  omega

/-- The memory: the stream's cell b, the result's cell b + 1, one cell more, and the row g of the numbers. -/
structure St (b c g N : Nat) (u : Value) (a : Int) (f : Nat → Int) (w w' : World) : Prop where
  below : Below b w w'
  hb : b + 1 < w'.heap.size
  hc : c < w'.heap.size
  hg : g < w'.heap.size
  hcb : c ≠ b
  hcg : c ≠ g
  hbg : b + 1 < g
  cb : w'.cell? ⟨b, 0, none⟩ = some (.int .u64 a)
  fb : w'.frozen? ⟨b, 0, none⟩ = false
  cr : w'.cell? ⟨b + 1, 0, none⟩ = some (.int .u64 0)
  fr : w'.frozen? ⟨b + 1, 0, none⟩ = false
  cc : w'.cell? ⟨c, 0, none⟩ = some u
  cg : ∀ p, p < N → w'.cell? ⟨g, p, none⟩ = some (.int .i64 (f p))
  fg : ∀ p, p < N → w'.frozen? ⟨g, p, none⟩ = false

theorem St.call {b c g N : Nat} {u : Value} {a : Int} {f : Nat → Int} {w w' w'' : World} (h : St b c g N u a f w w') (k : Below w'.heap.size w' w'') : St b c g N u a f w w'' := by
  have hs := k.size
  have h1 := h.hb
  have h2 := h.hc
  have h3 := h.hg
  exact ⟨h.below.trans (k.mono (by omega)), by omega, by omega, by omega, h.hcb, h.hcg, h.hbg, (k.cell (p := ⟨b, 0, none⟩) (by show b < _; omega)).trans h.cb, (k.frozen (p := ⟨b, 0, none⟩) (by show b < _; omega)).trans h.fb,
    (k.cell (p := ⟨b + 1, 0, none⟩) h1).trans h.cr, (k.frozen (p := ⟨b + 1, 0, none⟩) h1).trans h.fr, (k.cell (p := ⟨c, 0, none⟩) h2).trans h.cc,
    fun p hp => (k.cell (p := ⟨g, p, none⟩) h3).trans (h.cg p hp), fun p hp => (k.frozen (p := ⟨g, p, none⟩) h3).trans (h.fg p hp)⟩
theorem St.alloc {b c g N : Nat} {u : Value} {a : Int} {f : Nat → Int} {w w' : World} (h : St b c g N u a f w w') (o : Obj) : St b c g N u a f w (w'.alloc o) := h.call (Joins.below_alloc1 _ _)
theorem St.drew {b c g N : Nat} {u : Value} {a : Int} {f : Nat → Int} {w w' : World} (h : St b c g N u a f w w') : St b c g N u a f w w'.drew := h.call (Below.refl _ _).drew
theorem St.setG {b c g N : Nat} {u : Value} {a : Int} {f : Nat → Int} {w w' : World} (h : St b c g N u a f w w') (i : Nat) (hi : i < N) (x : Int) :
    St b c g N u a (fun p => if p = i then x else f p) w (w'.setCell ⟨g, i, none⟩ (.int .i64 x)) := by
  have h1 := h.hbg
  have e : (w'.setCell ⟨g, i, none⟩ (.int .i64 x)).heap.size = w'.heap.size := World.size_setCell _ _ _
  have oth : ∀ (y o : Nat), y ≠ g → (w'.setCell ⟨g, i, none⟩ (.int .i64 x)).cell? ⟨y, o, none⟩ = w'.cell? ⟨y, o, none⟩ := fun y o hy =>
    World.cell?_setCell_other _ _ _ _ (by intro k; cases k; exact hy rfl)
  have frz : ∀ p, (w'.setCell ⟨g, i, none⟩ (.int .i64 x)).frozen? p = w'.frozen? p := fun p => World.frozen?_setCell _ _ _ _
  refine ⟨h.below.setCell (p := ⟨g, i, none⟩) (by show b ≤ g; omega) _, by rw [e]; exact h.hb, by rw [e]; exact h.hc, by rw [e]; exact h.hg, h.hcb, h.hcg, h.hbg, by rw [oth b 0 (by omega)]; exact h.cb, by rw [frz]; exact h.fb,
    by rw [oth (b + 1) 0 (by omega)]; exact h.cr, by rw [frz]; exact h.fr, by rw [oth c 0 h.hcg]; exact h.cc, fun p hp => ?_, fun p hp => by rw [frz]; exact h.fg p hp⟩
  by_cases hpi : p = i
  · subst hpi
    rw [World.cell?_setCell_same _ _ _ (h.cg p hp), if_pos rfl]
  · rw [World.cell?_setCell_other _ _ _ _ (by intro k; cases k; exact hpi rfl), if_neg hpi]
    exact h.cg p hp
theorem St.setB {b c g N : Nat} {u : Value} {a : Int} {f : Nat → Int} {w w' : World} (h : St b c g N u a f w w') (x : Int) : St b c g N u x f w (w'.setCell ⟨b, 0, none⟩ (.int .u64 x)) := by
  have h1 := h.hbg
  have e : (w'.setCell ⟨b, 0, none⟩ (.int .u64 x)).heap.size = w'.heap.size := World.size_setCell _ _ _
  have oth : ∀ (y o : Nat), y ≠ b → (w'.setCell ⟨b, 0, none⟩ (.int .u64 x)).cell? ⟨y, o, none⟩ = w'.cell? ⟨y, o, none⟩ := fun y o hy =>
    World.cell?_setCell_other _ _ _ _ (by intro k; cases k; exact hy rfl)
  have frz : ∀ p, (w'.setCell ⟨b, 0, none⟩ (.int .u64 x)).frozen? p = w'.frozen? p := fun p => World.frozen?_setCell _ _ _ _
  exact ⟨h.below.setCell (p := ⟨b, 0, none⟩) (Nat.le_refl b) _, by rw [e]; exact h.hb, by rw [e]; exact h.hc, by rw [e]; exact h.hg, h.hcb, h.hcg, h.hbg, World.cell?_setCell_same _ _ _ h.cb, by rw [frz]; exact h.fb,
    by rw [oth (b + 1) 0 (by omega)]; exact h.cr, by rw [frz]; exact h.fr, by rw [oth c 0 h.hcb]; exact h.cc, fun p hp => by rw [oth g p (by omega)]; exact h.cg p hp, fun p hp => by rw [frz]; exact h.fg p hp⟩
theorem St.but {b c g N : Nat} {u : Value} {a x : Int} {f : Nat → Int} {w w' w'' : World} (h : St b c g N u a f w w') (k : But b (.int .u64 x) w' w'') : St b c g N u x f w w'' := by
  have hs := k.size
  have h1 := h.hb
  have h2 := h.hc
  have h3 := h.hg
  have h4 := h.hbg
  exact ⟨h.below.trans k.below, by omega, by omega, by omega, h.hcb, h.hcg, h.hbg, k.at_, (k.frozen b 0 (by omega)).trans h.fb, (k.cell (b + 1) 0 h1 (by omega)).trans h.cr, (k.frozen (b + 1) 0 h1).trans h.fr,
    (k.cell c 0 h2 h.hcb).trans h.cc, fun p hp => (k.cell g p h3 (by omega)).trans (h.cg p hp), fun p hp => (k.frozen g p h3).trans (h.fg p hp)⟩
theorem St.congr {b c g N : Nat} {u : Value} {a : Int} {f f' : Nat → Int} {w w' : World} (h : St b c g N u a f w w') (e : ∀ p, p < N → f p = f' p) : St b c g N u a f' w w' :=
  ⟨h.below, h.hb, h.hc, h.hg, h.hcb, h.hcg, h.hbg, h.cb, h.fb, h.cr, h.fr, h.cc, fun p hp => by rw [← e p hp]; exact h.cg p hp, h.fg⟩
/-- A new cell in the place of c. -/
theorem St.newc {b c g N : Nat} {u : Value} {a : Int} {f : Nat → Int} {w w' : World} (h : St b c g N u a f w w') (v : Value) (t : TypeId) : St b w'.heap.size g N v a f w (w'.alloc (.cells #[v] t)) := by
  have k := h.alloc (.cells #[v] t)
  have h1 := h.hb
  have h3 := h.hg
  exact ⟨k.below, k.hb, by rw [World.size_alloc]; omega, k.hg, by omega, by omega, k.hbg, k.cb, k.fb, k.cr, k.fr, World.cell?_alloc_at _ _ _ _ rfl, k.cg, k.fg⟩
/-- The result's cell is written: what of the memory stays. -/
theorem St.ret {b c g N : Nat} {u : Value} {a : Int} {f : Nat → Int} {w w' : World} (h : St b c g N u a f w w') (x : Value) :
    Below b w (w'.setCell ⟨b + 1, 0, none⟩ x).drew ∧ g < (w'.setCell ⟨b + 1, 0, none⟩ x).drew.heap.size ∧ ∀ p, p < N → (w'.setCell ⟨b + 1, 0, none⟩ x).drew.cell? ⟨g, p, none⟩ = some (.int .i64 (f p)) := by
  have h1 := h.hbg
  refine ⟨(h.below.setCell (p := ⟨b + 1, 0, none⟩) (Nat.le_succ b) _).drew, ?_, fun p hp => ?_⟩
  · have := h.hg
    simpa using this
  · have e : (w'.setCell ⟨b + 1, 0, none⟩ x).cell? ⟨g, p, none⟩ = w'.cell? ⟨g, p, none⟩ := World.cell?_setCell_other _ _ _ _ (by intro k; cases k; omega)
    exact e.trans (h.cg p hp)
theorem St.swap {b c g : Nat} {u : Value} {a : Int} {L : List Int} {w w' : World} (h : St b c g L.length u a (fun p => L.getD p 0) w w') (i j : Nat) (hi : i < L.length) (hj : j < L.length) :
    St b c g (swapL L i j).length u a (fun p => (swapL L i j).getD p 0) w ((w'.setCell ⟨g, i, none⟩ (.int .i64 (L.getD j 0))).setCell ⟨g, j, none⟩ (.int .i64 (L.getD i 0))) := by
  have k := (h.setG i hi (L.getD j 0)).setG j hj (L.getD i 0)
  rw [swapL_length]
  refine ⟨k.below, k.hb, k.hc, k.hg, k.hcb, k.hcg, k.hbg, k.cb, k.fb, k.cr, k.fr, k.cc, fun p hp => ?_, k.fg⟩
  rw [k.cg p hp, swapL_get L i j p hi hj hp]
  congr 2
  (repeat' split) <;> rfl

/-- What a make lays. -/
theorem st_made {w w1 : World} {s : Int} {n : Nat} {t t' : TypeId}
    (hown : w1.ownsRow 0 3 1 (.slice (some ⟨((w.alloc (.cells #[.int .u64 s] t)).alloc (.cells #[.int .u64 0] t')).heap.size, 0, none⟩) n n) n (madeCells (Value.int IntKind.i64 0).cells (n * 1)).toList)
    (hgrow : ((w.alloc (.cells #[.int .u64 s] t)).alloc (.cells #[.int .u64 0] t')).grownBy w1 none) :
    St w.heap.size (w.heap.size + 1) (w.heap.size + 2) n (.int .u64 0) s (fun _ => 0) w w1 := by
  have e : ((w.alloc (.cells #[.int .u64 s] t)).alloc (.cells #[.int .u64 0] t')).heap.size = w.heap.size + 2 := by simp
  rw [e] at hown
  have hgs : w.heap.size + 2 < w1.heap.size := by
    rcases hown.2 with ⟨h, _⟩ | ⟨g, cap, cur, hv, _, hh, _⟩
    · cases h
    · simp only [Value.slice.injEq, Option.some.injEq, Addr.mk.injEq] at hv
      obtain ⟨⟨rfl, _⟩, _⟩ := hv
      by_cases hl : w.heap.size + 2 < w1.heap.size
      · exact hl
      · rw [Array.getElem?_eq_none (by omega)] at hh; cases hh
  have hb : Below ((w.alloc (.cells #[.int .u64 s] t)).alloc (.cells #[.int .u64 0] t')).heap.size ((w.alloc (.cells #[.int .u64 s] t)).alloc (.cells #[.int .u64 0] t')) w1 :=
    (Below.refl _ _).grown hgrow (Nat.le_refl _) (fun k hk => by cases hk)
  refine ⟨(Joins.below_alloc2 w _ _).trans (hb.mono (by simp; omega)), by omega, by omega, hgs, by omega, by omega, by omega, ?_, ?_, ?_, ?_, ?_, fun p hp => ?_, fun p _ => hown.frozenAt p⟩
  · rw [hb.cell (p := ⟨w.heap.size, 0, none⟩) (by rw [e]; simp)]; simp
  · rw [hb.frozen (p := ⟨w.heap.size, 0, none⟩) (by rw [e]; simp)]; simp
  · rw [hb.cell (p := ⟨w.heap.size + 1, 0, none⟩) (by rw [e]; simp)]; simp
  · rw [hb.frozen (p := ⟨w.heap.size + 1, 0, none⟩) (by rw [e]; simp)]; simp
  · rw [hb.cell (p := ⟨w.heap.size + 1, 0, none⟩) (by rw [e]; simp)]; simp
  · rw [hown.cellAt p (by omega)]
    have : (madeCells (Value.int IntKind.i64 0).cells (n * 1)).toList = List.replicate n (Value.int IntKind.i64 0) := by rw [Nat.mul_one]; exact toList_madeCells_one _ _
    rw [this]; simp [hp]

theorem draw_j (a : Int) (i : Nat) (hi : i ≤ 1000) (b c : Nat) (w : World) (hc : w.cell? ⟨c, 0, none⟩ = some (.pointer (some ⟨b, 0, none⟩)))
    (hb : w.cell? ⟨b, 0, none⟩ = some (.int .u64 a)) (hbf : w.frozen? ⟨b, 0, none⟩ = false) (hbz : b < w.heap.size) (hcz : c < w.heap.size) :
    Calls Tryd.prog 44 #[.int .i64 ((i : Int) + 1), .pointer (some ⟨c, 0, none⟩)] w fun e w' => e = .returned (.int .i64 (jOf a i)) ∧ But b (.int .u64 (aOf a i)) w w' := by
  refine (draw_any a ((i : Int) + 1) (by omega) (by omega) b c w hc hb hbf hbz hcz).mono ?_
  rintro e w' ⟨k, hk, he, hbut⟩
  obtain rfl := found_one hk (kOf_found a (n := (i : Int) + 1) (by omega) (by omega))
  exact ⟨by rw [he, jOf_eq], hbut⟩
theorem refbelow_j (a : Int) (i : Nat) (hi : i ≤ 1000) (w : World) : Calls Tryd.prog 20 #[.agg #[.int .u64 a], .int .i64 ((i : Int) + 1)] w fun e w' =>
    e = .returned (.tuple #[.int .i64 (jOf a i), .agg #[.int .u64 (aOf a i)]]) ∧ Below w.heap.size w w' := by
  refine (refbelow_any a ((i : Int) + 1) (by omega) (by omega) w).mono ?_
  rintro e w' ⟨k, hk, he, hb⟩
  obtain rfl := found_one hk (kOf_found a (n := (i : Int) + 1) (by omega) (by omega))
  exact ⟨by rw [he, jOf_eq]; rfl, hb⟩
end Go.Proofs.YtadpgndodbfciaaDoor
